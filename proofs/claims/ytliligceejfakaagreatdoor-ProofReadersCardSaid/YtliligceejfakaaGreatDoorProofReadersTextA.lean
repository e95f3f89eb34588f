/- The law ProofReaders at the reading: what the functions that it calls answer (1). -/
import Derived.Test.YtliligceejfakaaGreatDoorSwA
namespace Go.AX.Sa
open Go.Proofs
/-! What stands, told line by line. -/
/-- An entry: its kind, its numbers. -/
abbrev Ent := Int × List Int
def reads (e : Ent) (j : Int) : Prop := e.1 = 1 ∧ e.2.getD 2 0 ≤ j ∧ j ≤ e.2.getD 3 0
def changes (e : Ent) (j : Int) : Prop := (e.1 = 2 ∧ e.2.getD 1 0 = j) ∨ (e.1 = 3 ∧ e.2.getD 0 0 = j)
def inPair (e : Ent) (q : Int) : Prop := e.2.getD 0 0 = q ∨ e.2.getD 1 0 = q
instance (e : Ent) (j : Int) : Decidable (reads e j) := by unfold reads; infer_instance
instance (e : Ent) (j : Int) : Decidable (changes e j) := by unfold changes; infer_instance
instance (e : Ent) (j : Int) : Decidable (inPair e j) := by unfold inPair; infer_instance
def numS (j : Int) (a : Int) (e : Ent) : Int := if e.1 = 2 ∧ e.2.getD 1 0 = j then e.2.getD 2 0 else if e.1 = 3 ∧ e.2.getD 0 0 = j then a.tdiv 10 else a
def setS (j : Int) (a : Int) (e : Ent) : Int := if e.1 = 2 ∧ e.2.getD 1 0 = j then e.2.getD 0 0 else a
def hrdS (q : Int × Int) (b : Bool) (e : Ent) : Bool := if changes e q.1 then false else if reads e q.1 ∧ inPair e q.2 then true else b
/-- The number of a line, who set it, who has heard it. -/
def numF (L : List Ent) (j a : Int) : Int := L.foldl (numS j) a
def setF (L : List Ent) (j a : Int) : Int := L.foldl (setS j) a
def hrdF (L : List Ent) (q : Int × Int) : Bool := L.foldl (hrdS q) false
theorem numF_app (L M : List Ent) (j a : Int) : numF (L ++ M) j a = numF M j (numF L j a) := List.foldl_append ..
theorem setF_app (L M : List Ent) (j a : Int) : setF (L ++ M) j a = setF M j (setF L j a) := List.foldl_append ..
theorem zcU (L : List Ent) (e : Ent) (j a : Int) : numF (L ++ [e]) j a = numS j (numF L j a) e := by rw [numF_app]; rfl
theorem zdV (L : List Ent) (e : Ent) (j a : Int) : setF (L ++ [e]) j a = setS j (setF L j a) e := by rw [setF_app]; rfl
theorem zcY (L : List Ent) (e : Ent) (q : Int × Int) : hrdF (L ++ [e]) q = hrdS q (hrdF L q) e := by unfold hrdF; rw [List.foldl_append]; rfl
theorem zkc {α : Type} {P : List α → Prop} (h0 : P []) (h1 : ∀ l a, P l → P (l ++ [a])) (l : List α) : P l := by
  have key : ∀ m : List α, P m.reverse := by
    intro m
    induction m with
    | nil => exact h0
    | cons a m ih => rw [List.reverse_cons]; exact h1 _ _ ih
  rw [← List.reverse_reverse l]
  exact key _
/-- Who has heard a line since it was changed. -/
def Heard (L : List Ent) (j q : Int) : Prop := ∃ (i : Nat) (e : Ent), L[i]? = some e ∧ reads e j ∧ inPair e q ∧ ∀ (k : Nat) (e' : Ent), i ≤ k → L[k]? = some e' → ¬ changes e' j
theorem hrdF_iff (L : List Ent) (j q : Int) : hrdF L (j, q) = true ↔ Heard L j q := by
  induction L using zkc with
  | h0 => simp [hrdF, Heard]
  | h1 L e ih =>
    rw [zcY]
    unfold hrdS
    by_cases hc : changes e j
    · rw [if_pos hc]
      constructor
      · intro h; cases h
      · rintro ⟨i, e1, h1, h2, h3, h4⟩
        have hi := (List.getElem?_eq_some_iff.1 h1).1
        simp only [List.length_append, List.length_singleton] at hi
        exact absurd hc (h4 L.length e (by omega) (by simp))
    · rw [if_neg hc]
      by_cases hr : reads e j ∧ inPair e q
      · rw [if_pos hr]
        refine ⟨fun _ => ⟨L.length, e, by simp, hr.1, hr.2, fun k e' hk he => ?_⟩, fun _ => rfl⟩
        have hi := (List.getElem?_eq_some_iff.1 he).1
        simp only [List.length_append, List.length_singleton] at hi
        obtain rfl : k = L.length := by omega
        simp at he
        subst he; exact hc
      · rw [if_neg hr, ih]
        constructor
        · rintro ⟨i, e1, h1, h2, h3, h4⟩
          have hi := (List.getElem?_eq_some_iff.1 h1).1
          refine ⟨i, e1, by rw [List.getElem?_append_left hi]; exact h1, h2, h3, fun k e' hk he => ?_⟩
          by_cases hkl : k < L.length
          · rw [List.getElem?_append_left hkl] at he; exact h4 k e' hk he
          · have hk2 := (List.getElem?_eq_some_iff.1 he).1
            simp only [List.length_append, List.length_singleton] at hk2
            obtain rfl : k = L.length := by omega
            simp at he
            subst he; exact hc
        · rintro ⟨i, e1, h1, h2, h3, h4⟩
          have hi := (List.getElem?_eq_some_iff.1 h1).1
          simp only [List.length_append, List.length_singleton] at hi
          by_cases hil : i < L.length
          · rw [List.getElem?_append_left hil] at h1
            refine ⟨i, e1, h1, h2, h3, fun k e' hk he => h4 k e' hk ?_⟩
            rw [List.getElem?_append_left (List.getElem?_eq_some_iff.1 he).1]; exact he
          · obtain rfl : i = L.length := by omega
            simp at h1
            subst h1
            exact absurd ⟨h2, h3⟩ hr
/-- The readers of a line. -/
def rdrs (people : Nat) (L : List Ent) (j s : Int) : List Int := ((List.range people).map fun i : Nat => (i : Int)).filter fun q => hrdF L (j, q) && decide (q ≠ s)
def rdrsTo (k : Nat) (L : List Ent) (j s : Int) : List Int := rdrs k L j s
theorem zb2 (k : Nat) (L : List Ent) (j s : Int) : rdrs (k + 1) L j s = rdrs k L j s ++ (if hrdF L (j, (k : Int)) = true ∧ (k : Int) ≠ s then [(k : Int)] else []) := by
  unfold rdrs
  rw [List.range_succ, List.map_append, List.filter_append]
  congr 1
  by_cases h : hrdF L (j, (k : Int)) = true ∧ (k : Int) ≠ s
  · rw [if_pos h]; simp [h.1, h.2]
  · rw [if_neg h]
    simp only [List.map_cons, List.map_nil, List.filter_cons, List.filter_nil]
    rw [if_neg]
    simpa using h
theorem zcQ (k : Nat) (L : List Ent) (j s : Int) : (rdrs k L j s).length ≤ k := by
  unfold rdrs
  exact Nat.le_trans (List.length_filter_le _ _) (by simp)
end Go.AX.Sa

namespace Go.AX.Sa
open Go.Proofs
/-! Pages: what stands on them. -/
structure Pg where
  people : Int
  pl : Option Addr
  kl : Nat
  n : Nat
  l : List Int
  pg : Option Addr
  kg : Nat
  c : List Cop
def pgV (G : Pg) : Value := .agg #[.int .i64 G.people, .slice G.pl G.n G.kl, .slice G.pg G.c.length G.kg]
def pgC (G : Pg) : List Value := [.int .i64 G.people, .slice G.pl G.n G.kl, .slice G.pg G.c.length G.kg]
structure PgAt (G : Pg) (h : Heap) : Prop where
  len : G.l.length = G.n * 3
  rl : Rd h G.pl (ints G.l)
  rc : Rd h G.pg (copCells G.c)
  each : ∀ j, j < G.c.length → RowIn (G.c.getD j cop0).r h
  bl : ∀ a, G.pl = some a → a.block < h.n
  bg : ∀ a, G.pg = some a → a.block < h.n
theorem PgAt.ext {G : Pg} {h h1 : Heap} (x : PgAt G h) (e : Ext h h1) : PgAt G h1 :=
  ⟨x.len, x.rl.ext e, x.rc.ext e, fun j hj => (x.each j hj).ext e, fun a q => Nat.lt_of_lt_of_le (x.bl a q) e.n, fun a q => Nat.lt_of_lt_of_le (x.bg a q) e.n⟩
def ShortP (G : Pg) : Prop := G.n ≤ 8 ∧ G.c.length ≤ 12 ∧ ∀ j, j < G.c.length → (G.c.getD j cop0).r.s.length ≤ 6
def setr (G : Pg) (j : Nat) : Int := G.l.getD (j * 3) 0
def rght (G : Pg) (j : Nat) : Int := G.l.getD (j * 3 + 1) 0
def sett (G : Pg) (j : Nat) : Int := G.l.getD (j * 3 + 2) 0
def PersP (G : Pg) (q : Int) : Prop := 0 ≤ q ∧ q ≤ G.people - 1
def LinP (n : Nat) (q : Int) : Prop := 0 ≤ q ∧ q ≤ (n : Int) - 1
def NumP (q : Int) : Prop := -999 ≤ q ∧ q ≤ 999
def LineP (G : Pg) (j : Nat) : Prop := PersP G (setr G j) ∧ NumP (rght G j) ∧ NumP (sett G j)
def EntP (people : Int) (n : Nat) (e : Ent) : Prop :=
  (e.1 = 1 ∧ e.2.length = 4 ∧ ((0 ≤ e.2.getD 0 0 ∧ e.2.getD 0 0 ≤ people - 1) ∧ (0 ≤ e.2.getD 1 0 ∧ e.2.getD 1 0 ≤ people - 1) ∧ LinP n (e.2.getD 2 0) ∧ LinP n (e.2.getD 3 0)) ∧ e.2.getD 0 0 < e.2.getD 1 0 ∧ e.2.getD 2 0 ≤ e.2.getD 3 0) ∨
  (e.1 = 2 ∧ e.2.length = 3 ∧ (0 ≤ e.2.getD 0 0 ∧ e.2.getD 0 0 ≤ people - 1) ∧ LinP n (e.2.getD 1 0) ∧ NumP (e.2.getD 2 0)) ∨
  (e.1 = 3 ∧ e.2.length = 1 ∧ LinP n (e.2.getD 0 0))
def ent (c : Cop) : Ent := (c.par, c.r.s)
def logL (G : Pg) : List Ent := G.c.map ent
theorem zfr (G : Pg) : (logL G).length = G.c.length := by simp [logL]
theorem zcV {G : Pg} {j : Nat} (h : j < G.c.length) : (logL G)[j]? = some (ent (G.c.getD j cop0)) := by simp [logL, h]
structure PgP (G : Pg) : Prop where
  people : 2 ≤ G.people ∧ G.people ≤ 6
  n : 1 ≤ (G.n : Int) ∧ (G.n : Int) ≤ 6
  c : G.c.length ≤ 10
  line : ∀ j, j < G.n → LineP G j
  ent : ∀ j, j < G.c.length → EntP G.people G.n (ent (G.c.getD j cop0))
def numA (G : Pg) (L : List Ent) (j : Nat) : Int := numF L (j : Int) (sett G j)
def setA (G : Pg) (L : List Ent) (j : Nat) : Int := setF L (j : Int) (setr G j)
def numsL (G : Pg) (L : List Ent) : List Int := (List.range G.n).map (numA G L)
def setsL (G : Pg) (L : List Ent) : List Int := (List.range G.n).map (setA G L)
def rdA (G : Pg) (L : List Ent) (j : Nat) : List Int := rdrs G.people.toNat L (j : Int) (setA G L j)
def shortL (G : Pg) (L : List Ent) : List Int := (List.range G.n).map fun j => max 0 (2 - ((rdA G L j).length : Int))
def PassP (G : Pg) (L : List Ent) (j : Nat) : Prop := 2 ≤ (rdA G L j).length
def DiffP (G : Pg) (L : List Ent) (j : Nat) : Prop := numA G L j ≠ rght G j
instance (G : Pg) (L : List Ent) (j : Nat) : Decidable (PassP G L j) := by unfold PassP; infer_instance
instance (G : Pg) (L : List Ent) (j : Nat) : Decidable (DiffP G L j) := by unfold DiffP; infer_instance
/-- The numbers below that are so. -/
def filL (p : Nat → Prop) [DecidablePred p] (n : Nat) : List Int := ((List.range n).filter fun j => decide (p j)).map fun j : Nat => (j : Int)
def passL (G : Pg) (L : List Ent) : List Int := filL (PassP G L) G.n
def diffL (G : Pg) (L : List Ent) : List Int := filL (DiffP G L) G.n
theorem zdG (G : Pg) (L : List Ent) : (numsL G L).length = G.n := by simp [numsL]
theorem zh0 (G : Pg) (L : List Ent) : (setsL G L).length = G.n := by simp [setsL]
theorem zcr {G : Pg} {L : List Ent} {j : Nat} (h : j < G.n) : (numsL G L).getD j 0 = numA G L j := by simp [numsL, List.getD_eq_getElem?_getD, h]
theorem zfb {G : Pg} {L : List Ent} {j : Nat} (h : j < G.n) : (setsL G L).getD j 0 = setA G L j := by simp [setsL, List.getD_eq_getElem?_getD, h]
/-- What an entry makes of a page's lists. -/
theorem zfs {a b : List Int} (hl : a.length = b.length) (h : ∀ j, j < a.length → a.getD j 0 = b.getD j 0) : a = b := by
  refine List.ext_getElem hl fun j h1 h2 => ?_
  have := h j h1
  simpa [List.getD_eq_getElem?_getD, h1, h2] using this
theorem zfv {l : List Int} {i j : Nat} {v : Int} (hi : i < l.length) : (l.set i v).getD j 0 = if j = i then v else l.getD j 0 := by
  simp only [List.getD_eq_getElem?_getD, List.getElem?_set]
  by_cases h : i = j
  · subst h; simp [hi]
  · rw [if_neg h, if_neg (fun q => h q.symm)]
theorem zkx {G : Pg} {L : List Ent} {e : Ent} (he : e.1 = 1) : numsL G (L ++ [e]) = numsL G L := by
  unfold numsL
  refine List.map_congr_left fun j _ => ?_
  unfold numA
  rw [zcU, numS, if_neg (by omega), if_neg (by omega)]
theorem zeQ {G : Pg} {L : List Ent} {e : Ent} (he : e.1 ≠ 2) : setsL G (L ++ [e]) = setsL G L := by
  unfold setsL
  refine List.map_congr_left fun j _ => ?_
  unfold setA
  rw [zdV, setS, if_neg (by omega)]
theorem zky {G : Pg} {L : List Ent} {e : Ent} {j : Nat} (he : e.1 = 2) (hj : e.2.getD 1 0 = (j : Int)) (hn : j < G.n) : numsL G (L ++ [e]) = (numsL G L).set j (e.2.getD 2 0) := by
  refine zfs (by simp [numsL]) fun i hi => ?_
  rw [zdG] at hi
  rw [zcr hi, zfv (by rw [zdG]; exact hn), zcr hi]
  unfold numA
  rw [zcU, numS]
  by_cases hij : i = j
  · subst hij; rw [if_pos ⟨he, hj⟩, if_pos rfl]
  · rw [if_neg (by omega), if_neg (by omega), if_neg hij]
theorem zjW {G : Pg} {L : List Ent} {e : Ent} {j : Nat} (he : e.1 = 2) (hj : e.2.getD 1 0 = (j : Int)) (hn : j < G.n) : setsL G (L ++ [e]) = (setsL G L).set j (e.2.getD 0 0) := by
  refine zfs (by simp [setsL]) fun i hi => ?_
  rw [zh0] at hi
  rw [zfb hi, zfv (by rw [zh0]; exact hn), zfb hi]
  unfold setA
  rw [zdV, setS]
  by_cases hij : i = j
  · subst hij; rw [if_pos ⟨he, hj⟩, if_pos rfl]
  · rw [if_neg (by omega), if_neg hij]
theorem zkz {G : Pg} {L : List Ent} {e : Ent} {j : Nat} (he : e.1 = 3) (hj : e.2.getD 0 0 = (j : Int)) (hn : j < G.n) : numsL G (L ++ [e]) = (numsL G L).set j ((numA G L j).tdiv 10) := by
  refine zfs (by simp [numsL]) fun i hi => ?_
  rw [zdG] at hi
  rw [zcr hi, zfv (by rw [zdG]; exact hn), zcr hi]
  unfold numA
  rw [zcU, numS]
  by_cases hij : i = j
  · subst hij; rw [if_neg (by omega), if_pos ⟨he, hj⟩, if_pos rfl]
  · rw [if_neg (by omega), if_neg (by omega), if_neg hij]
/-- Numbers stay small. -/
theorem zeN {a : Int} (h : NumP a) : NumP (a.tdiv 10) := by
  unfold NumP at *
  rcases Int.lt_or_le a 0 with q | q
  · have e : a.tdiv 10 = -((-a) / 10) := by rw [← Int.tdiv_eq_ediv_of_nonneg (by omega), Int.neg_tdiv, Int.neg_neg]
    rw [e]; omega
  · rw [Int.tdiv_eq_ediv_of_nonneg q]; omega
theorem zi4 {people : Int} {n : Nat} {j a : Int} (ha : NumP a) : ∀ L : List Ent, (∀ e ∈ L, EntP people n e) → NumP (numF L j a) := by
  intro L
  induction L using zkc with
  | h0 => intro _; exact ha
  | h1 L e ih =>
    intro h
    have h1 := ih fun e he => h e (List.mem_append_left _ he)
    have h2 := h e (by simp)
    rw [zcU]
    unfold numS
    by_cases q : e.1 = 2 ∧ e.2.getD 1 0 = j
    · rw [if_pos q]
      rcases h2 with z | z | z
      · omega
      · exact z.2.2.2.2
      · omega
    · rw [if_neg q]
      by_cases q2 : e.1 = 3 ∧ e.2.getD 0 0 = j
      · rw [if_pos q2]; exact zeN h1
      · rw [if_neg q2]; exact h1
end Go.AX.Sa

namespace Go.AX.Sa
open Go.Proofs
set_option maxRecDepth 100000
variable {K : Known}
theorem zjb (hK : NoK K) {n low high : Int} {h : Heap} : CallW Tryz.prog K 62 #[.int .i64 n, .int .i64 low, .int .i64 high] h (IfB (low ≤ n ∧ n ≤ high) h) := by
  refine body (N := 15) Tryz.func62 rfl (hK _ _ _ rfl) rfl rfl ?_
  (repeat' (first | apply zam | apply zac | (apply O_at; rfl) | (apply zaj; rfl) | apply zak | apply zaA | apply zau | (apply zbn; rfl; rfl; rfl) | ((first | apply zaf | apply zad); rfl; rfl; rfl; rfl) | (apply zaR; rfl; rfl; rfl; rfl; rfl; rfl) | (apply zfF; rfl; rfl; rfl; rfl; rfl; all_goals intro _) | (apply P_geq; rfl; rfl; rfl; rfl; rfl; all_goals intro _) | fail))
  all_goals (refine ⟨.inr rfl, _, rfl, ?_⟩; first | (refine .inl ⟨rfl, by omega, ?_⟩; (focus repeat' first | exact Ext.refl _ | assumption | apply Ext.push | (refine Ext.trans ?_ (by assumption)) | (refine Ext.set ?_ (Nat.le_succ _) (zab zaa) _) | (refine Ext.ofBut ?_ (by assumption) (by first | exact Nat.le_refl _ | omega))); done) | (refine .inr ⟨rfl, by omega, ?_⟩; (focus repeat' first | exact Ext.refl _ | assumption | apply Ext.push | (refine Ext.trans ?_ (by assumption)) | (refine Ext.set ?_ (Nat.le_succ _) (zab zaa) _) | (refine Ext.ofBut ?_ (by assumption) (by first | exact Nat.le_refl _ | omega))); done))
theorem in2_ok (hK : NoK K) {n low high : Int} {h : Heap} : CallW Tryz.prog K 107 #[.int .i64 n, .int .i64 low, .int .i64 high] h (IfB (low ≤ n ∧ n ≤ high) h) := by
  refine body (N := 15) Tryz.func107 rfl (hK _ _ _ rfl) rfl rfl ?_
  (repeat' (first | apply zam | apply zac | (apply O_at; rfl) | (apply zaj; rfl) | apply zak | apply zaA | apply zau | (apply zbn; rfl; rfl; rfl) | ((first | apply zaf | apply zad); rfl; rfl; rfl; rfl) | (apply zaR; rfl; rfl; rfl; rfl; rfl; rfl) | (apply zfF; rfl; rfl; rfl; rfl; rfl; all_goals intro _) | (apply P_geq; rfl; rfl; rfl; rfl; rfl; all_goals intro _) | fail))
  all_goals (refine ⟨.inr rfl, _, rfl, ?_⟩; first | (refine .inl ⟨rfl, by omega, ?_⟩; (focus repeat' first | exact Ext.refl _ | assumption | apply Ext.push | (refine Ext.trans ?_ (by assumption)) | (refine Ext.set ?_ (Nat.le_succ _) (zab zaa) _) | (refine Ext.ofBut ?_ (by assumption) (by first | exact Nat.le_refl _ | omega))); done) | (refine .inr ⟨rfl, by omega, ?_⟩; (focus repeat' first | exact Ext.refl _ | assumption | apply Ext.push | (refine Ext.trans ?_ (by assumption)) | (refine Ext.set ?_ (Nat.le_succ _) (zab zaa) _) | (refine Ext.ofBut ?_ (by assumption) (by first | exact Nat.le_refl _ | omega))); done))
theorem zcb (hK : NoK K) {n low high : Int} {h : Heap} : CallW Tryz.prog K 99 #[.int .i64 n, .int .i64 low, .int .i64 high] h (IfB (low ≤ n ∧ n ≤ high) h) := by
  refine body (N := 15) Tryz.func99 rfl (hK _ _ _ rfl) rfl rfl ?_
  (repeat' (first | apply zam | apply zac | (apply O_at; rfl) | (apply zaj; rfl) | apply zak | apply zaA | apply zau | (apply zbn; rfl; rfl; rfl) | ((first | apply zaf | apply zad); rfl; rfl; rfl; rfl) | (apply zaR; rfl; rfl; rfl; rfl; rfl; rfl) | (apply zfF; rfl; rfl; rfl; rfl; rfl; all_goals intro _) | fail))
  all_goals (refine ⟨.inr rfl, _, rfl, ?_⟩; first | (refine .inl ⟨rfl, by omega, ?_⟩; (focus repeat' first | exact Ext.refl _ | assumption | apply Ext.push | (refine Ext.trans ?_ (by assumption)) | (refine Ext.set ?_ (Nat.le_succ _) (zab zaa) _) | (refine Ext.ofBut ?_ (by assumption) (by first | exact Nat.le_refl _ | omega))); done) | (refine .inr ⟨rfl, by omega, ?_⟩; (focus repeat' first | exact Ext.refl _ | assumption | apply Ext.push | (refine Ext.trans ?_ (by assumption)) | (refine Ext.set ?_ (Nat.le_succ _) (zab zaa) _) | (refine Ext.ofBut ?_ (by assumption) (by first | exact Nat.le_refl _ | omega))); done))
theorem zge (hK : NoK K) {n : Int} {h : Heap} : CallW Tryz.prog K 63 #[.int .i64 n] h (IfB (NumP n) h) := by
  refine body (N := 5) Tryz.func63 rfl (hK _ _ _ rfl) rfl rfl ?_
  (repeat' (first | apply zam | apply zac | (apply O_at; rfl) | (apply zaj; rfl) | apply zak | apply zaA | apply zau | ((first | apply zaf | apply zad); rfl; rfl; rfl; rfl) | (apply zal; rfl; rfl; rfl; rfl; rfl; rfl; exact in2_ok hK; (rintro _ _ (⟨rfl, _, _⟩ | ⟨rfl, _, _⟩))) | fail))
  all_goals (refine ⟨.inr rfl, _, rfl, ?_⟩; first | (refine .inl ⟨rfl, by unfold NumP at *; omega, ?_⟩; (focus repeat' first | exact Ext.refl _ | assumption | apply Ext.push | (refine Ext.trans ?_ (by assumption)) | (refine Ext.set ?_ (Nat.le_succ _) (zab zaa) _) | (refine Ext.ofBut ?_ (by assumption) (by first | exact Nat.le_refl _ | omega))); done) | (refine .inr ⟨rfl, by unfold NumP at *; omega, ?_⟩; (focus repeat' first | exact Ext.refl _ | assumption | apply Ext.push | (refine Ext.trans ?_ (by assumption)) | (refine Ext.set ?_ (Nat.le_succ _) (zab zaa) _) | (refine Ext.ofBut ?_ (by assumption) (by first | exact Nat.le_refl _ | omega))); done))
theorem zd7 (hK : NoK K) {G : Pg} {n : Int} {h : Heap} (hp : 2 ≤ G.people ∧ G.people ≤ 6) : CallW Tryz.prog K 32 #[pgV G, .int .i64 n] h (IfB (PersP G n) h) := by
  obtain ⟨people, pl, kl, nl, l, pg, kg, c⟩ := G
  dsimp only [pgV] at hp ⊢
  refine body (N := 10) Tryz.func32 rfl (hK _ _ _ rfl) rfl rfl ?_
  (repeat' (first | apply zam | apply zac | (apply O_at; rfl) | (apply zaj; rfl) | apply zak | apply zaA | apply zau | ((first | apply zaf | apply zad); rfl; rfl; rfl; rfl) | (apply P_fa; rfl; rfl; rfl; rfl; exact zaw rfl; (first | exact Nat.zero_add _ | exact Nat.add_zero _ | rfl)) | (apply zeL; rfl; rfl; rfl; rfl; rfl; (unfold fit; omega)) | (apply zah; rfl; rfl; rfl; rfl; exact zar rfl; (focus repeat' first | exact zaa | assumption); (first | rfl | assumption)) | (apply zaM; rfl; rfl; rfl; rfl; exact zai rfl; rfl; rfl) | (apply zal; rfl; rfl; rfl; rfl; rfl; rfl; exact zjb hK; (rintro _ _ (⟨rfl, _, _⟩ | ⟨rfl, _, _⟩))) | fail))
  all_goals (refine ⟨.inr rfl, _, rfl, ?_⟩; first | (refine .inl ⟨rfl, by unfold PersP at *; omega, ?_⟩; (focus repeat' first | exact Ext.refl _ | assumption | apply Ext.push | (refine Ext.trans ?_ (by assumption)) | (refine Ext.set ?_ (Nat.le_succ _) (zab zaa) _) | (refine Ext.ofBut ?_ (by assumption) (by first | exact Nat.le_refl _ | omega))); done) | (refine .inr ⟨rfl, by unfold PersP at *; omega, ?_⟩; (focus repeat' first | exact Ext.refl _ | assumption | apply Ext.push | (refine Ext.trans ?_ (by assumption)) | (refine Ext.set ?_ (Nat.le_succ _) (zab zaa) _) | (refine Ext.ofBut ?_ (by assumption) (by first | exact Nat.le_refl _ | omega))); done))
theorem zda (hK : NoK K) {G : Pg} {n : Int} {h : Heap} (hp : G.n ≤ 1000) : CallW Tryz.prog K 25 #[pgV G, .int .i64 n] h (IfB (LinP G.n n) h) := by
  obtain ⟨people, pl, kl, nl, l, pg, kg, c⟩ := G
  dsimp only [pgV] at hp ⊢
  refine body (N := 11) Tryz.func25 rfl (hK _ _ _ rfl) rfl rfl ?_
  (repeat' (first | apply zam | apply zac | (apply O_at; rfl) | (apply zaj; rfl) | apply zak | apply zaA | apply zau | ((first | apply zaf | apply zad); rfl; rfl; rfl; rfl) | (apply P_fa; rfl; rfl; rfl; rfl; exact zaw rfl; (first | exact Nat.zero_add _ | exact Nat.add_zero _ | rfl)) | (apply zbe; rfl; rfl; rfl; rfl; rfl; rfl; exact zas rfl) | (apply zeL; rfl; rfl; rfl; rfl; rfl; (unfold fit; omega)) | (apply zah; rfl; rfl; rfl; rfl; exact zar rfl; (focus repeat' first | exact zaa | assumption); (first | rfl | assumption)) | (apply zaM; rfl; rfl; rfl; rfl; exact zai rfl; rfl; rfl) | (apply zal; rfl; rfl; rfl; rfl; rfl; rfl; exact zjb hK; (rintro _ _ (⟨rfl, _, _⟩ | ⟨rfl, _, _⟩))) | fail))
  all_goals (refine ⟨.inr rfl, _, rfl, ?_⟩; first | (refine .inl ⟨rfl, by unfold LinP at *; omega, ?_⟩; (focus repeat' first | exact Ext.refl _ | assumption | apply Ext.push | (refine Ext.trans ?_ (by assumption)) | (refine Ext.set ?_ (Nat.le_succ _) (zab zaa) _) | (refine Ext.ofBut ?_ (by assumption) (by first | exact Nat.le_refl _ | omega))); done) | (refine .inr ⟨rfl, by unfold LinP at *; omega, ?_⟩; (focus repeat' first | exact Ext.refl _ | assumption | apply Ext.push | (refine Ext.trans ?_ (by assumption)) | (refine Ext.set ?_ (Nat.le_succ _) (zab zaa) _) | (refine Ext.ofBut ?_ (by assumption) (by first | exact Nat.le_refl _ | omega))); done))
def PairP (G : Pg) (a b : Int) : Prop := PersP G a ∧ PersP G b ∧ a < b
theorem pair_ok (hK : NoK K) {G : Pg} {a b : Int} {h : Heap} (hp : 2 ≤ G.people ∧ G.people ≤ 6) : CallW Tryz.prog K 108 #[pgV G, .int .i64 a, .int .i64 b] h (IfB (PairP G a b) h) := by
  refine body (N := 20) Tryz.func108 rfl (hK _ _ _ rfl) rfl rfl ?_
  (repeat' (first | apply zam | apply zac | (apply O_at; rfl) | (apply zaj; rfl) | apply zak | apply zaA | apply zau | (apply zbn; rfl; rfl; rfl) | ((first | apply zaf | apply zad); rfl; rfl; rfl; rfl) | (apply zaR; rfl; rfl; rfl; rfl; rfl; rfl) | (apply zll; rfl; rfl; rfl; rfl; rfl; all_goals intro _) | (apply zaz; rfl; rfl; rfl; rfl; exact zaT rfl; (focus repeat' first | exact zaa | assumption | (apply Ext.get; assumption)); (first | exact Nat.le_of_ble_eq_true rfl | (simp; done) | (simp; omega)); rfl) | (apply zaM; rfl; rfl; rfl; rfl; exact zai rfl; rfl; rfl) | (apply zal; rfl; rfl; rfl; rfl; rfl; rfl; exact zd7 hK hp; (rintro _ _ (⟨rfl, _, _⟩ | ⟨rfl, _, _⟩))) | fail))
  all_goals (refine ⟨.inr rfl, _, rfl, ?_⟩; first | (refine .inl ⟨rfl, by unfold PairP PersP at *; omega, ?_⟩; (focus repeat' first | exact Ext.refl _ | assumption | apply Ext.push | (refine Ext.trans ?_ (by assumption)) | (refine Ext.set ?_ (Nat.le_succ _) (zab zaa) _) | (refine Ext.ofBut ?_ (by assumption) (by first | exact Nat.le_refl _ | omega))); done) | (refine .inr ⟨rfl, by unfold PairP PersP at *; omega, ?_⟩; (focus repeat' first | exact Ext.refl _ | assumption | apply Ext.push | (refine Ext.trans ?_ (by assumption)) | (refine Ext.set ?_ (Nat.le_succ _) (zab zaa) _) | (refine Ext.ofBut ?_ (by assumption) (by first | exact Nat.le_refl _ | omega))); done))
theorem zgl (hK : NoK K) {G : Pg} {n : Int} {h : Heap} (hp : G.n ≤ 1000) : CallW Tryz.prog K 67 #[pgV G, .int .i64 n] h (IfB (LinP G.n n) h) := by
  obtain ⟨people, pl, kl, nl, l, pg, kg, c⟩ := G
  dsimp only [pgV] at hp ⊢
  refine body (N := 11) Tryz.func67 rfl (hK _ _ _ rfl) rfl rfl ?_
  (repeat' (first | apply zam | apply zac | (apply O_at; rfl) | (apply zaj; rfl) | apply zak | apply zaA | apply zau | ((first | apply zaf | apply zad); rfl; rfl; rfl; rfl) | (apply P_fa; rfl; rfl; rfl; rfl; exact zaw rfl; (first | exact Nat.zero_add _ | exact Nat.add_zero _ | rfl)) | (apply zbe; rfl; rfl; rfl; rfl; rfl; rfl; exact zas rfl) | (apply zeL; rfl; rfl; rfl; rfl; rfl; (unfold fit; omega)) | (apply zah; rfl; rfl; rfl; rfl; exact zar rfl; (focus repeat' first | exact zaa | assumption); (first | rfl | assumption)) | (apply zaM; rfl; rfl; rfl; rfl; exact zai rfl; rfl; rfl) | (apply zal; rfl; rfl; rfl; rfl; rfl; rfl; exact zcb hK; (rintro _ _ (⟨rfl, _, _⟩ | ⟨rfl, _, _⟩))) | fail))
  all_goals (refine ⟨.inr rfl, _, rfl, ?_⟩; first | (refine .inl ⟨rfl, by unfold LinP at *; omega, ?_⟩; (focus repeat' first | exact Ext.refl _ | assumption | apply Ext.push | (refine Ext.trans ?_ (by assumption)) | (refine Ext.set ?_ (Nat.le_succ _) (zab zaa) _) | (refine Ext.ofBut ?_ (by assumption) (by first | exact Nat.le_refl _ | omega))); done) | (refine .inr ⟨rfl, by unfold LinP at *; omega, ?_⟩; (focus repeat' first | exact Ext.refl _ | assumption | apply Ext.push | (refine Ext.trans ?_ (by assumption)) | (refine Ext.set ?_ (Nat.le_succ _) (zab zaa) _) | (refine Ext.ofBut ?_ (by assumption) (by first | exact Nat.le_refl _ | omega))); done))
theorem zdu (hK : NoK K) {G : Pg} {h : Heap} (hp : 2 ≤ G.people ∧ G.people ≤ 6) : CallW Tryz.prog K 101 #[pgV G] h (IsV (.agg #[.int .i64 0, .int .i64 (G.people - 1)]) h) := by
  obtain ⟨people, pl, kl, nl, l, pg, kg, c⟩ := G
  dsimp only [pgV] at hp ⊢
  refine body (N := 7) Tryz.func101 rfl (hK _ _ _ rfl) rfl rfl ?_
  (repeat' (first | apply zam | apply zac | (apply O_at; rfl) | (apply zaj; rfl) | apply zak | apply zaA | apply zau | (apply P_fa; rfl; rfl; rfl; rfl; exact zaw rfl; (first | exact Nat.zero_add _ | exact Nat.add_zero _ | rfl)) | (apply zeL; rfl; rfl; rfl; rfl; rfl; (unfold fit; omega)) | (apply zah; rfl; rfl; rfl; rfl; exact zar rfl; (focus repeat' first | exact zaa | assumption | apply zab); (first | rfl | assumption)) | (apply zaD; rfl; rfl; rfl; rfl; exact zai rfl; rfl; rfl; rfl) | (apply zcw; rfl; rfl; rfl; rfl) | (apply zaM; rfl; rfl; rfl; rfl; exact zai rfl; rfl; rfl) | (apply zbi; rfl; rfl; rfl; rfl; exact zai rfl; rfl; rfl) | fail))
  exact ⟨.inr rfl, _, zkd rfl (readA (zaT rfl) zaa (Nat.le_of_ble_eq_true rfl) rfl) rfl, rfl, by (focus repeat' first | exact Ext.refl _ | assumption | apply Ext.push)⟩
theorem zew (hK : NoK K) {G : Pg} {h : Heap} (hp : G.n ≤ 1000) : CallW Tryz.prog K 106 #[pgV G] h (IsV (.agg #[.int .i64 0, .int .i64 ((G.n : Int) - 1)]) h) := by
  obtain ⟨people, pl, kl, nl, l, pg, kg, c⟩ := G
  dsimp only [pgV] at hp ⊢
  refine body (N := 8) Tryz.func106 rfl (hK _ _ _ rfl) rfl rfl ?_
  (repeat' (first | apply zam | apply zac | (apply O_at; rfl) | (apply zaj; rfl) | apply zak | apply zaA | apply zau | (apply P_fa; rfl; rfl; rfl; rfl; exact zaw rfl; (first | exact Nat.zero_add _ | exact Nat.add_zero _ | rfl)) | (apply zbe; rfl; rfl; rfl; rfl; rfl; rfl; exact zas rfl) | (apply zeL; rfl; rfl; rfl; rfl; rfl; (unfold fit; omega)) | (apply zah; rfl; rfl; rfl; rfl; exact zar rfl; (focus repeat' first | exact zaa | assumption | apply zab); (first | rfl | assumption)) | (apply zaD; rfl; rfl; rfl; rfl; exact zai rfl; rfl; rfl; rfl) | (apply zcw; rfl; rfl; rfl; rfl) | (apply zaM; rfl; rfl; rfl; rfl; exact zai rfl; rfl; rfl) | (apply zbi; rfl; rfl; rfl; rfl; exact zai rfl; rfl; rfl) | fail))
  exact ⟨.inr rfl, _, zkd rfl (readA (zaT rfl) zaa (Nat.le_of_ble_eq_true rfl) rfl) rfl, rfl, by (focus repeat' first | exact Ext.refl _ | assumption | apply Ext.push)⟩
theorem zc4 (hK : NoK K) {h : Heap} : CallW Tryz.prog K 102 #[] h (IsV (.agg #[.int .i64 (-999), .int .i64 999]) h) := by
  refine body (N := 2) Tryz.func102 rfl (hK _ _ _ rfl) rfl rfl ?_
  (repeat' (first | apply zam | apply zac | (apply O_at; rfl) | (apply zaj; rfl) | apply zak | apply zaA | apply zau | (apply zaD; rfl; rfl; rfl; rfl; exact zai rfl; rfl; rfl; rfl) | (apply zcw; rfl; rfl; rfl; rfl) | (apply zbi; rfl; rfl; rfl; rfl; exact zai rfl; rfl; rfl) | fail))
  exact ⟨.inr rfl, _, zkd rfl (readA (zaT rfl) zaa (Nat.le_of_ble_eq_true rfl) rfl) rfl, rfl, by (focus repeat' first | exact Ext.refl _ | assumption | apply Ext.push)⟩
theorem zdD (hK : NoK K) {G : Pg} {h : Heap} (hT : PgAt G h) :
    CallW Tryz.prog K 15 #[pgV G] h (IfB (ShortP G) h) := by
  obtain ⟨people, pl, kl, nl, l, p, kc, c⟩ := G
  obtain ⟨len, rl, rc, each, hbl, hpb⟩ := hT
  dsimp only [pgV] at len rl rc each hbl hpb ⊢
  refine body (N := 33) Tryz.func15 rfl (hK _ _ _ rfl) rfl rfl ?_
  (repeat' (first | apply zam | apply zac | (apply O_at; rfl) | (apply zaj; rfl) | apply zak | apply zaq | ((first | apply zaf | apply zad); rfl; rfl; rfl; rfl) | (apply zaM; rfl; rfl; rfl; rfl; exact zai rfl; rfl; rfl) | fail))
  refine zbb (fun k : Nat => [(3, .int .i64 (k : Nat)), (1, .pointer (some ⟨h.n, 0, none⟩))])
    (fun k h' => k ≤ c.length ∧ k ≤ 12 ∧ Ext (h.push (.cells [.int .i64 people, .slice pl nl kl, .slice p c.length kc] 25 true)) h' ∧ ∀ j, j < k → (c.getD j cop0).r.s.length ≤ 6) (fun k => c.length - k) ?_ 0 ?_ ?_
  · intro k h' ⟨hk, hk10, hx, hj⟩ ih
    have hg3 := hx.get zaa
    by_cases hlt : k < c.length ∧ k < 12
    · obtain ⟨h1, h2⟩ := hlt
      obtain ⟨b, e, own', rfl, hg⟩ := rc.at (by rw [zat]; omega)
      have hg' := hx.get (zab hg)
      (repeat' (first | apply zam | apply zac | (apply O_at; rfl) | (apply zaj; rfl) | apply zak | (apply za4; rfl) | (apply zaK; rfl) | apply zaq | apply zax | apply zaA | apply za5 | apply zdw | apply zca | apply zaB | apply zau | ((first | apply zaf | apply zad); rfl; rfl; rfl; rfl) | (apply P_fa; rfl; rfl; rfl; rfl; exact zaw rfl; (first | exact Nat.zero_add _ | exact Nat.add_zero _ | rfl)) | (apply zbe; rfl; rfl; rfl; rfl; rfl; rfl; exact zas rfl) | (apply zaR; rfl; rfl; rfl; rfl; rfl; rfl) | (apply zbo; rfl; rfl; rfl; rfl; rfl; omega) | (apply P_gtr; rfl; rfl; rfl; rfl; rfl; all_goals intro _) | (apply zbN; rfl; rfl; rfl; rfl; rfl; (unfold fit; omega)) | (apply zbT; rfl; rfl; rfl; rfl; rfl; exact zas rfl; exact zai rfl; (first | assumption | rfl | exact (Int.toNat_of_nonneg (by omega)).symm); omega) | (apply zah; rfl; rfl; rfl; rfl; exact zar rfl; (focus repeat' first | exact zaa | assumption | apply zab | (apply Ext.get; assumption)); (first | exact zdI (by omega) | rfl | assumption)) | fail))
      · rename_i z
        exact ⟨.inr rfl, _, rfl, .inr ⟨rfl, fun q => by have := q.2.2 k h1; dsimp only at this; omega, by (focus repeat' first | exact Ext.refl _ | assumption | apply Ext.push | (refine Ext.trans ?_ (by assumption)))⟩⟩
      · refine zaH (ih (k + 1) _ ?_ ⟨h1, h2, ?_, fun j hj' => ?_⟩) ?_
        · omega
        · (focus repeat' first | exact Ext.refl _ | assumption | apply Ext.push | (refine Ext.trans ?_ (by assumption)))
        · by_cases hjk : j = k
          · subst hjk; omega
          · exact hj j (by omega)
        · (focus repeat' first | rfl | exact trivial | apply And.intro)
    · by_cases h1 : k < c.length
      · have h2 : k = 12 := by omega
        subst h2
        (repeat' (first | apply zam | apply zac | (apply O_at; rfl) | (apply zaj; rfl) | apply zak | (apply zaK; rfl) | apply zbj | apply zaA | apply zbk | apply zaZ | apply za0 | apply zau | (apply zbn; rfl; rfl; rfl) | ((first | apply zaf | apply zad); rfl; rfl; rfl; rfl) | (apply P_fa; rfl; rfl; rfl; rfl; exact zaw rfl; (first | exact Nat.zero_add _ | exact Nat.add_zero _ | rfl)) | (apply zbe; rfl; rfl; rfl; rfl; rfl; rfl; exact zas rfl) | (apply zaR; rfl; rfl; rfl; rfl; rfl; rfl) | (apply zbr; rfl; rfl; rfl; rfl; rfl; omega) | (apply zbo; rfl; rfl; rfl; rfl; rfl; omega) | (apply P_leqF; rfl; rfl; rfl; rfl; rfl; omega) | (apply zfF; rfl; rfl; rfl; rfl; rfl; all_goals intro _) | (apply zah; rfl; rfl; rfl; rfl; exact zar rfl; (focus repeat' first | exact zaa | assumption | apply zab | (apply Ext.get; assumption)); (first | exact zdI (by omega) | rfl | assumption)) | fail))
        · exact ⟨.inr rfl, _, rfl, .inr ⟨rfl, fun q => by have := q.2.1; dsimp only at this; omega, by (focus repeat' first | exact Ext.refl _ | assumption | apply Ext.push | (refine Ext.trans ?_ (by assumption)))⟩⟩
        · exact ⟨.inr rfl, _, rfl, .inr ⟨rfl, fun q => by have := q.1; dsimp only at this; omega, by (focus repeat' first | exact Ext.refl _ | assumption | apply Ext.push | (refine Ext.trans ?_ (by assumption)))⟩⟩
      · (repeat' (first | apply zam | apply zac | (apply O_at; rfl) | (apply zaj; rfl) | apply zak | (apply zaK; rfl) | apply zbj | apply zaA | apply zbk | apply zaZ | apply za0 | apply zau | (apply zbn; rfl; rfl; rfl) | ((first | apply zaf | apply zad); rfl; rfl; rfl; rfl) | (apply P_fa; rfl; rfl; rfl; rfl; exact zaw rfl; (first | exact Nat.zero_add _ | exact Nat.add_zero _ | rfl)) | (apply zbe; rfl; rfl; rfl; rfl; rfl; rfl; exact zas rfl) | (apply zaR; rfl; rfl; rfl; rfl; rfl; rfl) | (apply zbr; rfl; rfl; rfl; rfl; rfl; omega) | (apply P_leqT; rfl; rfl; rfl; rfl; rfl; omega) | (apply zfF; rfl; rfl; rfl; rfl; rfl; all_goals intro _) | (apply zah; rfl; rfl; rfl; rfl; exact zar rfl; (focus repeat' first | exact zaa | assumption | apply zab | (apply Ext.get; assumption)); (first | exact zdI (by omega) | rfl | assumption)) | fail))
        · exact ⟨.inr rfl, _, rfl, .inl ⟨rfl, ⟨by dsimp only; omega, by dsimp only; omega, fun j q => hj j (by dsimp only at q; omega)⟩, by (focus repeat' first | exact Ext.refl _ | assumption | apply Ext.push | (refine Ext.trans ?_ (by assumption)))⟩⟩
        · exact ⟨.inr rfl, _, rfl, .inr ⟨rfl, fun q => by have := q.1; dsimp only at this; omega, by (focus repeat' first | exact Ext.refl _ | assumption | apply Ext.push | (refine Ext.trans ?_ (by assumption)))⟩⟩
  · exact ⟨Nat.zero_le _, by omega, by (focus repeat' first | exact Ext.refl _ | assumption | apply Ext.push | (refine Ext.trans ?_ (by assumption))), fun j hj => by omega⟩
  · (focus repeat' first | rfl | exact trivial | apply And.intro)
end Go.AX.Sa

namespace Go.AX.Sa
open Go.Proofs
set_option maxRecDepth 100000
variable {K : Known}
/-! Which entries, which pages are as defined. -/
def WithinP (l : List (Int × Int)) (t : List Int) : Prop := t.length = l.length ∧ ∀ k, k < l.length → (l.getD k (0, 0)).1 ≤ t.getD k 0 ∧ t.getD k 0 ≤ (l.getD k (0, 0)).2
theorem zbS (hK : NoK K) {l : List (Int × Int)} {p q : Option Addr} {cap cap' : Nat} {t : List Int} {h : Heap} (hl : l.length ≤ 1000) (hr : Rd h p (spanCells l)) (_ : t.length ≤ 1000) (hr' : Rd h q (ints t)) :
    CallW Tryz.prog K 100 #[.slice q t.length cap', .slice p l.length cap] h (IfB (WithinP l t) h) := by
  refine body (N := 30) Tryz.func100 rfl (hK _ _ _ rfl) rfl rfl ?_
  (repeat' (first | apply zam | apply zac | (apply O_at; rfl) | (apply zaj; rfl) | apply zak | (apply za4; rfl) | (apply zaK; rfl) | apply zaq | apply zax | apply zaA | apply za5 | apply zau | ((first | apply zaf | apply zad | apply zaN | apply zcI); rfl; rfl; rfl; rfl) | (apply zbe; rfl; rfl; rfl; rfl; rfl; rfl; exact zas rfl) | (apply zlk; rfl; rfl; rfl; rfl; rfl; all_goals intro _) | fail))
  · rename_i hne
    refine ⟨.inr rfl, _, rfl, .inr ⟨rfl, fun q => hne (by rw [q.1]), ?_⟩⟩
    (focus repeat' first | exact Ext.refl _ | assumption | apply Ext.push | (refine Ext.trans ?_ (by assumption)))
  rename_i heq
  have heq' : t.length = l.length := by omega
  refine zbb (fun k : Nat => [(14, .int .i64 (k : Nat)), (13, .int .i64 (l.length : Nat)), (12, .slice p l.length cap), (0, .slice q t.length cap')])
    (fun k h' => k ≤ t.length ∧ Ext h h' ∧ ∀ j, j < k → (l.getD j (0, 0)).1 ≤ t.getD j 0 ∧ t.getD j 0 ≤ (l.getD j (0, 0)).2) (fun k => t.length - k) ?_ 0 ?_ ?_
  · intro k h' ⟨hk, hx, hj⟩ ih
    by_cases hlt : k < t.length
    · obtain ⟨b, e, own, rfl, hg⟩ := hr.at (by rw [zaF]; omega)
      obtain ⟨b', e', own', rfl, hg'⟩ := hr'.at (by rw [zag]; omega)
      have hg2 := hx.get hg
      have hg2' := hx.get hg'
      clear hg hg'
      have hltl : k < l.length := by omega
      (repeat' (first | apply zam | apply zac | (apply O_at; rfl) | (apply N_at; rfl) | (apply zaj; rfl) | apply zak | (apply za4; rfl) | (apply zaK; rfl) | (apply zbf; kernel_rfl) | apply zaq | apply zax | apply zbj | apply zaA | (apply zbH; rfl; refine .inr ?_; (focus repeat' first | exact trivial | apply And.intro | rfl)) | apply za5 | apply zdw | apply zca | apply zbk | apply zaZ | apply za0 | apply zaB | apply zau | ((first | apply zaf | apply zad | apply zaN | apply zcI); rfl; rfl; rfl; rfl) | (apply zll; rfl; rfl; rfl; rfl; rfl; all_goals intro _) | (apply zbN; rfl; rfl; rfl; rfl; rfl; (unfold fit; omega)) | (apply zbT; rfl; rfl; rfl; rfl; rfl; exact zas rfl; exact zai rfl; (first | assumption | rfl | exact (Int.toNat_of_nonneg (by omega)).symm); omega) | (apply zaz; rfl; rfl; rfl; rfl; exact zaT rfl; (focus repeat' first | exact zaa | assumption | apply zab | (apply Ext.get; assumption)); (first | exact Nat.le_of_ble_eq_true rfl | (simp; done) | (simp; omega) | (rw [zaF]; omega) | (rw [zag]; omega)); (first | exact za8 (by omega) | rfl)) | (apply zaD; rfl; rfl; rfl; rfl; exact zai rfl; rfl; rfl; rfl) | (apply zbi; rfl; rfl; rfl; rfl; exact zai rfl; rfl; rfl) | (apply M_fa; rfl; rfl; rfl; rfl; exact zaw rfl; (first | exact Nat.zero_add _ | exact Nat.add_zero _ | rfl)) | (apply zc7; rfl; rfl; rfl; rfl; rfl; exact zas rfl; exact zai rfl; (first | assumption | rfl | exact (Int.toNat_of_nonneg (by omega)).symm); omega) | (((apply zbs; rfl; rfl; rfl; rfl; exact zar rfl; decide +kernel); (focus repeat' first | exact zaa | assumption | apply zab | (apply Ext.get; assumption)); (first | exact zae (by omega) | rfl | assumption)); (first | assumption | exact zaI _ _ | rfl | (focus simp [same, same.all2]; done)); (first | rfl | assumption | exact hwv _ | (simp [within]; omega))) | (apply zaO; rfl; rfl; rfl; rfl; rfl; rfl; rfl; exact zcb hK; (rintro _ _ (⟨rfl, _, _⟩ | ⟨rfl, _, _⟩))) | fail))
      · rename_i hns _
        refine zaH (ih (k + 1) _ ?_ ⟨hlt, ?_, fun j hj' => ?_⟩) ?_
        · omega
        · (focus repeat' first | exact Ext.refl _ | assumption | apply Ext.push | (refine Ext.trans ?_ (by assumption)))
        · by_cases hjk : j = k
          · subst hjk; exact hns
          · exact hj j (by omega)
        · (focus repeat' first | rfl | exact trivial | apply And.intro)
      · rename_i hns _
        refine ⟨.inr rfl, _, rfl, .inr ⟨rfl, fun q => hns (q.2 k (by omega)), ?_⟩⟩
        (focus repeat' first | exact Ext.refl _ | assumption | apply Ext.push | (refine Ext.trans ?_ (by assumption)))
      · omega
    · (repeat' (first | apply zam | apply zac | (apply O_at; rfl) | (apply zaj; rfl) | apply zak | (apply za4; rfl) | (apply zaK; rfl) | apply zaq | apply zax | apply zbj | apply zaA | apply zbk | apply zaZ | apply za0 | apply zau | ((first | apply zaf | apply zad | apply zaN | apply zcI); rfl; rfl; rfl; rfl) | (apply zll; rfl; rfl; rfl; rfl; rfl; all_goals intro _) | fail))
      · omega
      · refine ⟨.inr rfl, _, rfl, .inl ⟨rfl, ⟨heq', fun j hj' => hj j (by omega)⟩, ?_⟩⟩
        (focus repeat' first | exact Ext.refl _ | assumption | apply Ext.push | (refine Ext.trans ?_ (by assumption)))
  · exact ⟨Nat.zero_le _, Ext.refl _, fun j hj => by omega⟩
  · (focus repeat' first | rfl | exact trivial | apply And.intro)
theorem within1 {l : List Int} {a b : Int} : WithinP [(a, b)] l ↔ l.length = 1 ∧ a ≤ l.getD 0 0 ∧ l.getD 0 0 ≤ b := by
  unfold WithinP
  constructor
  · rintro ⟨h1, h2⟩; exact ⟨h1, h2 0 (by simp)⟩
  · rintro ⟨h1, h2⟩
    refine ⟨h1, fun k hk => ?_⟩
    obtain rfl : k = 0 := by simp at hk; omega
    exact h2
theorem within3 {l : List Int} {a b a' b' c d : Int} : WithinP [(a, b), (a', b'), (c, d)] l ↔ l.length = 3 ∧ (a ≤ l.getD 0 0 ∧ l.getD 0 0 ≤ b) ∧ (a' ≤ l.getD 1 0 ∧ l.getD 1 0 ≤ b') ∧ c ≤ l.getD 2 0 ∧ l.getD 2 0 ≤ d := by
  unfold WithinP
  constructor
  · rintro ⟨h1, h2⟩; exact ⟨h1, h2 0 (by simp), h2 1 (by simp), h2 2 (by simp)⟩
  · rintro ⟨h1, q0, q1, q2⟩
    refine ⟨h1, fun k hk => ?_⟩
    simp only [List.length_cons, List.length_nil] at hk
    rcases (show k = 0 ∨ k = 1 ∨ k = 2 by omega) with rfl | rfl | rfl
    · exact q0
    · exact q1
    · exact q2
theorem within4 {l : List Int} {a b a' b' c d c' d' : Int} : WithinP [(a, b), (a', b'), (c, d), (c', d')] l ↔ l.length = 4 ∧ (a ≤ l.getD 0 0 ∧ l.getD 0 0 ≤ b) ∧ (a' ≤ l.getD 1 0 ∧ l.getD 1 0 ≤ b') ∧ (c ≤ l.getD 2 0 ∧ l.getD 2 0 ≤ d) ∧ c' ≤ l.getD 3 0 ∧ l.getD 3 0 ≤ d' := by
  unfold WithinP
  constructor
  · rintro ⟨h1, h2⟩; exact ⟨h1, h2 0 (by simp), h2 1 (by simp), h2 2 (by simp), h2 3 (by simp)⟩
  · rintro ⟨h1, q0, q1, q2, q3⟩
    refine ⟨h1, fun k hk => ?_⟩
    simp only [List.length_cons, List.length_nil] at hk
    rcases (show k = 0 ∨ k = 1 ∨ k = 2 ∨ k = 3 by omega) with rfl | rfl | rfl | rfl
    · exact q0
    · exact q1
    · exact q2
    · exact q3
theorem ent1 {p : Int} {n : Nat} {s : List Int} : EntP p n (1, s) ↔ s.length = 4 ∧ (0 ≤ s.getD 0 0 ∧ s.getD 0 0 ≤ p - 1) ∧ (0 ≤ s.getD 1 0 ∧ s.getD 1 0 ≤ p - 1) ∧ (0 ≤ s.getD 2 0 ∧ s.getD 2 0 ≤ (n : Int) - 1) ∧ (0 ≤ s.getD 3 0 ∧ s.getD 3 0 ≤ (n : Int) - 1) ∧ s.getD 0 0 < s.getD 1 0 ∧ s.getD 2 0 ≤ s.getD 3 0 := by
  unfold EntP LinP; dsimp only; omega
theorem ent2 {p : Int} {n : Nat} {s : List Int} : EntP p n (2, s) ↔ s.length = 3 ∧ (0 ≤ s.getD 0 0 ∧ s.getD 0 0 ≤ p - 1) ∧ (0 ≤ s.getD 1 0 ∧ s.getD 1 0 ≤ (n : Int) - 1) ∧ -999 ≤ s.getD 2 0 ∧ s.getD 2 0 ≤ 999 := by
  unfold EntP LinP NumP; dsimp only; omega
theorem ent3 {p : Int} {n : Nat} {s : List Int} : EntP p n (3, s) ↔ s.length = 1 ∧ 0 ≤ s.getD 0 0 ∧ s.getD 0 0 ≤ (n : Int) - 1 := by
  unfold EntP LinP; dsimp only; omega
theorem ent0 {p : Int} {n : Nat} {e : Ent} (h : EntP p n e) : e.1 = 1 ∨ e.1 = 2 ∨ e.1 = 3 := by unfold EntP at h; omega
def enV (c : Cop) : Value := .agg #[.int .i64 c.par, .slice c.r.q c.r.s.length c.r.k]
set_option maxHeartbeats 2000000 in
theorem zi9 (hK : NoK K) {G : Pg} {c : Cop} {h : Heap} (hp : 2 ≤ G.people ∧ G.people ≤ 6) (hn : G.n ≤ 1000) (hbl : ∀ a, G.pl = some a → a.block < h.n) (hbg : ∀ a, G.pg = some a → a.block < h.n) (hc : RowIn c.r h) (hl : c.r.s.length ≤ 1000) :
    CallW Tryz.prog K 103 #[pgV G, enV c] h (IfB (EntP G.people G.n (ent c)) h) := by
  refine body (N := 58) Tryz.func103 rfl (hK _ _ _ rfl) rfl rfl ?_
  have hcb := hc.b
  have hp' := hp
  have hn' := hn
  obtain ⟨people, pl, kl, nl, l, pg, kg, cc⟩ := G
  obtain ⟨par, q, k, s⟩ := c
  dsimp only [pgV, enV, ent] at hp' hn' hbl hbg hcb hl hc ⊢
  obtain ⟨rd, _⟩ := hc
  dsimp only at rd
  have aP : ∀ {h' : Heap}, CallW Tryz.prog K 101 #[.agg #[.int .i64 people, .slice pl nl kl, .slice pg cc.length kg]] h' (IsV (.agg #[.int .i64 0, .int .i64 (people - 1)]) h') := zdu (G := ⟨people, pl, kl, nl, l, pg, kg, cc⟩) hK hp
  have aL : ∀ {h' : Heap}, CallW Tryz.prog K 106 #[.agg #[.int .i64 people, .slice pl nl kl, .slice pg cc.length kg]] h' (IsV (.agg #[.int .i64 0, .int .i64 ((nl : Int) - 1)]) h') := zew (G := ⟨people, pl, kl, nl, l, pg, kg, cc⟩) hK hn
  clear hp hn
  by_cases h1 : par = 1
  · subst h1
    have key : ∀ {x : Option Addr} {h' : Heap}, Rd h' x (spanCells [(0, people - 1), (0, people - 1), (0, (nl : Int) - 1), (0, (nl : Int) - 1)]) → Rd h' q (ints s) →
        CallW Tryz.prog K 100 #[.slice q s.length k, .slice x 4 4] h' (IfB (s.length = 4 ∧ (0 ≤ s.getD 0 0 ∧ s.getD 0 0 ≤ people - 1) ∧ (0 ≤ s.getD 1 0 ∧ s.getD 1 0 ≤ people - 1) ∧ (0 ≤ s.getD 2 0 ∧ s.getD 2 0 ≤ (nl : Int) - 1) ∧ 0 ≤ s.getD 3 0 ∧ s.getD 3 0 ≤ (nl : Int) - 1) h') := fun a b =>
      iff (zbS (l := [(0, people - 1), (0, people - 1), (0, (nl : Int) - 1), (0, (nl : Int) - 1)]) hK (by simp) a hl b) within4
    by_cases h4 : s.length = 4
    · obtain ⟨b, e, own, rfl, hg⟩ := rd.at (by rw [zag]; omega)
      clear rd
      rw [h4] at hl ⊢
      rw [h4] at key
      (repeat' (first | apply zam | apply zac | (apply O_at; rfl) | (apply N_at; rfl) | (apply zaj; rfl) | apply zak | (apply za4; rfl) | (apply zbf; exact zay (by decide +kernel)) | apply zaq | apply zaA | (apply zbH; rfl; refine .inr ?_; (focus repeat' first | exact trivial | exact Keeps.nil _ _ | apply And.intro | rfl | (apply Keeps.cons; iterate 2 (focus repeat' first | exact zaa | assumption | apply zab | (apply Ext.get; assumption))))) | apply za5 | apply zca | apply zau | ((first | apply zaf | apply zad | apply zaN | apply zaV); rfl; rfl; rfl; rfl) | (apply P_fa; rfl; rfl; rfl; rfl; exact zaw rfl; (first | exact Nat.zero_add _ | exact Nat.add_zero _ | rfl)) | (apply zbM; rfl; rfl; rfl; rfl; rfl; omega) | (apply zah; rfl; rfl; rfl; rfl; exact zar rfl; (focus repeat' first | exact zaa | assumption | apply zab | (apply Ext.get; assumption)); (first | exact zae (by omega) | rfl | assumption)) | (apply zaM; rfl; rfl; rfl; rfl; exact zai rfl; rfl; rfl) | (apply zcA; rfl; rfl; rfl; rfl) | (apply zbU; rfl; rfl; rfl; rfl; rfl; rfl) | (apply M_lss; rfl; rfl; rfl; rfl; rfl; all_goals intro _) | (apply M_leq; rfl; rfl; rfl; rfl; rfl; all_goals intro _) | (apply zc7; rfl; rfl; rfl; rfl; rfl; exact zas rfl; exact zai rfl; (first | assumption | exact zq0 | exact zq1 | exact zq2 | exact zq3 | rfl | exact (Int.toNat_of_nonneg (by omega)).symm); omega) | ((first | ((apply zbx; rfl; rfl; rfl; rfl; exact zar rfl); (focus repeat' first | exact zaa | assumption | apply zab | (apply Ext.get; assumption)); (first | exact zae (by omega) | rfl | assumption)) | ((apply zbO; rfl; rfl; rfl; rfl; exact zaT rfl); (focus repeat' first | exact zaa | assumption | apply zab | (apply Ext.get; assumption)); (first | exact Nat.le_of_ble_eq_true rfl | (simp; done) | (simp; omega) | (rw [zag]; omega)); rfl)); (first | assumption | exact zaI _ _ | exact zbL _ _ _ _ _ _ _ | rfl | (focus simp [same, same.all2]; done)); (first | rfl | assumption | exact hwv _ | exact za7 (by assumption) (by assumption) (by (focus repeat' first | exact Ext.refl _ | assumption | apply Ext.push | (refine Ext.trans ?_ (by assumption)))) | (simp [within]; omega))) | (apply zls; rfl; rfl; rfl; rfl) | ((first | (apply zal; rfl; rfl; rfl; rfl; rfl; rfl) | (apply zaO; rfl; rfl; rfl; rfl; rfl; rfl; rfl)); exact aP; (rintro _ _ ⟨rfl, _⟩)) | ((first | (apply zal; rfl; rfl; rfl; rfl; rfl; rfl) | (apply zaO; rfl; rfl; rfl; rfl; rfl; rfl; rfl)); exact aL; (rintro _ _ ⟨rfl, _⟩)) | ((first | (apply zal; rfl; rfl; rfl; rfl; rfl; rfl) | (apply zaO; rfl; rfl; rfl; rfl; rfl; rfl; rfl)); exact key (.inr ⟨_, _, _, rfl, zaa⟩) (.inr ⟨_, _, _, rfl, by (focus repeat' first | exact zaa | assumption | apply zab | (apply Ext.get; assumption))⟩); (rintro _ _ (⟨rfl, _, _⟩ | ⟨rfl, _, _⟩))) | fail))
      all_goals (refine ⟨.inr rfl, _, rfl, ?_⟩; first | exact .inl ⟨rfl, ent1.2 (by omega), by (focus repeat' first | exact Ext.refl _ | assumption | apply Ext.push | (refine Ext.trans ?_ (by assumption)))⟩ | exact .inr ⟨rfl, fun z => by have := ent1.1 z; omega, by (focus repeat' first | exact Ext.refl _ | assumption | apply Ext.push | (refine Ext.trans ?_ (by assumption)))⟩)
    · (repeat' (first | apply zam | apply zac | (apply O_at; rfl) | (apply N_at; rfl) | (apply zaj; rfl) | apply zak | (apply za4; rfl) | (apply zbf; exact zay (by decide +kernel)) | apply zaq | apply zaA | (apply zbH; rfl; refine .inr ?_; (focus repeat' first | exact trivial | exact Keeps.nil _ _ | apply And.intro | rfl | (apply Keeps.cons; iterate 2 (focus repeat' first | exact zaa | assumption | apply zab | (apply Ext.get; assumption))))) | apply za5 | apply zca | apply zau | ((first | apply zaf | apply zad | apply zaN | apply zaV); rfl; rfl; rfl; rfl) | (apply P_fa; rfl; rfl; rfl; rfl; exact zaw rfl; (first | exact Nat.zero_add _ | exact Nat.add_zero _ | rfl)) | (apply zbM; rfl; rfl; rfl; rfl; rfl; omega) | (apply zah; rfl; rfl; rfl; rfl; exact zar rfl; (focus repeat' first | exact zaa | assumption | apply zab | (apply Ext.get; assumption)); (first | exact zae (by omega) | rfl | assumption)) | (apply zaM; rfl; rfl; rfl; rfl; exact zai rfl; rfl; rfl) | (apply zcA; rfl; rfl; rfl; rfl) | (apply zbU; rfl; rfl; rfl; rfl; rfl; rfl) | ((first | ((apply zbx; rfl; rfl; rfl; rfl; exact zar rfl); (focus repeat' first | exact zaa | assumption | apply zab | (apply Ext.get; assumption)); (first | exact zae (by omega) | rfl | assumption)) | ((apply zbO; rfl; rfl; rfl; rfl; exact zaT rfl); (focus repeat' first | exact zaa | assumption | apply zab | (apply Ext.get; assumption)); (first | exact Nat.le_of_ble_eq_true rfl | (simp; done) | (simp; omega) | (rw [zag]; omega)); rfl)); (first | assumption | exact zaI _ _ | exact zbL _ _ _ _ _ _ _ | rfl | (focus simp [same, same.all2]; done)); (first | rfl | assumption | exact hwv _ | exact za7 (by assumption) (by assumption) (by (focus repeat' first | exact Ext.refl _ | assumption | apply Ext.push | (refine Ext.trans ?_ (by assumption)))) | (simp [within]; omega))) | (apply zls; rfl; rfl; rfl; rfl) | ((first | (apply zal; rfl; rfl; rfl; rfl; rfl; rfl) | (apply zaO; rfl; rfl; rfl; rfl; rfl; rfl; rfl)); exact aP; (rintro _ _ ⟨rfl, _⟩)) | ((first | (apply zal; rfl; rfl; rfl; rfl; rfl; rfl) | (apply zaO; rfl; rfl; rfl; rfl; rfl; rfl; rfl)); exact aL; (rintro _ _ ⟨rfl, _⟩)) | ((first | (apply zal; rfl; rfl; rfl; rfl; rfl; rfl) | (apply zaO; rfl; rfl; rfl; rfl; rfl; rfl; rfl)); exact no (key (.inr ⟨_, _, _, rfl, zaa⟩) (rd.ext (by (focus repeat' first | exact Ext.refl _ | assumption | apply Ext.push | (refine Ext.trans ?_ (by assumption)))))) (fun z => h4 z.1); (rintro _ _ ⟨rfl, _⟩)) | fail))
      all_goals (refine ⟨.inr rfl, _, rfl, ?_⟩; first | exact .inl ⟨rfl, ent1.2 (by omega), by (focus repeat' first | exact Ext.refl _ | assumption | apply Ext.push | (refine Ext.trans ?_ (by assumption)))⟩ | exact .inr ⟨rfl, fun z => by have := ent1.1 z; omega, by (focus repeat' first | exact Ext.refl _ | assumption | apply Ext.push | (refine Ext.trans ?_ (by assumption)))⟩)
  by_cases h2 : par = 2
  · subst h2
    have key : ∀ {x : Option Addr} {h' : Heap}, Rd h' x (spanCells [(0, people - 1), (0, (nl : Int) - 1), (-999, 999)]) → Rd h' q (ints s) →
        CallW Tryz.prog K 100 #[.slice q s.length k, .slice x 3 3] h' (IfB (s.length = 3 ∧ (0 ≤ s.getD 0 0 ∧ s.getD 0 0 ≤ people - 1) ∧ (0 ≤ s.getD 1 0 ∧ s.getD 1 0 ≤ (nl : Int) - 1) ∧ -999 ≤ s.getD 2 0 ∧ s.getD 2 0 ≤ 999) h') := fun a b =>
      iff (zbS (l := [(0, people - 1), (0, (nl : Int) - 1), (-999, 999)]) hK (by simp) a hl b) within3
    (repeat' (first | apply zam | apply zac | (apply O_at; rfl) | (apply N_at; rfl) | (apply zaj; rfl) | apply zak | (apply za4; rfl) | (apply zaK; rfl) | (apply zbf; exact zay (by decide +kernel)) | apply zaq | apply zaA | (apply zbH; rfl; refine .inr ?_; (focus repeat' first | exact trivial | exact Keeps.nil _ _ | apply And.intro | rfl | (apply Keeps.cons; iterate 2 (focus repeat' first | exact zaa | assumption | apply zab | (apply Ext.get; assumption))))) | apply za5 | apply zca | apply zau | ((first | apply zaf | apply zad | apply zaN | apply zaV); rfl; rfl; rfl; rfl) | (apply P_fa; rfl; rfl; rfl; rfl; exact zaw rfl; (first | exact Nat.zero_add _ | exact Nat.add_zero _ | rfl)) | (apply zb4; rfl; rfl; rfl; rfl; rfl; omega) | (apply zbM; rfl; rfl; rfl; rfl; rfl; omega) | (apply zah; rfl; rfl; rfl; rfl; exact zar rfl; (focus repeat' first | exact zaa | assumption | apply zab | (apply Ext.get; assumption)); (first | exact zae (by omega) | rfl | assumption)) | (apply zaM; rfl; rfl; rfl; rfl; exact zai rfl; rfl; rfl) | ((first | ((apply zbx; rfl; rfl; rfl; rfl; exact zar rfl); (focus repeat' first | exact zaa | assumption | apply zab | (apply Ext.get; assumption)); (first | exact zae (by omega) | rfl | assumption)) | ((apply zbO; rfl; rfl; rfl; rfl; exact zaT rfl); (focus repeat' first | exact zaa | assumption | apply zab | (apply Ext.get; assumption)); (first | exact Nat.le_of_ble_eq_true rfl | (simp; done) | (simp; omega) | (rw [zag]; omega)); rfl)); (first | assumption | exact zaI _ _ | exact zbL _ _ _ _ _ _ _ | rfl | (focus simp [same, same.all2]; done)); (first | rfl | assumption | exact hwv _ | exact za7 (by assumption) (by assumption) (by (focus repeat' first | exact Ext.refl _ | assumption | apply Ext.push | (refine Ext.trans ?_ (by assumption)))) | (simp [within]; omega))) | (apply zlt; rfl; rfl; rfl; rfl) | ((first | (apply zal; rfl; rfl; rfl; rfl; rfl; rfl) | (apply zaO; rfl; rfl; rfl; rfl; rfl; rfl; rfl)); exact aP; (rintro _ _ ⟨rfl, _⟩)) | ((first | (apply zal; rfl; rfl; rfl; rfl; rfl; rfl) | (apply zaO; rfl; rfl; rfl; rfl; rfl; rfl; rfl)); exact aL; (rintro _ _ ⟨rfl, _⟩)) | ((first | (apply zal; rfl; rfl; rfl; rfl; rfl; rfl) | (apply zaO; rfl; rfl; rfl; rfl; rfl; rfl; rfl)); exact zc4 hK; (rintro _ _ ⟨rfl, _⟩)) | ((first | (apply zal; rfl; rfl; rfl; rfl; rfl; rfl) | (apply zaO; rfl; rfl; rfl; rfl; rfl; rfl; rfl)); exact key (.inr ⟨_, _, _, rfl, zaa⟩) (rd.ext (by (focus repeat' first | exact Ext.refl _ | assumption | apply Ext.push | (refine Ext.trans ?_ (by assumption))))); (rintro _ _ (⟨rfl, _, _⟩ | ⟨rfl, _, _⟩))) | fail))
    all_goals (refine ⟨.inr rfl, _, rfl, ?_⟩; first | exact .inl ⟨rfl, ent2.2 (by omega), by (focus repeat' first | exact Ext.refl _ | assumption | apply Ext.push | (refine Ext.trans ?_ (by assumption)))⟩ | exact .inr ⟨rfl, fun z => by have := ent2.1 z; omega, by (focus repeat' first | exact Ext.refl _ | assumption | apply Ext.push | (refine Ext.trans ?_ (by assumption)))⟩)
  by_cases h3 : par = 3
  · subst h3
    have key : ∀ {x : Option Addr} {h' : Heap}, Rd h' x (spanCells [(0, (nl : Int) - 1)]) → Rd h' q (ints s) →
        CallW Tryz.prog K 100 #[.slice q s.length k, .slice x 1 1] h' (IfB (s.length = 1 ∧ 0 ≤ s.getD 0 0 ∧ s.getD 0 0 ≤ (nl : Int) - 1) h') := fun a b =>
      iff (zbS (l := [(0, (nl : Int) - 1)]) hK (by simp) a hl b) within1
    (repeat' (first | apply zam | apply zac | (apply O_at; rfl) | (apply zaj; rfl) | apply zak | (apply za4; rfl) | (apply zaK; rfl) | apply zaq | apply zaA | apply za5 | apply zca | apply zau | ((first | apply zaf | apply zad | apply zaN | apply zaV); rfl; rfl; rfl; rfl) | (apply P_fa; rfl; rfl; rfl; rfl; exact zaw rfl; (first | exact Nat.zero_add _ | exact Nat.add_zero _ | rfl)) | (apply zb4; rfl; rfl; rfl; rfl; rfl; omega) | (apply zbM; rfl; rfl; rfl; rfl; rfl; omega) | (apply zah; rfl; rfl; rfl; rfl; exact zar rfl; (focus repeat' first | exact zaa | assumption | apply zab | (apply Ext.get; assumption)); (first | exact zae (by omega) | rfl | assumption)) | (apply zaz; rfl; rfl; rfl; rfl; exact zaT rfl; (focus repeat' first | exact zaa | assumption | apply zab | (apply Ext.get; assumption)); (first | exact Nat.le_of_ble_eq_true rfl | (simp; done) | (simp; omega) | (rw [zag]; omega)); rfl) | (apply P_bs_s1; rfl; rfl; rfl; rfl) | (apply zaM; rfl; rfl; rfl; rfl; exact zai rfl; rfl; rfl) | ((first | (apply zal; rfl; rfl; rfl; rfl; rfl; rfl) | (apply zaO; rfl; rfl; rfl; rfl; rfl; rfl; rfl)); exact aL; (rintro _ _ ⟨rfl, _⟩)) | ((first | (apply zal; rfl; rfl; rfl; rfl; rfl; rfl) | (apply zaO; rfl; rfl; rfl; rfl; rfl; rfl; rfl)); exact key (.inr ⟨_, _, _, rfl, zaa⟩) (rd.ext (by (focus repeat' first | exact Ext.refl _ | assumption | apply Ext.push | (refine Ext.trans ?_ (by assumption))))); (rintro _ _ (⟨rfl, _, _⟩ | ⟨rfl, _, _⟩))) | fail))
    all_goals (refine ⟨.inr rfl, _, rfl, ?_⟩; first | exact .inl ⟨rfl, ent3.2 (by omega), by (focus repeat' first | exact Ext.refl _ | assumption | apply Ext.push | (refine Ext.trans ?_ (by assumption)))⟩ | exact .inr ⟨rfl, fun z => by have := ent3.1 z; omega, by (focus repeat' first | exact Ext.refl _ | assumption | apply Ext.push | (refine Ext.trans ?_ (by assumption)))⟩)
  · (repeat' (first | apply zam | apply zac | (apply O_at; rfl) | (apply zaj; rfl) | apply zak | (apply zaK; rfl) | apply zaq | apply zax | apply zaA | apply zaB | apply zau | ((first | apply zaf | apply zad | apply zaN | apply zaV); rfl; rfl; rfl; rfl) | (apply P_fa; rfl; rfl; rfl; rfl; exact zaw rfl; (first | exact Nat.zero_add _ | exact Nat.add_zero _ | rfl)) | (apply zb4; rfl; rfl; rfl; rfl; rfl; omega) | (apply zah; rfl; rfl; rfl; rfl; exact zar rfl; (focus repeat' first | exact zaa | assumption | apply zab | (apply Ext.get; assumption)); (first | exact zae (by omega) | rfl | assumption)) | (apply zaM; rfl; rfl; rfl; rfl; exact zai rfl; rfl; rfl) | fail))
    exact ⟨.inr rfl, _, rfl, .inr ⟨rfl, fun z => by have := ent0 z; dsimp only at this; omega, by (focus repeat' first | exact Ext.refl _ | assumption | apply Ext.push | (refine Ext.trans ?_ (by assumption)))⟩⟩
end Go.AX.Sa

namespace Go.AX.Sa
open Go.Proofs
set_option maxRecDepth 100000
variable {K : Known}
set_option maxHeartbeats 1000000 in
theorem zck (hK : NoK K) {G : Pg} {h : Heap} (hT : PgAt G h) (hs : ShortP G) : CallW Tryz.prog K 60 #[pgV G] h (IfB (PgP G) h) := by
  have hT' := hT
  obtain ⟨people, pl, kl, nl, l, p, kc, c⟩ := G
  obtain ⟨len, rl, rc, each, hbl, hpb⟩ := hT
  obtain ⟨s1, s2, s3⟩ := hs
  dsimp only [pgV] at len rl rc each hbl hpb s1 s2 s3 ⊢
  refine body (N := 58) Tryz.func60 rfl (hK _ _ _ rfl) rfl rfl ?_
  by_cases h1 : (2 ≤ people ∧ people ≤ 6) ∧ (1 ≤ (nl : Int) ∧ (nl : Int) ≤ 6) ∧ c.length ≤ 10
  · have aP : ∀ {h' : Heap}, CallW Tryz.prog K 101 #[.agg #[.int .i64 people, .slice pl nl kl, .slice p c.length kc]] h' (IsV (.agg #[.int .i64 0, .int .i64 (people - 1)]) h') := zdu (G := ⟨people, pl, kl, nl, l, p, kc, c⟩) hK h1.1
    (repeat' (first | apply zam | apply zac | (apply O_at; rfl) | (apply zaj; rfl) | apply zak | (apply zaK; rfl) | apply zaq | apply zax | ((first | apply zaf | apply zad | apply zbl | apply zcI); rfl; rfl; rfl; rfl) | ((first | apply P_fa | apply M_fa); rfl; rfl; rfl; rfl; exact zaw rfl; (first | exact Nat.zero_add _ | exact Nat.add_zero _ | rfl)) | (apply zbe; rfl; rfl; rfl; rfl; rfl; rfl; exact zas rfl) | (apply zaR; rfl; rfl; rfl; rfl; rfl; rfl) | (apply P_gtrF; rfl; rfl; rfl; rfl; rfl; omega) | (apply zah; rfl; rfl; rfl; rfl; exact zar rfl; (focus repeat' first | exact zaa | assumption | apply zab | (apply Ext.get; assumption)); (first | rfl | assumption)) | (apply zaM; rfl; rfl; rfl; rfl; exact zai rfl; rfl; rfl) | ((first | (apply zal; rfl; rfl; rfl; rfl; rfl; rfl) | (apply zaO; rfl; rfl; rfl; rfl; rfl; rfl; rfl)); exact yes (zcb hK) h1.1; (rintro _ _ ⟨rfl, _⟩)) | ((first | (apply zal; rfl; rfl; rfl; rfl; rfl; rfl) | (apply zaO; rfl; rfl; rfl; rfl; rfl; rfl; rfl)); exact yes (zcb hK) h1.2.1; (rintro _ _ ⟨rfl, _⟩)) | fail))
    refine zbb (fun k : Nat => [(27, .int .i64 (k : Nat)), (26, .int .i64 (nl : Nat)), (25, .slice pl nl kl), (1, .pointer (some ⟨h.n, 0, none⟩))])
      (fun k h' => k ≤ nl ∧ Ext (h.push (.cells [.int .i64 people, .slice pl nl kl, .slice p c.length kc] 25 true)) h' ∧ ∀ j, j < k → LineP ⟨people, pl, kl, nl, l, p, kc, c⟩ j) (fun k => nl - k) ?_ 0 ?_ ?_
    · intro k h' ⟨hk, hx, hj⟩ ih
      have hg3 := hx.get zaa
      by_cases hlt : k < nl
      · obtain ⟨b, e, own', rfl, hg⟩ := rl.at (by rw [zag]; omega)
        have hg' := hx.get (zab hg)
        have key : ∀ {x y : Option Addr} {h' : Heap}, Rd h' x (spanCells [(0, people - 1), (-999, 999), (-999, 999)]) → Rd h' y (ints [l.getD (k * 3) 0, l.getD (k * 3 + 1) 0, l.getD (k * 3 + 2) 0]) →
            CallW Tryz.prog K 100 #[.slice y 3 3, .slice x 3 3] h' (IfB (LineP ⟨people, some ⟨b, 0, none⟩, kl, nl, l, p, kc, c⟩ k) h') := fun a d =>
          iff (zbS (l := [(0, people - 1), (-999, 999), (-999, 999)]) (t := [l.getD (k * 3) 0, l.getD (k * 3 + 1) 0, l.getD (k * 3 + 2) 0]) hK (by simp) a (by simp) d) (by rw [within3]; unfold LineP PersP NumP setr rght sett; simp)
        (repeat' (first | apply zam | apply zac | (apply O_at; rfl) | (apply N_at; rfl) | (apply zaj; rfl) | apply zak | (apply za4; rfl) | (apply zaK; rfl) | (apply zbf; exact zay (by decide +kernel)) | apply zaq | apply zax | apply zaA | (apply zbH; rfl; refine .inr ?_; (focus repeat' first | exact trivial | exact Keeps.nil _ _ | apply And.intro | rfl | (apply Keeps.cons; iterate 2 (focus repeat' first | exact zaa | assumption | apply zab | (apply Ext.get; assumption))))) | apply za5 | apply zdw | apply zca | apply zaB | apply zau | ((first | apply zaf | apply zad | apply zbl | apply zcI); rfl; rfl; rfl; rfl) | ((first | apply P_fa | apply M_fa); rfl; rfl; rfl; rfl; exact zaw rfl; (first | exact Nat.zero_add _ | exact Nat.add_zero _ | rfl)) | (apply zbo; rfl; rfl; rfl; rfl; rfl; omega) | (apply zbN; rfl; rfl; rfl; rfl; rfl; (unfold fit; omega)) | (apply zbT; rfl; rfl; rfl; rfl; rfl; exact zas rfl; exact zai rfl; (first | assumption | rfl | exact (Int.toNat_of_nonneg (by omega)).symm); omega) | (apply zaz; rfl; rfl; rfl; rfl; exact zaT rfl; (focus repeat' first | exact zaa | assumption | apply zab | (apply Ext.get; assumption)); (first | exact Nat.le_of_ble_eq_true rfl | (rw [zat]; omega) | (simp; done) | (simp; omega) | (rw [zag]; omega)); (first | exact zbm (by omega) | exact zav (by omega) | rfl)) | (apply zaD; rfl; rfl; rfl; rfl; exact zai rfl; rfl; rfl; rfl) | (apply zbi; rfl; rfl; rfl; rfl; exact zai rfl; rfl; rfl) | ((first | ((apply zbx; rfl; rfl; rfl; rfl; exact zar rfl); (focus repeat' first | exact zaa | assumption | apply zab | (apply Ext.get; assumption)); (first | rfl | assumption)) | ((apply zbO; rfl; rfl; rfl; rfl; exact zaT rfl); (focus repeat' first | exact zaa | assumption | apply zab | (apply Ext.get; assumption)); (first | exact Nat.le_of_ble_eq_true rfl | (rw [zat]; omega) | (simp; done) | (simp; omega) | (rw [zag]; omega)); (first | exact zbm (by omega) | exact zav (by omega) | rfl))); (first | assumption | exact zaI _ _ | exact zbL _ _ _ _ _ _ _ | rfl | (focus simp [same, same.all2]; done)); (first | rfl | assumption | exact hwv _ | exact za7 (by assumption) (by assumption) (by (focus repeat' first | exact Ext.refl _ | assumption | apply Ext.push | (refine Ext.trans ?_ (by assumption)))) | (simp [within]; omega))) | (apply M_bs_i3; rfl; rfl; rfl; rfl) | (apply zlt; rfl; rfl; rfl; rfl) | (apply zlr; rfl; rfl; rfl; rfl; rfl; rfl; rfl; (focus repeat' first | exact zaa | assumption | apply zab | (apply Ext.get; assumption)); exact aP; exact fun v h1 q => q.2; (rintro _ _ _ ⟨rfl, _⟩ _ _)) | (apply zlr; rfl; rfl; rfl; rfl; rfl; rfl; rfl; (focus repeat' first | exact zaa | assumption | apply zab | (apply Ext.get; assumption)); exact zc4 hK; exact fun v h1 q => q.2; (rintro _ _ _ ⟨rfl, _⟩ _ _)) | ((first | (apply zal; rfl; rfl; rfl; rfl; rfl; rfl) | (apply zaO; rfl; rfl; rfl; rfl; rfl; rfl; rfl)); exact key (.inr ⟨_, _, _, rfl, by (focus repeat' first | exact zaa | assumption | apply zab | (apply Ext.get; assumption))⟩) (.inr ⟨_, _, _, rfl, by (focus repeat' first | exact zaa | assumption | apply zab | (apply Ext.get; assumption))⟩); (rintro _ _ (⟨rfl, _, _⟩ | ⟨rfl, _, _⟩))) | fail))
        · rename_i w _
          refine zaH (ih (k + 1) _ (by omega) ⟨hlt, by (focus repeat' first | exact Ext.refl _ | assumption | apply Ext.push | (refine Ext.trans ?_ (by assumption))), fun j hj' => ?_⟩) (by (focus repeat' first | rfl | exact trivial | apply And.intro))
          by_cases hjk : j = k
          · subst hjk; exact w
          · exact hj j (by omega)
        · rename_i w _
          exact ⟨.inr rfl, _, rfl, .inr ⟨rfl, fun q => w (q.line k hlt), by (focus repeat' first | exact Ext.refl _ | assumption | apply Ext.push | (refine Ext.trans ?_ (by assumption)))⟩⟩
      · (repeat' (first | apply zam | apply zac | (apply O_at; rfl) | (apply zaj; rfl) | apply zak | (apply zaK; rfl) | apply zaq | apply zbj | apply zbk | apply zaZ | apply za0 | ((first | apply zaf | apply zad | apply zbl | apply zcI); rfl; rfl; rfl; rfl) | ((first | apply P_fa | apply M_fa); rfl; rfl; rfl; rfl; exact zaw rfl; (first | exact Nat.zero_add _ | exact Nat.add_zero _ | rfl)) | (apply zbe; rfl; rfl; rfl; rfl; rfl; rfl; exact zas rfl) | (apply zbr; rfl; rfl; rfl; rfl; rfl; omega) | (apply zah; rfl; rfl; rfl; rfl; exact zar rfl; (focus repeat' first | exact zaa | assumption | apply zab | (apply Ext.get; assumption)); (first | rfl | assumption)) | fail))
        refine zbb (fun k : Nat => [(49, .int .i64 (k : Nat)), (48, .int .i64 (c.length : Nat)), (47, .slice p c.length kc), (1, .pointer (some ⟨h.n, 0, none⟩))])
          (fun k h' => k ≤ c.length ∧ Ext (h.push (.cells [.int .i64 people, .slice pl nl kl, .slice p c.length kc] 25 true)) h' ∧ ∀ j, j < k → EntP people nl (ent (c.getD j cop0))) (fun k => c.length - k) ?_ 0 ?_ ?_
        · intro k h2 ⟨hk2, hx2, hj2⟩ ih2
          have hg2 := hx2.get zaa
          by_cases hlt2 : k < c.length
          · obtain ⟨b, e, own', rfl, hg⟩ := rc.at (by rw [zat]; omega)
            have hg' := hx2.get (zab hg)
            have eR := each k hlt2
            have eL := s3 k hlt2
            (repeat' (first | apply zam | apply zac | (apply O_at; rfl) | (apply zaj; rfl) | apply zak | (apply za4; rfl) | (apply zaK; rfl) | apply zaq | apply zax | apply zaA | apply za5 | apply zdw | apply zca | apply zaB | apply zau | ((first | apply zaf | apply zad | apply zbl | apply zcI); rfl; rfl; rfl; rfl) | (apply zbo; rfl; rfl; rfl; rfl; rfl; omega) | (apply zbN; rfl; rfl; rfl; rfl; rfl; (unfold fit; omega)) | (apply zbT; rfl; rfl; rfl; rfl; rfl; exact zas rfl; exact zai rfl; (first | assumption | rfl | exact (Int.toNat_of_nonneg (by omega)).symm); omega) | (apply zaz; rfl; rfl; rfl; rfl; exact zaT rfl; (focus repeat' first | exact zaa | assumption | apply zab | (apply Ext.get; assumption)); (first | exact Nat.le_of_ble_eq_true rfl | (rw [zat]; omega) | (simp; done) | (simp; omega) | (rw [zag]; omega)); (first | exact zbm (by omega) | exact zav (by omega) | rfl)) | (apply zaD; rfl; rfl; rfl; rfl; exact zai rfl; rfl; rfl; rfl) | (apply zbi; rfl; rfl; rfl; rfl; exact zai rfl; rfl; rfl) | ((first | (apply zal; rfl; rfl; rfl; rfl; rfl; rfl) | (apply zaO; rfl; rfl; rfl; rfl; rfl; rfl; rfl)); exact zi9 (G := ⟨people, pl, kl, nl, l, some ⟨b, 0, none⟩, kc, c⟩) (c := c.getD k cop0) hK h1.1 (by dsimp only; omega) (hT'.ext (by (focus repeat' first | exact Ext.refl _ | assumption | apply Ext.push | (refine Ext.trans ?_ (by assumption))))).bl (hT'.ext (by (focus repeat' first | exact Ext.refl _ | assumption | apply Ext.push | (refine Ext.trans ?_ (by assumption))))).bg (eR.ext (by (focus repeat' first | exact Ext.refl _ | assumption | apply Ext.push | (refine Ext.trans ?_ (by assumption))))) (by omega); (rintro _ _ (⟨rfl, _, _⟩ | ⟨rfl, _, _⟩))) | fail))
            · rename_i w _
              refine zaH (ih2 (k + 1) _ (by omega) ⟨hlt2, by (focus repeat' first | exact Ext.refl _ | assumption | apply Ext.push | (refine Ext.trans ?_ (by assumption))), fun j hj' => ?_⟩) (by (focus repeat' first | rfl | exact trivial | apply And.intro))
              by_cases hjk : j = k
              · subst hjk; exact w
              · exact hj2 j (by omega)
            · rename_i w _
              exact ⟨.inr rfl, _, rfl, .inr ⟨rfl, fun q => w (q.ent k hlt2), by (focus repeat' first | exact Ext.refl _ | assumption | apply Ext.push | (refine Ext.trans ?_ (by assumption)))⟩⟩
          · (repeat' (first | apply zam | apply zac | (apply O_at; rfl) | (apply zaj; rfl) | apply zak | (apply zaK; rfl) | apply zbj | apply zaA | apply zbk | apply zaZ | apply za0 | apply zau | ((first | apply zaf | apply zad | apply zbl | apply zcI); rfl; rfl; rfl; rfl) | (apply zbr; rfl; rfl; rfl; rfl; rfl; omega) | fail))
            exact ⟨.inr rfl, _, rfl, .inl ⟨rfl, ⟨h1.1, h1.2.1, h1.2.2, fun j q => hj j (by dsimp only at q; omega), fun j q => hj2 j (by dsimp only at q; omega)⟩, by (focus repeat' first | exact Ext.refl _ | assumption | apply Ext.push | (refine Ext.trans ?_ (by assumption)))⟩⟩
        · exact ⟨Nat.zero_le _, by (focus repeat' first | exact Ext.refl _ | assumption | apply Ext.push | (refine Ext.trans ?_ (by assumption))), fun j q => by omega⟩
        · (focus repeat' first | rfl | exact trivial | apply And.intro)
    · exact ⟨Nat.zero_le _, by (focus repeat' first | exact Ext.refl _ | assumption | apply Ext.push | (refine Ext.trans ?_ (by assumption))), fun j hj => by omega⟩
    · (focus repeat' first | rfl | exact trivial | apply And.intro)
  · have hz : ¬ PgP ⟨people, pl, kl, nl, l, p, kc, c⟩ := fun q => h1 ⟨q.people, q.n, q.c⟩
    (repeat' (first | apply zam | apply zac | (apply O_at; rfl) | (apply zaj; rfl) | apply zak | (apply za4; rfl) | (apply zaK; rfl) | apply zaq | apply zax | apply zaA | apply za5 | apply zau | (apply zbn; rfl; rfl; rfl) | ((first | apply zaf | apply zad | apply zbl | apply zcI); rfl; rfl; rfl; rfl) | ((first | apply P_fa | apply M_fa); rfl; rfl; rfl; rfl; exact zaw rfl; (first | exact Nat.zero_add _ | exact Nat.add_zero _ | rfl)) | (apply zbe; rfl; rfl; rfl; rfl; rfl; rfl; exact zas rfl) | (apply zaR; rfl; rfl; rfl; rfl; rfl; rfl) | (apply P_gtr; rfl; rfl; rfl; rfl; rfl; all_goals intro _) | (apply zah; rfl; rfl; rfl; rfl; exact zar rfl; (focus repeat' first | exact zaa | assumption | apply zab | (apply Ext.get; assumption)); (first | rfl | assumption)) | (apply zaM; rfl; rfl; rfl; rfl; exact zai rfl; rfl; rfl) | ((first | (apply zal; rfl; rfl; rfl; rfl; rfl; rfl) | (apply zaO; rfl; rfl; rfl; rfl; rfl; rfl; rfl)); exact zcb hK; (rintro _ _ (⟨rfl, _, _⟩ | ⟨rfl, _, _⟩))) | fail))
    all_goals first
      | exact ⟨.inr rfl, _, rfl, .inr ⟨rfl, hz, by (focus repeat' first | exact Ext.refl _ | assumption | apply Ext.push | (refine Ext.trans ?_ (by assumption)))⟩⟩
      | (exfalso; omega)
end Go.AX.Sa

namespace Go.AX.Sa
open Go.Proofs
set_option maxRecDepth 100000
variable {K : Known}
set_option maxHeartbeats 2000000 in
theorem zg7 (hK : NoK K) {G : Pg} {c : Cop} {h : Heap} (hp : 2 ≤ G.people ∧ G.people ≤ 6) (hn : G.n ≤ 1000) (hbl : ∀ a, G.pl = some a → a.block < h.n) (hbg : ∀ a, G.pg = some a → a.block < h.n) (hc : RowIn c.r h) (hl : c.r.s.length ≤ 1000) :
    CallW Tryz.prog K 64 #[pgV G, enV c] h (IfB (EntP G.people G.n (ent c)) h) := by
  refine body (N := 88) Tryz.func64 rfl (hK _ _ _ rfl) rfl rfl ?_
  have hcb := hc.b
  have hp' := hp
  have hn' := hn
  obtain ⟨people, pl, kl, nl, l, pg, kg, cc⟩ := G
  obtain ⟨par, q, k, s⟩ := c
  dsimp only [pgV, enV, ent] at hp' hn' hbl hbg hcb hl hc ⊢
  obtain ⟨rd, _⟩ := hc
  dsimp only at rd
  have aA : ∀ {h' : Heap} {a b : Int}, CallW Tryz.prog K 108 #[.agg #[.int .i64 people, .slice pl nl kl, .slice pg cc.length kg], .int .i64 a, .int .i64 b] h' (IfB ((0 ≤ a ∧ a ≤ people - 1) ∧ (0 ≤ b ∧ b ≤ people - 1) ∧ a < b) h') := pair_ok (G := ⟨people, pl, kl, nl, l, pg, kg, cc⟩) hK hp
  have aP : ∀ {h' : Heap} {a : Int}, CallW Tryz.prog K 32 #[.agg #[.int .i64 people, .slice pl nl kl, .slice pg cc.length kg], .int .i64 a] h' (IfB (0 ≤ a ∧ a ≤ people - 1) h') := zd7 (G := ⟨people, pl, kl, nl, l, pg, kg, cc⟩) hK hp
  have aL : ∀ {h' : Heap} {a : Int}, CallW Tryz.prog K 25 #[.agg #[.int .i64 people, .slice pl nl kl, .slice pg cc.length kg], .int .i64 a] h' (IfB (0 ≤ a ∧ a ≤ (nl : Int) - 1) h') := zda (G := ⟨people, pl, kl, nl, l, pg, kg, cc⟩) hK hn
  have aN : ∀ {h' : Heap} {a : Int}, CallW Tryz.prog K 63 #[.int .i64 a] h' (IfB (-999 ≤ a ∧ a ≤ 999) h') := zge hK
  clear hp hn
  by_cases h1 : par = 1
  · subst h1
    by_cases h4 : s.length = 4
    · obtain ⟨b, e, own, rfl, hg⟩ := rd.at (by rw [zag]; omega)
      clear rd
      rw [h4] at hl ⊢
      (repeat' (first | apply zam | apply zac | (apply O_at; rfl) | (apply N_at; rfl) | (apply zaj; rfl) | apply zak | (apply za4; rfl) | (apply zbf; exact zay (by decide +kernel)) | apply zaA | (apply zbH; rfl; refine .inr ?_; (focus repeat' first | exact trivial | exact Keeps.nil _ _ | apply And.intro | rfl | (apply Keeps.cons; iterate 2 (focus repeat' first | exact zaa | assumption | apply zab | (apply Ext.get; assumption))))) | apply za5 | apply zau | ((first | apply zad | apply zaN | apply zaV); rfl; rfl; rfl; rfl) | ((first | apply P_fa | apply M_fa); rfl; rfl; rfl; rfl; exact zaw rfl; (first | exact Nat.zero_add _ | exact Nat.add_zero _ | rfl)) | (apply zbM; rfl; rfl; rfl; rfl; rfl; omega) | (apply zah; rfl; rfl; rfl; rfl; exact zar rfl; (focus repeat' first | exact zaa | assumption | apply zab | (apply Ext.get; assumption)); (first | exact zae (by omega) | rfl | assumption)) | (apply zaM; rfl; rfl; rfl; rfl; exact zai rfl; rfl; rfl) | (apply zcA; rfl; rfl; rfl; rfl) | (apply zcp; rfl; rfl; rfl; rfl) | (apply zjw; rfl; rfl; rfl; rfl; rfl; rfl; exact zas rfl) | (apply zbU; rfl; rfl; rfl; rfl; rfl; rfl) | (apply zgH; rfl; rfl; rfl; rfl; rfl; omega) | (apply M_leq; rfl; rfl; rfl; rfl; rfl; all_goals intro _) | (apply zc7; rfl; rfl; rfl; rfl; rfl; exact zas rfl; exact zai rfl; (first | assumption | exact zq0 | exact zq1 | exact zq2 | exact zq3 | rfl | exact (Int.toNat_of_nonneg (by omega)).symm); omega) | ((first | ((apply zbx; rfl; rfl; rfl; rfl; exact zar rfl); (focus repeat' first | exact zaa | assumption | apply zab | (apply Ext.get; assumption)); (first | exact zae (by omega) | rfl | assumption)) | ((apply zbO; rfl; rfl; rfl; rfl; exact zaT rfl); (focus repeat' first | exact zaa | assumption | apply zab | (apply Ext.get; assumption)); (first | exact Nat.le_of_ble_eq_true rfl | (simp; done) | (simp; omega) | (rw [zag]; omega)); rfl)); (first | assumption | exact zaI _ _ | exact zbL _ _ _ _ _ _ _ | rfl | (focus simp [same, same.all2]; done)); (first | rfl | assumption | exact hwv _ | exact za7 (by assumption) (by assumption) (by (focus repeat' first | exact Ext.refl _ | assumption | apply Ext.push | (refine Ext.trans ?_ (by assumption)))) | (simp [within]; omega))) | (apply zaO; rfl; rfl; rfl; rfl; rfl; rfl; rfl; exact aA; (rintro _ _ (⟨rfl, _, _⟩ | ⟨rfl, _, _⟩))) | (apply zaO; rfl; rfl; rfl; rfl; rfl; rfl; rfl; exact aL; (rintro _ _ (⟨rfl, _, _⟩ | ⟨rfl, _, _⟩))) | fail))
      all_goals (refine ⟨.inr rfl, _, rfl, ?_⟩; first | exact .inl ⟨rfl, ent1.2 (by omega), by (focus repeat' first | exact Ext.refl _ | assumption | apply Ext.push | (refine Ext.trans ?_ (by assumption)))⟩ | exact .inr ⟨rfl, fun z => by have := ent1.1 z; omega, by (focus repeat' first | exact Ext.refl _ | assumption | apply Ext.push | (refine Ext.trans ?_ (by assumption)))⟩)
    · (repeat' (first | apply zam | apply zac | (apply O_at; rfl) | (apply N_at; rfl) | (apply zaj; rfl) | apply zak | (apply za4; rfl) | (apply zbf; exact zay (by decide +kernel)) | apply zaA | (apply zbH; rfl; refine .inr ?_; (focus repeat' first | exact trivial | exact Keeps.nil _ _ | apply And.intro | rfl | (apply Keeps.cons; iterate 2 (focus repeat' first | exact zaa | assumption | apply zab | (apply Ext.get; assumption))))) | apply za5 | apply zau | ((first | apply zad | apply zaN | apply zaV); rfl; rfl; rfl; rfl) | ((first | apply P_fa | apply M_fa); rfl; rfl; rfl; rfl; exact zaw rfl; (first | exact Nat.zero_add _ | exact Nat.add_zero _ | rfl)) | (apply zbM; rfl; rfl; rfl; rfl; rfl; omega) | (apply zah; rfl; rfl; rfl; rfl; exact zar rfl; (focus repeat' first | exact zaa | assumption | apply zab | (apply Ext.get; assumption)); (first | exact zae (by omega) | rfl | assumption)) | (apply zaM; rfl; rfl; rfl; rfl; exact zai rfl; rfl; rfl) | (apply zcA; rfl; rfl; rfl; rfl) | (apply zcp; rfl; rfl; rfl; rfl) | (apply zjw; rfl; rfl; rfl; rfl; rfl; rfl; exact zas rfl) | (apply zbU; rfl; rfl; rfl; rfl; rfl; rfl) | (apply zgI; rfl; rfl; rfl; rfl; rfl; omega) | fail))
      all_goals (refine ⟨.inr rfl, _, rfl, ?_⟩; first | exact .inr ⟨rfl, fun z => by have := ent1.1 z; omega, by (focus repeat' first | exact Ext.refl _ | assumption | apply Ext.push | (refine Ext.trans ?_ (by assumption)))⟩)
  by_cases h2 : par = 2
  · subst h2
    by_cases h4 : s.length = 3
    · obtain ⟨b, e, own, rfl, hg⟩ := rd.at (by rw [zag]; omega)
      clear rd
      rw [h4] at hl ⊢
      (repeat' (first | apply zam | apply zac | (apply O_at; rfl) | (apply N_at; rfl) | (apply zaj; rfl) | apply zak | (apply za4; rfl) | (apply zaK; rfl) | (apply zbf; exact zay (by decide +kernel)) | apply zax | apply zaA | (apply zbH; rfl; refine .inr ?_; (focus repeat' first | exact trivial | exact Keeps.nil _ _ | apply And.intro | rfl | (apply Keeps.cons; iterate 2 (focus repeat' first | exact zaa | assumption | apply zab | (apply Ext.get; assumption))))) | apply za5 | apply zau | ((first | apply zad | apply zaN | apply zaV); rfl; rfl; rfl; rfl) | ((first | apply P_fa | apply M_fa); rfl; rfl; rfl; rfl; exact zaw rfl; (first | exact Nat.zero_add _ | exact Nat.add_zero _ | rfl)) | (apply zb4; rfl; rfl; rfl; rfl; rfl; omega) | (apply zbM; rfl; rfl; rfl; rfl; rfl; omega) | (apply zah; rfl; rfl; rfl; rfl; exact zar rfl; (focus repeat' first | exact zaa | assumption | apply zab | (apply Ext.get; assumption)); (first | exact zae (by omega) | rfl | assumption)) | (apply zaM; rfl; rfl; rfl; rfl; exact zai rfl; rfl; rfl) | (apply zcA; rfl; rfl; rfl; rfl) | (apply zcp; rfl; rfl; rfl; rfl) | (apply zjw; rfl; rfl; rfl; rfl; rfl; rfl; exact zas rfl) | (apply zbU; rfl; rfl; rfl; rfl; rfl; rfl) | (apply zgH; rfl; rfl; rfl; rfl; rfl; omega) | (apply zc7; rfl; rfl; rfl; rfl; rfl; exact zas rfl; exact zai rfl; (first | assumption | exact zq0 | exact zq1 | exact zq2 | exact zq3 | rfl | exact (Int.toNat_of_nonneg (by omega)).symm); omega) | ((first | ((apply zbx; rfl; rfl; rfl; rfl; exact zar rfl); (focus repeat' first | exact zaa | assumption | apply zab | (apply Ext.get; assumption)); (first | exact zae (by omega) | rfl | assumption)) | ((apply zbO; rfl; rfl; rfl; rfl; exact zaT rfl); (focus repeat' first | exact zaa | assumption | apply zab | (apply Ext.get; assumption)); (first | exact Nat.le_of_ble_eq_true rfl | (simp; done) | (simp; omega) | (rw [zag]; omega)); rfl)); (first | assumption | exact zaI _ _ | exact zbL _ _ _ _ _ _ _ | rfl | (focus simp [same, same.all2]; done)); (first | rfl | assumption | exact hwv _ | exact za7 (by assumption) (by assumption) (by (focus repeat' first | exact Ext.refl _ | assumption | apply Ext.push | (refine Ext.trans ?_ (by assumption)))) | (simp [within]; omega))) | (apply zaO; rfl; rfl; rfl; rfl; rfl; rfl; rfl; exact aP; (rintro _ _ (⟨rfl, _, _⟩ | ⟨rfl, _, _⟩))) | (apply zaO; rfl; rfl; rfl; rfl; rfl; rfl; rfl; exact aL; (rintro _ _ (⟨rfl, _, _⟩ | ⟨rfl, _, _⟩))) | (apply zaO; rfl; rfl; rfl; rfl; rfl; rfl; rfl; exact aN; (rintro _ _ (⟨rfl, _, _⟩ | ⟨rfl, _, _⟩))) | fail))
      all_goals (refine ⟨.inr rfl, _, rfl, ?_⟩; first | exact .inl ⟨rfl, ent2.2 (by omega), by (focus repeat' first | exact Ext.refl _ | assumption | apply Ext.push | (refine Ext.trans ?_ (by assumption)))⟩ | exact .inr ⟨rfl, fun z => by have := ent2.1 z; omega, by (focus repeat' first | exact Ext.refl _ | assumption | apply Ext.push | (refine Ext.trans ?_ (by assumption)))⟩)
    · (repeat' (first | apply zam | apply zac | (apply O_at; rfl) | (apply N_at; rfl) | (apply zaj; rfl) | apply zak | (apply za4; rfl) | (apply zaK; rfl) | (apply zbf; exact zay (by decide +kernel)) | apply zax | apply zaA | (apply zbH; rfl; refine .inr ?_; (focus repeat' first | exact trivial | exact Keeps.nil _ _ | apply And.intro | rfl | (apply Keeps.cons; iterate 2 (focus repeat' first | exact zaa | assumption | apply zab | (apply Ext.get; assumption))))) | apply za5 | apply zau | ((first | apply zad | apply zaN | apply zaV); rfl; rfl; rfl; rfl) | ((first | apply P_fa | apply M_fa); rfl; rfl; rfl; rfl; exact zaw rfl; (first | exact Nat.zero_add _ | exact Nat.add_zero _ | rfl)) | (apply zb4; rfl; rfl; rfl; rfl; rfl; omega) | (apply zbM; rfl; rfl; rfl; rfl; rfl; omega) | (apply zah; rfl; rfl; rfl; rfl; exact zar rfl; (focus repeat' first | exact zaa | assumption | apply zab | (apply Ext.get; assumption)); (first | exact zae (by omega) | rfl | assumption)) | (apply zaM; rfl; rfl; rfl; rfl; exact zai rfl; rfl; rfl) | (apply zcA; rfl; rfl; rfl; rfl) | (apply zcp; rfl; rfl; rfl; rfl) | (apply zjw; rfl; rfl; rfl; rfl; rfl; rfl; exact zas rfl) | (apply zbU; rfl; rfl; rfl; rfl; rfl; rfl) | (apply zgI; rfl; rfl; rfl; rfl; rfl; omega) | fail))
      all_goals (refine ⟨.inr rfl, _, rfl, ?_⟩; first | exact .inr ⟨rfl, fun z => by have := ent2.1 z; omega, by (focus repeat' first | exact Ext.refl _ | assumption | apply Ext.push | (refine Ext.trans ?_ (by assumption)))⟩)
  by_cases h3 : par = 3
  · subst h3
    by_cases h4 : s.length = 1
    · obtain ⟨b, e, own, rfl, hg⟩ := rd.at (by rw [zag]; omega)
      clear rd
      rw [h4] at hl ⊢
      (repeat' (first | apply zam | apply zac | (apply O_at; rfl) | (apply N_at; rfl) | (apply zaj; rfl) | apply zak | (apply zaK; rfl) | (apply zbf; exact zay (by decide +kernel)) | apply zax | apply zaA | (apply zbH; rfl; refine .inr ?_; (focus repeat' first | exact trivial | exact Keeps.nil _ _ | apply And.intro | rfl | (apply Keeps.cons; iterate 2 (focus repeat' first | exact zaa | assumption | apply zab | (apply Ext.get; assumption))))) | apply zau | ((first | apply zad | apply zaN | apply zaV); rfl; rfl; rfl; rfl) | ((first | apply P_fa | apply M_fa); rfl; rfl; rfl; rfl; exact zaw rfl; (first | exact Nat.zero_add _ | exact Nat.add_zero _ | rfl)) | (apply zb4; rfl; rfl; rfl; rfl; rfl; omega) | (apply zah; rfl; rfl; rfl; rfl; exact zar rfl; (focus repeat' first | exact zaa | assumption | apply zab | (apply Ext.get; assumption)); (first | exact zae (by omega) | rfl | assumption)) | (apply zaM; rfl; rfl; rfl; rfl; exact zai rfl; rfl; rfl) | (apply zjw; rfl; rfl; rfl; rfl; rfl; rfl; exact zas rfl) | (apply zbU; rfl; rfl; rfl; rfl; rfl; rfl) | (apply zgH; rfl; rfl; rfl; rfl; rfl; omega) | (apply zc7; rfl; rfl; rfl; rfl; rfl; exact zas rfl; exact zai rfl; (first | assumption | exact zq0 | exact zq1 | exact zq2 | exact zq3 | rfl | exact (Int.toNat_of_nonneg (by omega)).symm); omega) | ((first | ((apply zbx; rfl; rfl; rfl; rfl; exact zar rfl); (focus repeat' first | exact zaa | assumption | apply zab | (apply Ext.get; assumption)); (first | exact zae (by omega) | rfl | assumption)) | ((apply zbO; rfl; rfl; rfl; rfl; exact zaT rfl); (focus repeat' first | exact zaa | assumption | apply zab | (apply Ext.get; assumption)); (first | exact Nat.le_of_ble_eq_true rfl | (simp; done) | (simp; omega) | (rw [zag]; omega)); rfl)); (first | assumption | exact zaI _ _ | exact zbL _ _ _ _ _ _ _ | rfl | (focus simp [same, same.all2]; done)); (first | rfl | assumption | exact hwv _ | exact za7 (by assumption) (by assumption) (by (focus repeat' first | exact Ext.refl _ | assumption | apply Ext.push | (refine Ext.trans ?_ (by assumption)))) | (simp [within]; omega))) | (apply zaO; rfl; rfl; rfl; rfl; rfl; rfl; rfl; exact aL; (rintro _ _ (⟨rfl, _, _⟩ | ⟨rfl, _, _⟩))) | fail))
      all_goals (refine ⟨.inr rfl, _, rfl, ?_⟩; first | exact .inl ⟨rfl, ent3.2 (by omega), by (focus repeat' first | exact Ext.refl _ | assumption | apply Ext.push | (refine Ext.trans ?_ (by assumption)))⟩ | exact .inr ⟨rfl, fun z => by have := ent3.1 z; omega, by (focus repeat' first | exact Ext.refl _ | assumption | apply Ext.push | (refine Ext.trans ?_ (by assumption)))⟩)
    · (repeat' (first | apply zam | apply zac | (apply O_at; rfl) | (apply N_at; rfl) | (apply zaj; rfl) | apply zak | (apply zaK; rfl) | (apply zbf; exact zay (by decide +kernel)) | apply zax | apply zaA | (apply zbH; rfl; refine .inr ?_; (focus repeat' first | exact trivial | exact Keeps.nil _ _ | apply And.intro | rfl | (apply Keeps.cons; iterate 2 (focus repeat' first | exact zaa | assumption | apply zab | (apply Ext.get; assumption))))) | apply zau | ((first | apply zad | apply zaN | apply zaV); rfl; rfl; rfl; rfl) | ((first | apply P_fa | apply M_fa); rfl; rfl; rfl; rfl; exact zaw rfl; (first | exact Nat.zero_add _ | exact Nat.add_zero _ | rfl)) | (apply zb4; rfl; rfl; rfl; rfl; rfl; omega) | (apply zah; rfl; rfl; rfl; rfl; exact zar rfl; (focus repeat' first | exact zaa | assumption | apply zab | (apply Ext.get; assumption)); (first | exact zae (by omega) | rfl | assumption)) | (apply zaM; rfl; rfl; rfl; rfl; exact zai rfl; rfl; rfl) | (apply zcA; rfl; rfl; rfl; rfl) | (apply zcp; rfl; rfl; rfl; rfl) | (apply zjw; rfl; rfl; rfl; rfl; rfl; rfl; exact zas rfl) | (apply zbU; rfl; rfl; rfl; rfl; rfl; rfl) | (apply zgI; rfl; rfl; rfl; rfl; rfl; omega) | (apply zgH; rfl; rfl; rfl; rfl; rfl; omega) | ((first | ((apply zbx; rfl; rfl; rfl; rfl; exact zar rfl); (focus repeat' first | exact zaa | assumption | apply zab | (apply Ext.get; assumption)); (first | exact zae (by omega) | rfl | assumption)) | ((apply zbO; rfl; rfl; rfl; rfl; exact zaT rfl); (focus repeat' first | exact zaa | assumption | apply zab | (apply Ext.get; assumption)); (first | exact Nat.le_of_ble_eq_true rfl | (simp; done) | (simp; omega) | (rw [zag]; omega)); rfl)); (first | assumption | exact zaI _ _ | exact zbL _ _ _ _ _ _ _ | rfl | (focus simp [same, same.all2]; done)); (first | rfl | assumption | exact hwv _ | exact za7 (by assumption) (by assumption) (by (focus repeat' first | exact Ext.refl _ | assumption | apply Ext.push | (refine Ext.trans ?_ (by assumption)))) | (simp [within]; omega))) | fail))
      all_goals (refine ⟨.inr rfl, _, rfl, ?_⟩; first | exact .inr ⟨rfl, fun z => by have := ent3.1 z; omega, by (focus repeat' first | exact Ext.refl _ | assumption | apply Ext.push | (refine Ext.trans ?_ (by assumption)))⟩)
  · (repeat' (first | apply zam | apply zac | (apply O_at; rfl) | (apply N_at; rfl) | (apply zaj; rfl) | apply zak | (apply zaK; rfl) | (apply zbf; exact zay (by decide +kernel)) | apply zax | apply zaA | (apply zbH; rfl; refine .inr ?_; (focus repeat' first | exact trivial | exact Keeps.nil _ _ | apply And.intro | rfl | (apply Keeps.cons; iterate 2 (focus repeat' first | exact zaa | assumption | apply zab | (apply Ext.get; assumption))))) | apply zau | ((first | apply zad | apply zaN | apply zaV); rfl; rfl; rfl; rfl) | ((first | apply P_fa | apply M_fa); rfl; rfl; rfl; rfl; exact zaw rfl; (first | exact Nat.zero_add _ | exact Nat.add_zero _ | rfl)) | (apply zb4; rfl; rfl; rfl; rfl; rfl; omega) | (apply zah; rfl; rfl; rfl; rfl; exact zar rfl; (focus repeat' first | exact zaa | assumption | apply zab | (apply Ext.get; assumption)); (first | exact zae (by omega) | rfl | assumption)) | (apply zaM; rfl; rfl; rfl; rfl; exact zai rfl; rfl; rfl) | (apply zcA; rfl; rfl; rfl; rfl) | (apply zcp; rfl; rfl; rfl; rfl) | (apply zbU; rfl; rfl; rfl; rfl; rfl; rfl) | (apply zgI; rfl; rfl; rfl; rfl; rfl; omega) | ((first | ((apply zbx; rfl; rfl; rfl; rfl; exact zar rfl); (focus repeat' first | exact zaa | assumption | apply zab | (apply Ext.get; assumption)); (first | exact zae (by omega) | rfl | assumption)) | ((apply zbO; rfl; rfl; rfl; rfl; exact zaT rfl); (focus repeat' first | exact zaa | assumption | apply zab | (apply Ext.get; assumption)); (first | exact Nat.le_of_ble_eq_true rfl | (simp; done) | (simp; omega) | (rw [zag]; omega)); rfl)); (first | assumption | exact zaI _ _ | exact zbL _ _ _ _ _ _ _ | rfl | (focus simp [same, same.all2]; done)); (first | rfl | assumption | exact hwv _ | exact za7 (by assumption) (by assumption) (by (focus repeat' first | exact Ext.refl _ | assumption | apply Ext.push | (refine Ext.trans ?_ (by assumption)))) | (simp [within]; omega))) | fail))
    exact ⟨.inr rfl, _, rfl, .inr ⟨rfl, fun z => by have := ent0 z; dsimp only at this; omega, by (focus repeat' first | exact Ext.refl _ | assumption | apply Ext.push | (refine Ext.trans ?_ (by assumption)))⟩⟩
set_option maxHeartbeats 1000000 in
theorem zc9 (hK : NoK K) {G : Pg} {h : Heap} (hT : PgAt G h) (hs : ShortP G) : CallW Tryz.prog K 20 #[pgV G] h (IfB (PgP G) h) := by
  have hT' := hT
  obtain ⟨people, pl, kl, nl, l, p, kc, c⟩ := G
  obtain ⟨len, rl, rc, each, hbl, hpb⟩ := hT
  obtain ⟨s1, s2, s3⟩ := hs
  dsimp only [pgV] at len rl rc each hbl hpb s1 s2 s3 ⊢
  refine body (N := 73) Tryz.func20 rfl (hK _ _ _ rfl) rfl rfl ?_
  by_cases h1 : (2 ≤ people ∧ people ≤ 6) ∧ (1 ≤ (nl : Int) ∧ (nl : Int) ≤ 6) ∧ c.length ≤ 10
  · (repeat' (first | apply zam | apply zac | (apply O_at; rfl) | (apply zaj; rfl) | apply zak | (apply zaK; rfl) | apply zaq | apply zax | ((first | apply zaf | apply zad | apply zbl | apply zaN | apply zcI); rfl; rfl; rfl; rfl) | ((first | apply P_fa | apply M_fa); rfl; rfl; rfl; rfl; exact zaw rfl; (first | exact Nat.zero_add _ | exact Nat.add_zero _ | rfl)) | (apply zbe; rfl; rfl; rfl; rfl; rfl; rfl; exact zas rfl) | ((first | apply zaR | apply zbU); rfl; rfl; rfl; rfl; rfl; rfl) | (apply P_gtrF; rfl; rfl; rfl; rfl; rfl; omega) | (apply zah; rfl; rfl; rfl; rfl; exact zar rfl; (focus repeat' first | exact zaa | assumption | apply zab | (apply Ext.get; assumption)); (first | exact zae (by omega) | rfl | assumption)) | (apply zaM; rfl; rfl; rfl; rfl; exact zai rfl; rfl; rfl) | ((first | (apply zal; rfl; rfl; rfl; rfl; rfl; rfl) | (apply zaO; rfl; rfl; rfl; rfl; rfl; rfl; rfl)); exact yes (zjb hK) h1.1; (rintro _ _ ⟨rfl, _⟩)) | ((first | (apply zal; rfl; rfl; rfl; rfl; rfl; rfl) | (apply zaO; rfl; rfl; rfl; rfl; rfl; rfl; rfl)); exact yes (zjb hK) h1.2.1; (rintro _ _ ⟨rfl, _⟩)) | fail))
    refine zbb (fun k : Nat => [(3, .int .i64 (k : Nat)), (1, .pointer (some ⟨h.n, 0, none⟩))])
      (fun k h' => k ≤ nl ∧ Ext (h.push (.cells [.int .i64 people, .slice pl nl kl, .slice p c.length kc] 25 true)) h' ∧ ∀ j, j < k → LineP ⟨people, pl, kl, nl, l, p, kc, c⟩ j) (fun k => nl - k) ?_ 0 ?_ ?_
    · intro k h' ⟨hk, hx, hj⟩ ih
      have hg3 := hx.get zaa
      by_cases hlt : k < nl
      · obtain ⟨b, e, own', rfl, hg⟩ := rl.at (by rw [zag]; omega)
        have hg' := hx.get (zab hg)
        (repeat' (first | apply zam | apply zac | (apply O_at; rfl) | (apply N_at; rfl) | (apply zaj; rfl) | apply zak | (apply za4; rfl) | (apply zaK; rfl) | (apply zbf; exact zay (by decide +kernel)) | apply zaq | apply zax | apply zaA | (apply zbH; rfl; refine .inr ?_; (focus repeat' first | exact trivial | exact Keeps.nil _ _ | apply And.intro | rfl | (apply Keeps.cons; iterate 2 (focus repeat' first | exact zaa | assumption | apply zab | (apply Ext.get; assumption))))) | apply za5 | apply zdw | apply zca | apply zaB | apply zau | ((first | apply zaf | apply zad | apply zbl | apply zaN | apply zcI); rfl; rfl; rfl; rfl) | ((first | apply P_fa | apply M_fa); rfl; rfl; rfl; rfl; exact zaw rfl; (first | exact Nat.zero_add _ | exact Nat.add_zero _ | rfl)) | (apply zbe; rfl; rfl; rfl; rfl; rfl; rfl; exact zas rfl) | ((first | apply zaR | apply zbU); rfl; rfl; rfl; rfl; rfl; rfl) | (apply zbo; rfl; rfl; rfl; rfl; rfl; omega) | (apply zbN; rfl; rfl; rfl; rfl; rfl; (unfold fit; omega)) | (apply zah; rfl; rfl; rfl; rfl; exact zar rfl; (focus repeat' first | exact zaa | assumption | apply zab | (apply Ext.get; assumption)); (first | exact zae (by omega) | rfl | assumption)) | (apply zcA; rfl; rfl; rfl; rfl) | (apply zcp; rfl; rfl; rfl; rfl) | (apply M_idxB; rfl; rfl; rfl; rfl; rfl; exact zas rfl; exact zai rfl; (first | assumption | rfl | exact (Int.toNat_of_nonneg (by omega)).symm); omega) | ((first | ((apply zbx; rfl; rfl; rfl; rfl; exact zar rfl); (focus repeat' first | exact zaa | assumption | apply zab | (apply Ext.get; assumption)); (first | exact zae (by omega) | rfl | assumption)) | ((apply zbO; rfl; rfl; rfl; rfl; exact zaT rfl); (focus repeat' first | exact zaa | assumption | apply zab | (apply Ext.get; assumption)); (first | exact Nat.le_of_ble_eq_true rfl | (rw [zat]; omega) | (simp; done) | (simp; omega) | (rw [zag]; omega)); (first | exact zav (by omega) | rfl))); (first | assumption | exact zaI _ _ | exact zbu _ _ _ | exact zdW _ _ _ _ | exact zbL _ _ _ _ _ _ _ | rfl | (focus simp [same, same.all2]; done)); (first | rfl | assumption | exact hwv _ | (focus apply zbt; (focus repeat' first | exact zaa | assumption | apply zab | (apply Ext.get; assumption)); done) | exact zbZ (by assumption) (by (focus repeat' first | exact Ext.refl _ | assumption | apply Ext.push | (refine Ext.trans ?_ (by assumption)))) | exact za7 (by assumption) (by assumption) (by (focus repeat' first | exact Ext.refl _ | assumption | apply Ext.push | (refine Ext.trans ?_ (by assumption)))) | (simp [within]; omega))) | ((first | (apply zal; rfl; rfl; rfl; rfl; rfl; rfl) | (apply zaO; rfl; rfl; rfl; rfl; rfl; rfl; rfl)); exact zd7 (G := ⟨people, some ⟨b, 0, none⟩, kl, nl, l, p, kc, c⟩) hK h1.1; (rintro _ _ (⟨rfl, _, _⟩ | ⟨rfl, _, _⟩))) | ((first | (apply zal; rfl; rfl; rfl; rfl; rfl; rfl) | (apply zaO; rfl; rfl; rfl; rfl; rfl; rfl; rfl)); exact zge hK; (rintro _ _ (⟨rfl, _, _⟩ | ⟨rfl, _, _⟩))) | fail))
        all_goals first
          | (refine zaH (ih (k + 1) _ (by omega) ⟨hlt, by (focus repeat' first | exact Ext.refl _ | assumption | apply Ext.push | (refine Ext.trans ?_ (by assumption))), fun j hj' => ?_⟩) (by (focus repeat' first | rfl | exact trivial | apply And.intro)); by_cases hjk : j = k <;> first | (subst hjk; exact ⟨by assumption, by assumption, by assumption⟩) | exact hj j (by omega))
          | exact ⟨.inr rfl, _, rfl, .inr ⟨rfl, fun q => by have := q.line k hlt; exact absurd this.1 (by assumption), by (focus repeat' first | exact Ext.refl _ | assumption | apply Ext.push | (refine Ext.trans ?_ (by assumption)))⟩⟩
          | exact ⟨.inr rfl, _, rfl, .inr ⟨rfl, fun q => by have := q.line k hlt; exact absurd this.2.1 (by assumption), by (focus repeat' first | exact Ext.refl _ | assumption | apply Ext.push | (refine Ext.trans ?_ (by assumption)))⟩⟩
          | exact ⟨.inr rfl, _, rfl, .inr ⟨rfl, fun q => by have := q.line k hlt; exact absurd this.2.2 (by assumption), by (focus repeat' first | exact Ext.refl _ | assumption | apply Ext.push | (refine Ext.trans ?_ (by assumption)))⟩⟩
      · (repeat' (first | apply zam | apply zac | (apply O_at; rfl) | (apply zaj; rfl) | apply zak | (apply zaK; rfl) | apply zaq | apply zbj | apply zbk | apply zaZ | apply za0 | ((first | apply zaf | apply zad | apply zbl | apply zaN | apply zcI); rfl; rfl; rfl; rfl) | ((first | apply P_fa | apply M_fa); rfl; rfl; rfl; rfl; exact zaw rfl; (first | exact Nat.zero_add _ | exact Nat.add_zero _ | rfl)) | (apply zbe; rfl; rfl; rfl; rfl; rfl; rfl; exact zas rfl) | (apply zbr; rfl; rfl; rfl; rfl; rfl; omega) | (apply zah; rfl; rfl; rfl; rfl; exact zar rfl; (focus repeat' first | exact zaa | assumption | apply zab | (apply Ext.get; assumption)); (first | exact zae (by omega) | rfl | assumption)) | fail))
        refine zbb (fun k : Nat => [(4, .int .i64 (k : Nat)), (1, .pointer (some ⟨h.n, 0, none⟩))])
          (fun k h' => k ≤ c.length ∧ Ext (h.push (.cells [.int .i64 people, .slice pl nl kl, .slice p c.length kc] 25 true)) h' ∧ ∀ j, j < k → EntP people nl (ent (c.getD j cop0))) (fun k => c.length - k) ?_ 0 ?_ ?_
        · intro k h2 ⟨hk2, hx2, hj2⟩ ih2
          have hg2 := hx2.get zaa
          by_cases hlt2 : k < c.length
          · obtain ⟨b, e, own', rfl, hg⟩ := rc.at (by rw [zat]; omega)
            have hg' := hx2.get (zab hg)
            have eR := each k hlt2
            have eb := eR.b
            have eL := s3 k hlt2
            (repeat' (first | apply zam | apply zac | (apply O_at; rfl) | (apply N_at; rfl) | (apply zaj; rfl) | apply zak | (apply za4; rfl) | (apply zaK; rfl) | (apply zbf; exact zay (by decide +kernel)) | apply zaq | apply zax | apply zaA | (apply zbH; rfl; refine .inr ?_; (focus repeat' first | exact trivial | exact Keeps.nil _ _ | apply And.intro | rfl | (apply Keeps.cons; iterate 2 (focus repeat' first | exact zaa | assumption | apply zab | (apply Ext.get; assumption))))) | apply za5 | apply zdw | apply zca | apply zaB | apply zau | ((first | apply zaf | apply zad | apply zbl | apply zaN | apply zcI); rfl; rfl; rfl; rfl) | ((first | apply P_fa | apply M_fa); rfl; rfl; rfl; rfl; exact zaw rfl; (first | exact Nat.zero_add _ | exact Nat.add_zero _ | rfl)) | (apply zbe; rfl; rfl; rfl; rfl; rfl; rfl; exact zas rfl) | (apply zbo; rfl; rfl; rfl; rfl; rfl; omega) | (apply zbN; rfl; rfl; rfl; rfl; rfl; (unfold fit; omega)) | (apply zah; rfl; rfl; rfl; rfl; exact zar rfl; (focus repeat' first | exact zaa | assumption | apply zab | (apply Ext.get; assumption)); (first | exact zae (by omega) | rfl | assumption)) | (apply M_idxB; rfl; rfl; rfl; rfl; rfl; exact zas rfl; exact zai rfl; (first | assumption | rfl | exact (Int.toNat_of_nonneg (by omega)).symm); omega) | ((first | ((first | (apply zbs; rfl; rfl; rfl; rfl; exact zar rfl; exact zaQ (by decide +kernel)) | (apply zbx; rfl; rfl; rfl; rfl; exact zar rfl)); (focus repeat' first | exact zaa | assumption | apply zab | (apply Ext.get; assumption)); (first | exact zae (by omega) | rfl | assumption)) | ((first | (apply zdN; rfl; rfl; rfl; rfl; exact zaT rfl; exact zaQ (by decide +kernel)) | (apply zbO; rfl; rfl; rfl; rfl; exact zaT rfl)); (focus repeat' first | exact zaa | assumption | apply zab | (apply Ext.get; assumption)); (first | exact Nat.le_of_ble_eq_true rfl | (rw [zat]; omega) | (simp; done) | (simp; omega) | (rw [zag]; omega)); (first | exact zav (by omega) | rfl))); (first | assumption | exact zaI _ _ | exact zbu _ _ _ | exact zdW _ _ _ _ | exact zbL _ _ _ _ _ _ _ | rfl | (focus simp [same, same.all2]; done)); (first | rfl | assumption | exact hwv _ | (focus apply zbt; (focus repeat' first | exact zaa | assumption | apply zab | (apply Ext.get; assumption)); done) | exact zbZ (by assumption) (by (focus repeat' first | exact Ext.refl _ | assumption | apply Ext.push | (refine Ext.trans ?_ (by assumption)))) | exact za7 (by assumption) (by assumption) (by (focus repeat' first | exact Ext.refl _ | assumption | apply Ext.push | (refine Ext.trans ?_ (by assumption)))) | (simp [within]; omega))) | ((first | (apply zal; rfl; rfl; rfl; rfl; rfl; rfl) | (apply zaO; rfl; rfl; rfl; rfl; rfl; rfl; rfl)); exact zg7 (G := ⟨people, pl, kl, nl, l, some ⟨b, 0, none⟩, kc, c⟩) (c := c.getD k cop0) hK h1.1 (by dsimp only; omega) (hT'.ext (by (focus repeat' first | exact Ext.refl _ | assumption | apply Ext.push | (refine Ext.trans ?_ (by assumption))))).bl (hT'.ext (by (focus repeat' first | exact Ext.refl _ | assumption | apply Ext.push | (refine Ext.trans ?_ (by assumption))))).bg (eR.ext (by (focus repeat' first | exact Ext.refl _ | assumption | apply Ext.push | (refine Ext.trans ?_ (by assumption))))) (by omega); (rintro _ _ (⟨rfl, _, _⟩ | ⟨rfl, _, _⟩))) | fail))
            · refine zaH (ih2 (k + 1) _ (by omega) ⟨hlt2, by (focus repeat' first | exact Ext.refl _ | assumption | apply Ext.push | (refine Ext.trans ?_ (by assumption))), fun j hj' => ?_⟩) (by (focus repeat' first | rfl | exact trivial | apply And.intro))
              by_cases hjk : j = k
              · subst hjk; assumption
              · exact hj2 j (by omega)
            · exact ⟨.inr rfl, _, rfl, .inr ⟨rfl, fun q => absurd (q.ent k hlt2) (by assumption), by (focus repeat' first | exact Ext.refl _ | assumption | apply Ext.push | (refine Ext.trans ?_ (by assumption)))⟩⟩
          · (repeat' (first | apply zam | apply zac | (apply O_at; rfl) | (apply zaj; rfl) | apply zak | (apply zaK; rfl) | apply zbj | apply zaA | apply zbk | apply zaZ | apply za0 | apply zau | ((first | apply zaf | apply zad | apply zbl | apply zaN | apply zcI); rfl; rfl; rfl; rfl) | ((first | apply P_fa | apply M_fa); rfl; rfl; rfl; rfl; exact zaw rfl; (first | exact Nat.zero_add _ | exact Nat.add_zero _ | rfl)) | (apply zbe; rfl; rfl; rfl; rfl; rfl; rfl; exact zas rfl) | (apply zbr; rfl; rfl; rfl; rfl; rfl; omega) | (apply zah; rfl; rfl; rfl; rfl; exact zar rfl; (focus repeat' first | exact zaa | assumption | apply zab | (apply Ext.get; assumption)); (first | exact zae (by omega) | rfl | assumption)) | fail))
            exact ⟨.inr rfl, _, rfl, .inl ⟨rfl, ⟨h1.1, h1.2.1, h1.2.2, fun j q => hj j (by dsimp only at q; omega), fun j q => hj2 j (by dsimp only at q; omega)⟩, by (focus repeat' first | exact Ext.refl _ | assumption | apply Ext.push | (refine Ext.trans ?_ (by assumption)))⟩⟩
        · exact ⟨Nat.zero_le _, by (focus repeat' first | exact Ext.refl _ | assumption | apply Ext.push | (refine Ext.trans ?_ (by assumption))), fun j q => by omega⟩
        · (focus repeat' first | rfl | exact trivial | apply And.intro)
    · exact ⟨Nat.zero_le _, by (focus repeat' first | exact Ext.refl _ | assumption | apply Ext.push | (refine Ext.trans ?_ (by assumption))), fun j hj => by omega⟩
    · (focus repeat' first | rfl | exact trivial | apply And.intro)
  · have hz : ¬ PgP ⟨people, pl, kl, nl, l, p, kc, c⟩ := fun q => h1 ⟨q.people, q.n, q.c⟩
    (repeat' (first | apply zam | apply zac | (apply O_at; rfl) | (apply zaj; rfl) | apply zak | (apply za4; rfl) | (apply zaK; rfl) | apply zaq | apply zax | apply zaA | apply za5 | apply zau | (apply zbn; rfl; rfl; rfl) | ((first | apply zaf | apply zad | apply zbl | apply zaN | apply zcI); rfl; rfl; rfl; rfl) | ((first | apply P_fa | apply M_fa); rfl; rfl; rfl; rfl; exact zaw rfl; (first | exact Nat.zero_add _ | exact Nat.add_zero _ | rfl)) | (apply zbe; rfl; rfl; rfl; rfl; rfl; rfl; exact zas rfl) | ((first | apply zaR | apply zbU); rfl; rfl; rfl; rfl; rfl; rfl) | (apply P_gtr; rfl; rfl; rfl; rfl; rfl; all_goals intro _) | (apply zah; rfl; rfl; rfl; rfl; exact zar rfl; (focus repeat' first | exact zaa | assumption | apply zab | (apply Ext.get; assumption)); (first | exact zae (by omega) | rfl | assumption)) | (apply zaM; rfl; rfl; rfl; rfl; exact zai rfl; rfl; rfl) | ((first | (apply zal; rfl; rfl; rfl; rfl; rfl; rfl) | (apply zaO; rfl; rfl; rfl; rfl; rfl; rfl; rfl)); exact zjb hK; (rintro _ _ (⟨rfl, _, _⟩ | ⟨rfl, _, _⟩))) | fail))
    all_goals first
      | exact ⟨.inr rfl, _, rfl, .inr ⟨rfl, hz, by (focus repeat' first | exact Ext.refl _ | assumption | apply Ext.push | (refine Ext.trans ?_ (by assumption)))⟩⟩
      | (exfalso; omega)
end Go.AX.Sa
