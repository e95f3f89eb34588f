/- The law ProofTwo at the reading: what the functions that it calls answer (3). -/
import Derived.Test.YtmobfcpigadakaaGreatDoorProofTwoTextB
import Derived.Test.YtmobfcpigadakaaGreatDoorProofTwoTextA
namespace Go.AX.Sa
open Go.Proofs
set_option maxRecDepth 100000
variable {K : Known}
def HeardTo (G : Pg) (j q : Int) (i : Nat) : Prop := ∃ i', i' < i ∧ (reads (ent (G.c.getD i' cop0)) j ∧ inPair (ent (G.c.getD i' cop0)) q) ∧ ¬ ∃ k, i' ≤ k ∧ k < G.c.length ∧ changes (ent (G.c.getD k cop0)) j
end Go.AX.Sa

namespace Go.AX.Sa
open Go.Proofs
set_option maxRecDepth 100000
variable {K : Known}
end Go.AX.Sa

namespace Go.AX.Sa
open Go.Proofs
set_option maxRecDepth 100000
variable {K : Known}
abbrev TrueB : Value → Heap → Prop := fun v _ => v = .bool true
end Go.AX.Sa

namespace Go.AX.Sa
open Go.Proofs
set_option maxRecDepth 100000
variable {K : Known}
theorem zkj (G : Pg) (L : List Ent) : (shortL G L).length = G.n := by simp [shortL]
theorem lin_nat {n : Nat} {q : Int} (h : LinP n q) : ∃ j : Nat, q = (j : Nat) ∧ j < n := by
  unfold LinP at h
  exact ⟨q.toNat, by omega, by omega⟩
end Go.AX.Sa

namespace Go.AX.Sa
open Go.Proofs
set_option maxRecDepth 100000
variable {K : Known}
end Go.AX.Sa

namespace Go.AX.Sa
open Go.Proofs
set_option maxRecDepth 100000
variable {K : Known}
/-! A page with an entry more. -/
theorem bs_e1 (h : Heap) (a : Int) (p : Option Addr) (n k : Nat) : buildSliceB Tryz.prog h 23 1 [(0, .agg #[.int .i64 a, .slice p n k])] = some (.slice (some ⟨h.n, 0, none⟩) 1 1, h.push (.cells [.int .i64 a, .slice p n k] 37 true)) := by kernel_rfl
theorem ziF : ∀ l : List Cop, (copCells l).all oneB = true
  | [] => rfl
  | c :: l => by
    show (true && (true && (copCells l).all oneB)) = true
    rw [ziF l]; rfl
theorem cops_app (l m : List Cop) : copCells (l ++ m) = copCells l ++ copCells m := by
  induction l with
  | nil => rfl
  | cons c l ih => simp only [List.cons_append, copCells, ih]
theorem rdK_cops {h : Heap} {p : Option Addr} {l : List Cop} (r : Rd h p (copCells l)) (hs : ∀ a, p = some a → a.spot = none) : RdK h 2 p (copCells l) l.length := by
  refine ⟨by rw [zaV]; omega, ?_, hs⟩
  rcases r with r | ⟨b, e, own, rfl, r⟩
  · left
    have := congrArg List.length r
    rw [zaV] at this
    simp only [List.length_nil] at this
    omega
  · exact .inr ⟨b, e, own, rfl, r⟩
theorem zek {l : List Cop} {x : Cop} {j : Nat} (h : j < l.length) : (l ++ [x]).getD j cop0 = l.getD j cop0 := by simp only [List.getD_eq_getElem?_getD, List.getElem?_append_left h]
theorem zel {l : List Cop} {x : Cop} : (l ++ [x]).getD l.length cop0 = x := by simp [List.getD_eq_getElem?_getD]
def SpotN (G : Pg) : Prop := ∀ a, G.pg = some a → a.spot = none
def withG (G : Pg) (b k : Nat) (x : Cop) : Pg := { G with pg := some ⟨b, 0, none⟩, kg := k, c := G.c ++ [x] }
theorem with_ok (hK : NoK K) {G : Pg} {x : Cop} {h : Heap} (hT : PgAt G h) (hx : RowIn x.r h) (hl : G.c.length ≤ 1000) (hsp : SpotN G) :
    CallW Tryz.prog K 26 #[pgV G, enV x] h (fun v h1 => ∃ b k, v = pgV (withG G b k x) ∧ PgAt (withG G b k x) h1 ∧ Ext h h1) := by
  have hT' := hT
  obtain ⟨people, pl, kl, n, l, p, kc, c⟩ := G
  obtain ⟨len, rl, rc, each, hbl, hpb⟩ := hT
  have hxb := hx.b
  obtain ⟨par, q, k, t⟩ := x
  dsimp only [pgV, enV, SpotN] at len rl rc each hbl hpb hl hx hsp hxb ⊢
  refine body (N := 13) Tryz.func26 rfl (hK _ _ _ rfl) rfl rfl ?_
  (repeat' (first | apply zan | apply zac | (apply O_at; rfl) | (apply N_at; rfl) | (apply zag; rfl) | apply zah | (apply zbh; exact zaz (by decide +kernel)) | (apply zaI; rfl; rfl; rfl; rfl; exact zak rfl; rfl; rfl) | (apply zbi; rfl; rfl; rfl; rfl; exact zak rfl; rfl; rfl) | (apply M_fa; rfl; rfl; rfl; rfl; exact zaw rfl; (first | exact Nat.zero_add _ | exact Nat.add_zero _ | rfl)) | ((first | ((apply zbp; rfl; rfl; rfl; rfl; exact zas rfl; exact zaK (by decide +kernel)); (focus repeat' first | exact zaa | assumption | apply zab | (apply Ext.get; assumption) | (apply ExtBut.get; assumption; (first | assumption | omega | (simp only [Heap.push]; omega)))); (first | rfl | assumption)) | ((apply ziR; rfl; rfl; rfl; rfl; exact zaO rfl; exact zfh (by decide +kernel)); (focus repeat' first | exact zaa | assumption | apply zab | (apply Ext.get; assumption) | (apply ExtBut.get; assumption; (first | assumption | omega | (simp only [Heap.push]; omega)))); (first | exact Nat.le_of_ble_eq_true rfl | (simp; done) | (simp; omega)); rfl)); (first | assumption | exact zbs _ _ _ | exact zcE _ _ _ _ | rfl | (focus simp [same, same.all2]; done)); (first | rfl | assumption | exact hwv _ | exact zbr (by assumption) (by (focus repeat' first | exact Ext.refl _ | assumption | apply Ext.push | (refine Ext.trans ?_ (by assumption)) | (refine Ext.set ?_ (Nat.le_succ _) (zab zaa) _) | (refine Ext.ofBut ?_ (by assumption) (by first | exact Nat.le_refl _ | omega)))) | exact zeW (by assumption) (by (focus repeat' first | exact Ext.refl _ | assumption | apply Ext.push | (refine Ext.trans ?_ (by assumption)) | (refine Ext.set ?_ (Nat.le_succ _) (zab zaa) _) | (refine Ext.ofBut ?_ (by assumption) (by first | exact Nat.le_refl _ | omega)))) | (simp [within]; omega))) | fail))
  refine M_appC rfl rfl rfl rfl rfl rfl rfl rfl (ck2_ok rfl) (zau rfl) (h0 := ((h.push (.cells [.int .i64 people, .slice pl n kl, .slice p c.length kc] 25 true)).push (.cells [.int .i64 par, .slice q t.length k] 37 true)).push (.cells [.int .i64 0, .slice none 0 0, .slice none 0 0] 25 true)) (rdK_cops (rc.ext (by (focus repeat' first | exact Ext.refl _ | assumption | apply Ext.push | (refine Ext.trans ?_ (by assumption)) | (refine Ext.set ?_ (Nat.le_succ _) (zab zaa) _) | (refine Ext.ofBut ?_ (by assumption) (by first | exact Nat.le_refl _ | omega))))) hsp) (.inl ⟨rfl, rfl, rfl⟩) (Nat.le_refl _) (by omega) (ziF c) rfl ?_
  intro v1 h1 o1 _ z1 z2
  have x1 := z2 rfl
  clear z1 z2
  rw [List.nil_append, Nat.zero_add] at o1
  (repeat' (first | (apply N_at; rfl) | ((first | ((apply zbp; rfl; rfl; rfl; rfl; exact zas rfl; exact zaK (by decide +kernel)); (focus repeat' first | exact zaa | assumption | apply zab | (apply Ext.get; assumption) | (apply ExtBut.get; assumption; (first | assumption | omega | (simp only [Heap.push]; omega)))); (first | rfl | assumption)) | ((apply ziR; rfl; rfl; rfl; rfl; exact zaO rfl; exact zfh (by decide +kernel)); (focus repeat' first | exact zaa | assumption | apply zab | (apply Ext.get; assumption) | (apply ExtBut.get; assumption; (first | assumption | omega | (simp only [Heap.push]; omega)))); (first | exact Nat.le_of_ble_eq_true rfl | (simp; done) | (simp; omega)); rfl)); (first | assumption | exact zbs _ _ _ | exact zcE _ _ _ _ | rfl | (focus simp [same, same.all2]; done)); (first | rfl | assumption | exact hwv _ | exact zbr (by assumption) (by (focus repeat' first | exact Ext.refl _ | assumption | apply Ext.push | (refine Ext.trans ?_ (by assumption)) | (refine Ext.set ?_ (Nat.le_succ _) (zab zaa) _) | (refine Ext.ofBut ?_ (by assumption) (by first | exact Nat.le_refl _ | omega)))) | exact zeW (by assumption) (by (focus repeat' first | exact Ext.refl _ | assumption | apply Ext.push | (refine Ext.trans ?_ (by assumption)) | (refine Ext.set ?_ (Nat.le_succ _) (zab zaa) _) | (refine Ext.ofBut ?_ (by assumption) (by first | exact Nat.le_refl _ | omega)))) | (simp [within]; omega))) | fail))
  refine M_bs (vs := [(0, .agg #[.int .i64 par, .slice q t.length k])]) rfl rfl rfl rfl (bs_e1 _ _ _ _ _) ?_
  (repeat' (first | (apply N_at; rfl) | fail))
  refine M_appC rfl rfl rfl rfl rfl rfl rfl rfl (ck2_ok rfl) (zau rfl) (s := 2) (m := 1) (h0 := ((h.push (.cells [.int .i64 people, .slice pl n kl, .slice p c.length kc] 25 true)).push (.cells [.int .i64 par, .slice q t.length k] 37 true)).push (.cells [.int .i64 0, .slice none 0 0, .slice none 0 0] 25 true)) (c := [.int .i64 par, .slice q t.length k]) ⟨rfl, .inr ⟨_, _, _, rfl, zaa⟩, fun a q => by cases q; rfl⟩ (o1.ext (by (focus repeat' first | exact Ext.refl _ | assumption | apply Ext.push | (refine Ext.trans ?_ (by assumption)) | (refine Ext.set ?_ (Nat.le_succ _) (zab zaa) _) | (refine Ext.ofBut ?_ (by assumption) (by first | exact Nat.le_refl _ | omega))))) ((x1.push _).n) (by omega) rfl rfl ?_
  intro v2 h2 o2 k2 z1 z2
  have x2 := z1 (x1.push _)
  clear z1 z2
  obtain ⟨b, rfl, g2, hb2⟩ : ∃ b, v2 = .slice (some ⟨b, 0, none⟩) (c.length + 1) unk ∧ h2.get? b = some (.cells (copCells c ++ [.int .i64 par, .slice q t.length k]) 37 true) ∧ h.n + 3 ≤ b := by
    rcases o2 with ⟨z, _⟩ | ⟨_, _, b, z1, z2, z3⟩
    · omega
    · exact ⟨b, z1, z2, z3⟩
  (repeat' (first | (apply N_at; rfl) | (apply M_fa; rfl; rfl; rfl; rfl; exact zaw rfl; (first | exact Nat.zero_add _ | exact Nat.add_zero _ | rfl)) | fail))
  refine zlR rfl rfl rfl rfl (x2.get (zab (zab zaa))) (zak rfl) rfl (Nat.le_of_ble_eq_true rfl) rfl rfl ?_
  (repeat' (first | apply zan | apply zac | (apply O_at; rfl) | apply zah | (apply zbN; rfl; refine .inr ?_; (focus repeat' first | exact trivial | exact Keeps.nil _ _ | apply And.intro | rfl | (apply Keeps.cons; iterate 2 (focus repeat' first | exact zaa | assumption | apply zab | (apply Ext.get; assumption) | (apply ExtBut.get; assumption; (first | assumption | omega | (simp only [Heap.push]; omega))))))) | fail))
  have g5 := x2.get (zab (zab zaa))
  have g6 := x2.get zaa
  generalize he : h2.set h.n _ = h3
  have f1 : h3.get? h.n = some (.cells [.int .i64 people, .slice pl n kl, .slice (some ⟨b, 0, none⟩) (c.length + 1) unk] 25 true) := by rw [← he]; exact zaE g5
  have f2 := zaA (c := .cells [.int .i64 people, .slice pl n kl, .slice (some ⟨b, 0, none⟩) (c.length + 1) unk] 25 true) g5 (fun u => by simp only [Heap.push] at u; omega) g6
  have f3 := zaA (c := .cells [.int .i64 people, .slice pl n kl, .slice (some ⟨b, 0, none⟩) (c.length + 1) unk] 25 true) g5 (fun u => by omega) g2
  have x3 : Ext h h3 := by rw [← he]; exact Ext.set (by (focus repeat' first | exact Ext.refl _ | assumption | apply Ext.push | (refine Ext.trans ?_ (by assumption)) | (refine Ext.set ?_ (Nat.le_succ _) (zab zaa) _) | (refine Ext.ofBut ?_ (by assumption) (by first | exact Nat.le_refl _ | omega)))) (Nat.le_refl _) g5 _
  have he' : h2.set h.n (.cells [.int .i64 people, .slice pl n kl, .slice (some ⟨b, 0, none⟩) (c.length + 1) unk] 25 true) = h3 := he
  rw [he'] at f2 f3
  clear he he' g5 g6 k2
  (repeat' (first | (apply O_at; rfl) | (apply zag; rfl) | apply zah | apply zay | apply zar | (apply zaD; rfl; rfl; rfl; rfl; exact zaO rfl; (focus repeat' first | exact zaa | assumption | apply zab | (apply Ext.get; assumption) | (apply ExtBut.get; assumption; (first | assumption | omega | (simp only [Heap.push]; omega)))); (first | exact Nat.le_of_ble_eq_true rfl | (simp; done) | (simp; omega)); rfl) | (apply zfT; rfl; rfl; rfl; rfl; (focus repeat' first | exact zaa | assumption | apply zab | (apply Ext.get; assumption) | (apply ExtBut.get; assumption; (first | assumption | omega | (simp only [Heap.push]; omega)))); exact zak rfl; rfl; (first | rfl | exact zaj _); rfl; (intro _ _ _)) | fail))
  rename_i h4 g4 k4
  have hlen : (c ++ [(⟨par, ⟨q, k, t⟩⟩ : Cop)]).length = c.length + 1 := by simp
  have g2' := k4.get (by simp only [Heap.push]; omega) f3
  have x4 : Ext h h4 := Ext.ofBut x3 k4 (by simp only [Heap.push]; omega)
  refine ⟨.inr rfl, _, ze1 rfl (v := .agg #[.int .i64 people, .slice pl n kl, .slice (some ⟨b, 0, none⟩) (c.length + 1) unk]) ?_ rfl, b, unk, ?_, ⟨len, rl.ext x4, ?_, ?_, fun a e => Nat.lt_of_lt_of_le (hbl a e) x4.n, fun a e => by cases e; exact Heap.get_lt g2'⟩, x4⟩
  · have ht := zaO (t := 25) (n := 3) rfl
    simp only [readB, g4, partB, zcx ht, zb1 ht]
    rfl
  · simp only [withG, hlen]
    rfl
  · refine .inr ⟨b, 37, true, rfl, ?_⟩
    simp only [withG, cops_app]
    exact g2'
  · intro j hj
    simp only [withG] at hj ⊢
    rw [hlen] at hj
    by_cases hjc : j < c.length
    · rw [zek hjc]
      exact (each j hjc).ext x4
    · obtain rfl : j = c.length := by omega
      rw [zel]
      exact hx.ext x4
theorem zin (G : Pg) (b k : Nat) (x : Cop) : logL (withG G b k x) = logL G ++ [ent x] := by simp [logL, withG]
theorem pgP_with {G : Pg} {b k : Nat} {x : Cop} (hP : PgP G) (hx : EntP G.people G.n (ent x)) (hc : G.c.length < 10) : PgP (withG G b k x) := by
  refine ⟨hP.people, hP.n, by simp [withG]; omega, hP.line, fun j hj => ?_⟩
  simp only [withG, List.length_append, List.length_singleton] at hj ⊢
  by_cases hjc : j < G.c.length
  · rw [zek hjc]
    exact hP.ent j hjc
  · obtain rfl : j = G.c.length := by omega
    rw [zel]
    exact hx
theorem zjc {G : Pg} {b k : Nat} {x : Cop} (hs : ShortP G) (_hP : PgP G) (hx : x.r.s.length ≤ 6) (hc : G.c.length < 10) : ShortP (withG G b k x) := by
  refine ⟨hs.1, by simp [withG]; omega, fun j hj => ?_⟩
  simp only [withG, List.length_append, List.length_singleton] at hj ⊢
  by_cases hjc : j < G.c.length
  · rw [zek hjc]
    exact hs.2.2 j hjc
  · obtain rfl : j = G.c.length := by omega
    rw [zel]
    exact hx
/-- A page that has room for an entry. -/
def RoomP (G : Pg) (x : Cop) : Prop := ShortP G ∧ PgP G ∧ x.r.s.length ≤ 6 ∧ G.c.length < 10 ∧ EntP G.people G.n (ent x)
theorem right_ok (hK : NoK K) {G : Pg} {h : Heap} (hT : PgAt G h) : CallW Tryz.prog K 42 #[pgV G] h (IfB (ShortP G ∧ PgP G) h) := by
  refine body (N := 9) Tryz.func42 rfl (hK _ _ _ rfl) rfl rfl ?_
  by_cases hs : ShortP G
  · (repeat' (first | apply zan | apply zac | (apply O_at; rfl) | (apply zag; rfl) | apply zah | apply zay | apply zar | ((first | apply zae | apply zad); rfl; rfl; rfl; rfl) | (apply za2; rfl; rfl; rfl; rfl; rfl; rfl) | (apply zaD; rfl; rfl; rfl; rfl; exact zaO rfl; (focus repeat' first | exact zaa | assumption | (apply Ext.get; assumption)); (first | exact Nat.le_of_ble_eq_true rfl | (simp; done) | (simp; omega)); rfl) | (apply zaI; rfl; rfl; rfl; rfl; exact zak rfl; rfl; rfl) | (apply zaf; rfl; rfl; rfl; rfl; rfl; rfl; exact yes (zid hK (hT.ext (by (focus repeat' first | exact Ext.refl _ | assumption | apply Ext.push | (refine Ext.trans ?_ (by assumption)))))) hs; (rintro _ _ ⟨rfl, _⟩)) | (apply zaf; rfl; rfl; rfl; rfl; rfl; rfl; exact zjo hK (hT.ext (by (focus repeat' first | exact Ext.refl _ | assumption | apply Ext.push | (refine Ext.trans ?_ (by assumption))))) hs; (rintro _ _ (⟨rfl, _, _⟩ | ⟨rfl, _, _⟩))) | fail))
    · rename_i w _
      exact ⟨.inr rfl, _, rfl, .inl ⟨rfl, ⟨hs, w⟩, by (focus repeat' first | exact Ext.refl _ | assumption | apply Ext.push | (refine Ext.trans ?_ (by assumption)))⟩⟩
    · rename_i w _
      exact ⟨.inr rfl, _, rfl, .inr ⟨rfl, fun q => w q.2, by (focus repeat' first | exact Ext.refl _ | assumption | apply Ext.push | (refine Ext.trans ?_ (by assumption)))⟩⟩
  · (repeat' (first | apply zan | apply zac | (apply O_at; rfl) | (apply zag; rfl) | apply zah | apply zay | apply zar | (apply zbj; rfl; rfl; rfl) | ((first | apply zae | apply zad); rfl; rfl; rfl; rfl) | (apply za2; rfl; rfl; rfl; rfl; rfl; rfl) | (apply zaD; rfl; rfl; rfl; rfl; exact zaO rfl; (focus repeat' first | exact zaa | assumption | (apply Ext.get; assumption)); (first | exact Nat.le_of_ble_eq_true rfl | (simp; done) | (simp; omega)); rfl) | (apply zaI; rfl; rfl; rfl; rfl; exact zak rfl; rfl; rfl) | (apply zaf; rfl; rfl; rfl; rfl; rfl; rfl; exact no (zid hK (hT.ext (by (focus repeat' first | exact Ext.refl _ | assumption | apply Ext.push | (refine Ext.trans ?_ (by assumption)))))) hs; (rintro _ _ ⟨rfl, _⟩)) | fail))
    exact ⟨.inr rfl, _, rfl, .inr ⟨rfl, fun q => hs q.1, by (focus repeat' first | exact Ext.refl _ | assumption | apply Ext.push | (refine Ext.trans ?_ (by assumption)))⟩⟩
theorem zfv (hK : NoK K) {G : Pg} {x : Cop} {h : Heap} (hT : PgAt G h) (hx : RowIn x.r h) : CallW Tryz.prog K 24 #[pgV G, enV x] h (IfB (RoomP G x) h) := by
  have hT' := hT
  have hx' := hx
  have hxb := hx.b
  obtain ⟨people, pl, kl, n, l, p, kc, c⟩ := G
  obtain ⟨par, q, k, t⟩ := x
  obtain ⟨len, rl, rc, each, hbl, hpb⟩ := hT
  dsimp only [pgV, enV] at len rl rc each hbl hpb hx hxb ⊢
  have ar : ∀ {h1 : Heap}, Ext h h1 → CallW Tryz.prog K 42 #[.agg #[.int .i64 people, .slice pl n kl, .slice p c.length kc]] h1 (IfB (ShortP ⟨people, pl, kl, n, l, p, kc, c⟩ ∧ PgP ⟨people, pl, kl, n, l, p, kc, c⟩) h1) := fun e => right_ok (G := ⟨people, pl, kl, n, l, p, kc, c⟩) hK (hT'.ext e)
  refine body (N := 24) Tryz.func24 rfl (hK _ _ _ rfl) rfl rfl ?_
  by_cases hr : ShortP ⟨people, pl, kl, n, l, p, kc, c⟩ ∧ PgP ⟨people, pl, kl, n, l, p, kc, c⟩
  · have hp := hr.2.people
    have hn := hr.2.n
    dsimp only at hp hn
    by_cases h1 : t.length ≤ 6
    · by_cases h2 : c.length < 10
      · (repeat' (first | apply zan | apply zac | (apply O_at; rfl) | (apply zag; rfl) | apply zah | apply zay | apply zar | ((first | apply zae | apply zad); rfl; rfl; rfl; rfl) | (apply P_fa; rfl; rfl; rfl; rfl; exact zaw rfl; (first | exact Nat.zero_add _ | exact Nat.add_zero _ | rfl)) | (apply zbe; rfl; rfl; rfl; rfl; rfl; rfl; exact zau rfl) | (apply za2; rfl; rfl; rfl; rfl; rfl; rfl) | (apply zbq; rfl; rfl; rfl; rfl; rfl; omega) | (apply zlL; rfl; rfl; rfl; rfl; rfl; omega) | (apply zam; rfl; rfl; rfl; rfl; exact zas rfl; (focus repeat' first | exact zaa | assumption | apply zab | (apply Ext.get; assumption)); (first | rfl | assumption)) | (apply zaD; rfl; rfl; rfl; rfl; exact zaO rfl; (focus repeat' first | exact zaa | assumption | apply zab | (apply Ext.get; assumption)); (first | exact Nat.le_of_ble_eq_true rfl | (simp; done) | (simp; omega)); rfl) | (apply zaI; rfl; rfl; rfl; rfl; exact zak rfl; rfl; rfl) | (apply zaf; rfl; rfl; rfl; rfl; rfl; rfl; exact yes (ar (by (focus repeat' first | exact Ext.refl _ | assumption | apply Ext.push | (refine Ext.trans ?_ (by assumption))))) hr; (rintro _ _ ⟨rfl, _⟩)) | (apply zaf; rfl; rfl; rfl; rfl; rfl; rfl; exact zd1 (G := ⟨people, pl, kl, n, l, p, kc, c⟩) (c := ⟨par, ⟨q, k, t⟩⟩) hK hp (by dsimp only; omega) (hT'.ext (by (focus repeat' first | exact Ext.refl _ | assumption | apply Ext.push | (refine Ext.trans ?_ (by assumption))))).bl (hT'.ext (by (focus repeat' first | exact Ext.refl _ | assumption | apply Ext.push | (refine Ext.trans ?_ (by assumption))))).bg (hx'.ext (by (focus repeat' first | exact Ext.refl _ | assumption | apply Ext.push | (refine Ext.trans ?_ (by assumption))))) (by dsimp only; omega); (rintro _ _ (⟨rfl, _, _⟩ | ⟨rfl, _, _⟩))) | fail))
        · rename_i w _
          exact ⟨.inr rfl, _, rfl, .inl ⟨rfl, ⟨hr.1, hr.2, h1, h2, w⟩, by (focus repeat' first | exact Ext.refl _ | assumption | apply Ext.push | (refine Ext.trans ?_ (by assumption)))⟩⟩
        · rename_i w _
          exact ⟨.inr rfl, _, rfl, .inr ⟨rfl, fun z => w z.2.2.2.2, by (focus repeat' first | exact Ext.refl _ | assumption | apply Ext.push | (refine Ext.trans ?_ (by assumption)))⟩⟩
      · (repeat' (first | apply zan | apply zac | (apply O_at; rfl) | (apply zag; rfl) | apply zah | apply zay | apply zar | (apply zbj; rfl; rfl; rfl) | ((first | apply zae | apply zad); rfl; rfl; rfl; rfl) | (apply P_fa; rfl; rfl; rfl; rfl; exact zaw rfl; (first | exact Nat.zero_add _ | exact Nat.add_zero _ | rfl)) | (apply zbe; rfl; rfl; rfl; rfl; rfl; rfl; exact zau rfl) | (apply za2; rfl; rfl; rfl; rfl; rfl; rfl) | (apply zbE; rfl; rfl; rfl; rfl; rfl; omega) | (apply zlL; rfl; rfl; rfl; rfl; rfl; omega) | (apply zam; rfl; rfl; rfl; rfl; exact zas rfl; (focus repeat' first | exact zaa | assumption | apply zab | (apply Ext.get; assumption)); (first | rfl | assumption)) | (apply zaD; rfl; rfl; rfl; rfl; exact zaO rfl; (focus repeat' first | exact zaa | assumption | apply zab | (apply Ext.get; assumption)); (first | exact Nat.le_of_ble_eq_true rfl | (simp; done) | (simp; omega)); rfl) | (apply zaI; rfl; rfl; rfl; rfl; exact zak rfl; rfl; rfl) | (apply zaf; rfl; rfl; rfl; rfl; rfl; rfl; exact yes (ar (by (focus repeat' first | exact Ext.refl _ | assumption | apply Ext.push | (refine Ext.trans ?_ (by assumption))))) hr; (rintro _ _ ⟨rfl, _⟩)) | fail))
        exact ⟨.inr rfl, _, rfl, .inr ⟨rfl, fun z => h2 z.2.2.2.1, by (focus repeat' first | exact Ext.refl _ | assumption | apply Ext.push | (refine Ext.trans ?_ (by assumption)))⟩⟩
    · (repeat' (first | apply zan | apply zac | (apply O_at; rfl) | (apply zag; rfl) | apply zah | apply zay | apply zar | (apply zbj; rfl; rfl; rfl) | ((first | apply zae | apply zad); rfl; rfl; rfl; rfl) | (apply P_fa; rfl; rfl; rfl; rfl; exact zaw rfl; (first | exact Nat.zero_add _ | exact Nat.add_zero _ | rfl)) | (apply zbe; rfl; rfl; rfl; rfl; rfl; rfl; exact zau rfl) | (apply za2; rfl; rfl; rfl; rfl; rfl; rfl) | (apply P_leqF; rfl; rfl; rfl; rfl; rfl; omega) | (apply zam; rfl; rfl; rfl; rfl; exact zas rfl; (focus repeat' first | exact zaa | assumption | apply zab | (apply Ext.get; assumption)); (first | rfl | assumption)) | (apply zaD; rfl; rfl; rfl; rfl; exact zaO rfl; (focus repeat' first | exact zaa | assumption | apply zab | (apply Ext.get; assumption)); (first | exact Nat.le_of_ble_eq_true rfl | (simp; done) | (simp; omega)); rfl) | (apply zaI; rfl; rfl; rfl; rfl; exact zak rfl; rfl; rfl) | (apply zaf; rfl; rfl; rfl; rfl; rfl; rfl; exact yes (ar (by (focus repeat' first | exact Ext.refl _ | assumption | apply Ext.push | (refine Ext.trans ?_ (by assumption))))) hr; (rintro _ _ ⟨rfl, _⟩)) | fail))
      exact ⟨.inr rfl, _, rfl, .inr ⟨rfl, fun z => h1 z.2.2.1, by (focus repeat' first | exact Ext.refl _ | assumption | apply Ext.push | (refine Ext.trans ?_ (by assumption)))⟩⟩
  · (repeat' (first | apply zan | apply zac | (apply O_at; rfl) | (apply zag; rfl) | apply zah | apply zay | apply zar | (apply zbj; rfl; rfl; rfl) | ((first | apply zae | apply zad); rfl; rfl; rfl; rfl) | (apply za2; rfl; rfl; rfl; rfl; rfl; rfl) | (apply zaD; rfl; rfl; rfl; rfl; exact zaO rfl; (focus repeat' first | exact zaa | assumption | apply zab | (apply Ext.get; assumption)); (first | exact Nat.le_of_ble_eq_true rfl | (simp; done) | (simp; omega)); rfl) | (apply zaI; rfl; rfl; rfl; rfl; exact zak rfl; rfl; rfl) | (apply zaf; rfl; rfl; rfl; rfl; rfl; rfl; exact no (ar (by (focus repeat' first | exact Ext.refl _ | assumption | apply Ext.push | (refine Ext.trans ?_ (by assumption))))) hr; (rintro _ _ ⟨rfl, _⟩)) | fail))
    exact ⟨.inr rfl, _, rfl, .inr ⟨rfl, fun z => hr ⟨z.1, z.2.1⟩, by (focus repeat' first | exact Ext.refl _ | assumption | apply Ext.push | (refine Ext.trans ?_ (by assumption)))⟩⟩
end Go.AX.Sa

namespace Go.AX.Sa
open Go.Proofs
set_option maxRecDepth 100000
variable {K : Known}
/-! Two readers. -/
theorem zkC {k : Nat} {L M : List Ent} {j s : Int} (h : ∀ q, hrdF L (j, q) = true → hrdF M (j, q) = true) : (rdrs k L j s).length ≤ (rdrs k M j s).length := by
  unfold rdrs
  rw [← List.countP_eq_length_filter, ← List.countP_eq_length_filter]
  refine List.countP_mono_left fun q _ hq => ?_
  simp only [Bool.and_eq_true, decide_eq_true_eq] at hq ⊢
  exact ⟨h q hq.1, hq.2⟩
theorem set_with {G : Pg} {b k : Nat} {x : Cop} {j : Nat} (hx : x.par = 1) : setA (withG G b k x) (logL (withG G b k x)) j = setA G (logL G) j := by
  unfold setA
  rw [zin, zdY]
  unfold setS
  rw [if_neg (by simp [ent]; omega)]
  rfl
theorem zkJ {G : Pg} {b k : Nat} {x : Cop} {j : Nat} (hx : x.par = 1) (hp : PassP G (logL G) j) : PassP (withG G b k x) (logL (withG G b k x)) j := by
  unfold PassP rdA at *
  rw [set_with hx]
  refine Nat.le_trans hp (zkC fun q hq => ?_)
  rw [zin, zc1]
  unfold hrdS
  rw [if_neg]
  · by_cases u : reads (ent x) (j : Nat) ∧ inPair (ent x) q
    · rw [if_pos u]
    · rw [if_neg u]; exact hq
  · rintro (u | u)
    · have := u.1; simp only [ent] at this; omega
    · have := u.1; simp only [ent] at this; omega
theorem zfA {G : Pg} {L : List Ent} {j : Nat} (hj : j < G.n) : (j : Int) ∈ passL G L ↔ PassP G L j := by
  unfold passL
  rw [filL_mem]
  constructor
  · rintro ⟨i, _, h, p⟩
    have : j = i := by omega
    subst this; exact p
  · exact fun p => ⟨j, hj, rfl, p⟩
theorem zkk {G : Pg} {L : List Ent} {j : Nat} (h : j < G.n) : (shortL G L).getD j 0 = max 0 (2 - ((rdA G L j).length : Int)) := by simp [shortL, List.getD_eq_getElem?_getD, h]
set_option maxHeartbeats 2000000 in
theorem zhm (hK : NoK K) (hKn : Kn K) {G : Pg} {c : Cop} {a0 : Int} {h : Heap} (hT : PgAt G h) (hc : RowIn c.r h) (hsp : SpotN G) : CallW Tryz.prog K 8 #[pgV G, enV c, .int .i64 a0] h TrueB := by
  obtain ⟨par, q, k, t⟩ := c
  have hc' := hc
  obtain ⟨rd, hcb, _⟩ := hc'
  dsimp only [enV] at rd hcb ⊢
  refine body (N := 177) Tryz.func8 rfl (hK _ _ _ rfl) rfl rfl ?_
  by_cases hR : RoomP G ⟨par, ⟨q, k, t⟩⟩
  · have hR' := hR
    obtain ⟨hs, hP, hc6, hl, hE⟩ := hR'
    have hn := hP.n
    have hpp := hP.people
    by_cases hL : LinP G.n a0
    · by_cases hk : par = 1
      · subst hk
        obtain ⟨j, rfl, hj⟩ := lin_nat hL
        have l1 : (passL G (logL G)).length ≤ G.n := zfK _ _
        have l2 := zdI G.people.toNat (logL G) (j : Nat) (setA G (logL G) j)
        have l3 := zkj G (logL G)
        have l4 := zdF G (logL G)
        have hl8 : G.c.length ≤ 1000 := by omega
        have hsh := zkk (L := logL G) hj
        have hns : (setsL G (logL G)).getD j 0 ∉ rdA G (logL G) j := by rw [zdG hj]; exact fun u => (rdrs_mem.1 u).2.2 rfl
        have h2 : (rdA G (logL G) j).length ≤ G.people.toNat := l2
        have hpl : ∀ b k' , (passL (withG G b k' ⟨1, ⟨q, k, t⟩⟩) (logL (withG G b k' ⟨1, ⟨q, k, t⟩⟩))).length ≤ G.n := fun _ _ => zfK _ _
        obtain ⟨hA, e5⟩ | ⟨hA, e5⟩ : (AllP G (logL G) ∧ (passL G (logL G)).length = G.n) ∨ (¬ AllP G (logL G) ∧ (passL G (logL G)).length ≠ G.n) := by
          by_cases hA : AllP G (logL G)
          · exact .inl ⟨hA, filL_all.2 hA⟩
          · exact .inr ⟨hA, fun u => hA (filL_all.1 u)⟩
        all_goals
          obtain ⟨hw, e6, e7⟩ | ⟨hw, e6⟩ : ((j : Int) ∈ passL G (logL G) ∧ 2 ≤ (rdA G (logL G) j).length ∧ ∀ b k', ((j : Nat) : Int) ∈ passL (withG G b k' ⟨1, ⟨q, k, t⟩⟩) (logL (withG G b k' ⟨1, ⟨q, k, t⟩⟩))) ∨ ((j : Int) ∉ passL G (logL G) ∧ ¬ 2 ≤ (rdA G (logL G) j).length) := by
            by_cases hw : PassP G (logL G) j
            · exact .inl ⟨(zfA hj).2 hw, hw, fun b k' => (zfA (G := withG G b k' ⟨1, ⟨q, k, t⟩⟩) hj).2 (zkJ rfl hw)⟩
            · exact .inr ⟨fun u => hw ((zfA hj).1 u), hw⟩
        all_goals
          (repeat' (first | apply zan | apply zac | (apply O_at; rfl) | (apply zag; rfl) | apply zah | (apply zbc; rfl) | (apply zaG; rfl) | apply zav | apply zay | apply zbd | apply zar | (apply zbj; rfl; rfl; rfl) | ((first | apply zae | apply zad | apply zbm); rfl; rfl; rfl; rfl) | (apply P_fa; rfl; rfl; rfl; rfl; exact zaw rfl; (first | exact Nat.zero_add _ | exact Nat.add_zero _ | rfl)) | (apply zbe; rfl; rfl; rfl; rfl; rfl; rfl; exact zau rfl) | (apply za2; rfl; rfl; rfl; rfl; rfl; rfl) | (apply zbK; rfl; rfl; rfl; rfl; rfl) | (apply zeE; rfl; rfl; rfl; rfl; rfl; omega) | (apply zgX; rfl; rfl; rfl; rfl; rfl; omega) | (apply zgW; rfl; rfl; rfl; rfl; rfl; omega) | (apply zb4; rfl; rfl; rfl; rfl; rfl; omega) | (apply zb3; rfl; rfl; rfl; rfl; rfl; omega) | (apply zfj; rfl; rfl; rfl; rfl; rfl; omega) | (apply zfi; rfl; rfl; rfl; rfl; rfl; omega) | (apply zeB; rfl; rfl; rfl; rfl; rfl; (unfold fit; omega)) | (apply zcp; rfl; rfl; rfl; rfl; rfl; exact zau rfl; exact zak rfl; (first | assumption | rfl | exact (Int.toNat_of_nonneg (by omega)).symm); omega) | (apply zam; rfl; rfl; rfl; rfl; exact zas rfl; (focus repeat' first | exact zaa | assumption | apply zab | (apply Ext.get; assumption)); (first | exact zal (by omega) | rfl | assumption)) | (apply zaD; rfl; rfl; rfl; rfl; exact zaO rfl; (focus repeat' first | exact zaa | assumption | apply zab | (apply Ext.get; assumption)); (first | exact Nat.le_of_ble_eq_true rfl | (simp; done) | (simp; omega) | (rw [zaj]; omega)); rfl) | (apply zgU; rfl; rfl; rfl; rfl; rfl; rfl) | (apply zaI; rfl; rfl; rfl; rfl; exact zak rfl; rfl; rfl) | (apply zjP; rfl; rfl; rfl; rfl; rfl; rfl) | (apply zaf; rfl; rfl; rfl; rfl; rfl; rfl; exact yes (zfv (x := ⟨1, ⟨q, k, t⟩⟩) hK (hT.ext (by (focus repeat' first | exact Ext.refl _ | assumption | apply Ext.push | (refine Ext.trans ?_ (by assumption))))) (hc.ext (by (focus repeat' first | exact Ext.refl _ | assumption | apply Ext.push | (refine Ext.trans ?_ (by assumption)))))) hR; (rintro _ _ ⟨rfl, _⟩)) | (apply zaf; rfl; rfl; rfl; rfl; rfl; rfl; exact yes (zcr hK (by omega)) hL; (rintro _ _ ⟨rfl, _⟩)) | (apply zaf; rfl; rfl; rfl; rfl; rfl; rfl; exact ze4 hK (hT.ext (by (focus repeat' first | exact Ext.refl _ | assumption | apply Ext.push | (refine Ext.trans ?_ (by assumption))))) hs hP; (rintro _ _ ⟨_, _, rfl, _, _⟩)) | (apply zaf; rfl; rfl; rfl; rfl; rfl; rfl; exact pass_yes hK (hT.ext (by (focus repeat' first | exact Ext.refl _ | assumption | apply Ext.push | (refine Ext.trans ?_ (by assumption))))) hs hP hA; (rintro _ _ ⟨rfl, _⟩)) | (apply zaf; rfl; rfl; rfl; rfl; rfl; rfl; exact pass_not hK (hT.ext (by (focus repeat' first | exact Ext.refl _ | assumption | apply Ext.push | (refine Ext.trans ?_ (by assumption))))) hs hP hA; (rintro _ _ ⟨rfl, _⟩)) | (apply zaf; rfl; rfl; rfl; rfl; rfl; rfl; exact zhk hK (hT.ext (by (focus repeat' first | exact Ext.refl _ | assumption | apply Ext.push | (refine Ext.trans ?_ (by assumption))))) hs hP rfl hj; (rintro _ _ ⟨_, _, rfl, _, _⟩)) | (apply zaf; rfl; rfl; rfl; rfl; rfl; rfl; exact zkl hK (hT.ext (by (focus repeat' first | exact Ext.refl _ | assumption | apply Ext.push | (refine Ext.trans ?_ (by assumption))))) hs hP; (rintro _ _ ⟨_, _, rfl, _, _⟩)) | (apply zaf; rfl; rfl; rfl; rfl; rfl; rfl; exact zjd hK (hT.ext (by (focus repeat' first | exact Ext.refl _ | assumption | apply Ext.push | (refine Ext.trans ?_ (by assumption))))) hs hP; (rintro _ _ ⟨_, _, rfl, _, _⟩)) | (apply zaf; rfl; rfl; rfl; rfl; rfl; rfl; exact with_ok (x := ⟨1, ⟨q, k, t⟩⟩) hK (hT.ext (by (focus repeat' first | exact Ext.refl _ | assumption | apply Ext.push | (refine Ext.trans ?_ (by assumption))))) (hc.ext (by (focus repeat' first | exact Ext.refl _ | assumption | apply Ext.push | (refine Ext.trans ?_ (by assumption))))) hl8 hsp; (rintro _ _ ⟨_, _, rfl, _, _⟩)) | fail))
          rename_i h1 x1 h2' x2 h3 p3 c3 r3 x3 h4 x4 h5 p5 c5 r5 x5 h6 p6 c6 r6 x6 h7 p7 c7 r7 x7 h8 b8 k8 T8 x8
          have l9 := hpl b8 k8
          apply zaf; rfl; rfl; rfl; rfl; rfl; rfl
          exact ze4 hK (T8.ext (by (focus repeat' first | exact Ext.refl _ | assumption | apply Ext.push | (refine Ext.trans ?_ (by assumption))))) (zjc hs hP hc6 hl) (pgP_with hP hE hl)
          rintro _ h9 ⟨p9, c9, rfl, r9, x9⟩
          obtain ⟨d6, t6, o6, rfl, g6⟩ := r6.at (by rw [zaj]; omega)
          obtain ⟨d7, t7, o7, rfl, g7⟩ := r7.at (by rw [zaj]; omega)
          (repeat' (first | apply zan | apply zac | (apply O_at; rfl) | (apply zag; rfl) | apply zah | (apply zbc; rfl) | (apply zaG; rfl) | apply zav | apply zay | apply zbd | apply zar | (apply zbj; rfl; rfl; rfl) | ((first | apply zae | apply zad | apply zbm); rfl; rfl; rfl; rfl) | (apply P_fa; rfl; rfl; rfl; rfl; exact zaw rfl; (first | exact Nat.zero_add _ | exact Nat.add_zero _ | rfl)) | (apply zbe; rfl; rfl; rfl; rfl; rfl; rfl; exact zau rfl) | (apply za2; rfl; rfl; rfl; rfl; rfl; rfl) | (apply zbK; rfl; rfl; rfl; rfl; rfl) | (apply zeE; rfl; rfl; rfl; rfl; rfl; omega) | (apply zgX; rfl; rfl; rfl; rfl; rfl; omega) | (apply zgW; rfl; rfl; rfl; rfl; rfl; omega) | (apply zb4; rfl; rfl; rfl; rfl; rfl; omega) | (apply zb3; rfl; rfl; rfl; rfl; rfl; omega) | (apply zfj; rfl; rfl; rfl; rfl; rfl; omega) | (apply zfi; rfl; rfl; rfl; rfl; rfl; omega) | (apply zeB; rfl; rfl; rfl; rfl; rfl; (unfold fit; omega)) | (apply zcp; rfl; rfl; rfl; rfl; rfl; exact zau rfl; exact zak rfl; (first | assumption | rfl | exact (Int.toNat_of_nonneg (by omega)).symm); omega) | (apply zam; rfl; rfl; rfl; rfl; exact zas rfl; (focus repeat' first | exact zaa | assumption | apply zab | (apply Ext.get; assumption)); (first | exact zal (by omega) | rfl | assumption)) | (apply zaD; rfl; rfl; rfl; rfl; exact zaO rfl; (focus repeat' first | exact zaa | assumption | apply zab | (apply Ext.get; assumption)); (first | exact Nat.le_of_ble_eq_true rfl | (simp; done) | (simp; omega) | (rw [zaj]; omega)); rfl) | (apply zgU; rfl; rfl; rfl; rfl; rfl; rfl) | (apply zaI; rfl; rfl; rfl; rfl; exact zak rfl; rfl; rfl) | (apply zjP; rfl; rfl; rfl; rfl; rfl; rfl) | (apply zaf; rfl; rfl; rfl; rfl; rfl; rfl; exact yes (zcX hK (by omega) (r3.ext (by (focus repeat' first | exact Ext.refl _ | assumption | apply Ext.push | (refine Ext.trans ?_ (by assumption)))))) hw; (rintro _ _ ⟨rfl, _⟩)) | (apply zaf; rfl; rfl; rfl; rfl; rfl; rfl; exact no (zcX hK (by omega) (r3.ext (by (focus repeat' first | exact Ext.refl _ | assumption | apply Ext.push | (refine Ext.trans ?_ (by assumption)))))) hw; (rintro _ _ ⟨rfl, _⟩)) | (apply zaf; rfl; rfl; rfl; rfl; rfl; rfl; exact no (zcX hK (by omega) (r5.ext (by (focus repeat' first | exact Ext.refl _ | assumption | apply Ext.push | (refine Ext.trans ?_ (by assumption)))))) hns; (rintro _ _ ⟨rfl, _⟩)) | (apply zaf; rfl; rfl; rfl; rfl; rfl; rfl; exact yes (zcX hK (by omega) (r9.ext (by (focus repeat' first | exact Ext.refl _ | assumption | apply Ext.push | (refine Ext.trans ?_ (by assumption)))))) (e7 b8 k8); (rintro _ _ ⟨rfl, _⟩)) | (apply zaf; rfl; rfl; rfl; rfl; rfl; rfl; exact zcZ hKn; (rintro _ _ ⟨rfl, _⟩)) | fail))
          exact ⟨.inr rfl, _, rfl, rfl⟩
      · (repeat' (first | apply zan | apply zac | (apply O_at; rfl) | (apply zag; rfl) | apply zah | (apply zbc; rfl) | (apply zaG; rfl) | apply zav | apply zay | apply zbd | apply zar | (apply zbj; rfl; rfl; rfl) | ((first | apply zae | apply zad | apply zbm); rfl; rfl; rfl; rfl) | (apply P_fa; rfl; rfl; rfl; rfl; exact zaw rfl; (first | exact Nat.zero_add _ | exact Nat.add_zero _ | rfl)) | (apply zbe; rfl; rfl; rfl; rfl; rfl; rfl; exact zau rfl) | (apply za2; rfl; rfl; rfl; rfl; rfl; rfl) | (apply zbK; rfl; rfl; rfl; rfl; rfl) | (apply zeE; rfl; rfl; rfl; rfl; rfl; omega) | (apply zgX; rfl; rfl; rfl; rfl; rfl; omega) | (apply zgW; rfl; rfl; rfl; rfl; rfl; omega) | (apply zb4; rfl; rfl; rfl; rfl; rfl; omega) | (apply zb3; rfl; rfl; rfl; rfl; rfl; omega) | (apply zfj; rfl; rfl; rfl; rfl; rfl; omega) | (apply zfi; rfl; rfl; rfl; rfl; rfl; omega) | (apply zeB; rfl; rfl; rfl; rfl; rfl; (unfold fit; omega)) | (apply zcp; rfl; rfl; rfl; rfl; rfl; exact zau rfl; exact zak rfl; (first | assumption | rfl | exact (Int.toNat_of_nonneg (by omega)).symm); omega) | (apply zam; rfl; rfl; rfl; rfl; exact zas rfl; (focus repeat' first | exact zaa | assumption | apply zab | (apply Ext.get; assumption)); (first | exact zal (by omega) | rfl | assumption)) | (apply zaD; rfl; rfl; rfl; rfl; exact zaO rfl; (focus repeat' first | exact zaa | assumption | apply zab | (apply Ext.get; assumption)); (first | exact Nat.le_of_ble_eq_true rfl | (simp; done) | (simp; omega) | (rw [zaj]; omega)); rfl) | (apply zgU; rfl; rfl; rfl; rfl; rfl; rfl) | (apply zaI; rfl; rfl; rfl; rfl; exact zak rfl; rfl; rfl) | (apply zjP; rfl; rfl; rfl; rfl; rfl; rfl) | (apply zaf; rfl; rfl; rfl; rfl; rfl; rfl; exact yes (zfv (x := ⟨par, ⟨q, k, t⟩⟩) hK (hT.ext (by (focus repeat' first | exact Ext.refl _ | assumption | apply Ext.push | (refine Ext.trans ?_ (by assumption))))) (hc.ext (by (focus repeat' first | exact Ext.refl _ | assumption | apply Ext.push | (refine Ext.trans ?_ (by assumption)))))) hR; (rintro _ _ ⟨rfl, _⟩)) | (apply zaf; rfl; rfl; rfl; rfl; rfl; rfl; exact yes (zcr hK (by omega)) hL; (rintro _ _ ⟨rfl, _⟩)) | (apply zaf; rfl; rfl; rfl; rfl; rfl; rfl; exact zcZ hKn; (rintro _ _ ⟨rfl, _⟩)) | fail))
        exact ⟨.inr rfl, _, rfl, rfl⟩
    · (repeat' (first | apply zan | apply zac | (apply O_at; rfl) | (apply zag; rfl) | apply zah | (apply zbc; rfl) | (apply zaG; rfl) | apply zav | apply zay | apply zbd | apply zar | (apply zbj; rfl; rfl; rfl) | ((first | apply zae | apply zad | apply zbm); rfl; rfl; rfl; rfl) | (apply P_fa; rfl; rfl; rfl; rfl; exact zaw rfl; (first | exact Nat.zero_add _ | exact Nat.add_zero _ | rfl)) | (apply zbe; rfl; rfl; rfl; rfl; rfl; rfl; exact zau rfl) | (apply za2; rfl; rfl; rfl; rfl; rfl; rfl) | (apply zbK; rfl; rfl; rfl; rfl; rfl) | (apply zeE; rfl; rfl; rfl; rfl; rfl; omega) | (apply zgX; rfl; rfl; rfl; rfl; rfl; omega) | (apply zgW; rfl; rfl; rfl; rfl; rfl; omega) | (apply zb4; rfl; rfl; rfl; rfl; rfl; omega) | (apply zb3; rfl; rfl; rfl; rfl; rfl; omega) | (apply zfj; rfl; rfl; rfl; rfl; rfl; omega) | (apply zfi; rfl; rfl; rfl; rfl; rfl; omega) | (apply zeB; rfl; rfl; rfl; rfl; rfl; (unfold fit; omega)) | (apply zcp; rfl; rfl; rfl; rfl; rfl; exact zau rfl; exact zak rfl; (first | assumption | rfl | exact (Int.toNat_of_nonneg (by omega)).symm); omega) | (apply zam; rfl; rfl; rfl; rfl; exact zas rfl; (focus repeat' first | exact zaa | assumption | apply zab | (apply Ext.get; assumption)); (first | exact zal (by omega) | rfl | assumption)) | (apply zaD; rfl; rfl; rfl; rfl; exact zaO rfl; (focus repeat' first | exact zaa | assumption | apply zab | (apply Ext.get; assumption)); (first | exact Nat.le_of_ble_eq_true rfl | (simp; done) | (simp; omega) | (rw [zaj]; omega)); rfl) | (apply zgU; rfl; rfl; rfl; rfl; rfl; rfl) | (apply zaI; rfl; rfl; rfl; rfl; exact zak rfl; rfl; rfl) | (apply zjP; rfl; rfl; rfl; rfl; rfl; rfl) | (apply zaf; rfl; rfl; rfl; rfl; rfl; rfl; exact yes (zfv (x := ⟨par, ⟨q, k, t⟩⟩) hK (hT.ext (by (focus repeat' first | exact Ext.refl _ | assumption | apply Ext.push | (refine Ext.trans ?_ (by assumption))))) (hc.ext (by (focus repeat' first | exact Ext.refl _ | assumption | apply Ext.push | (refine Ext.trans ?_ (by assumption)))))) hR; (rintro _ _ ⟨rfl, _⟩)) | (apply zaf; rfl; rfl; rfl; rfl; rfl; rfl; exact no (zcr hK (by omega)) hL; (rintro _ _ ⟨rfl, _⟩)) | (apply zaf; rfl; rfl; rfl; rfl; rfl; rfl; exact zcZ hKn; (rintro _ _ ⟨rfl, _⟩)) | fail))
      exact ⟨.inr rfl, _, rfl, rfl⟩
  · (repeat' (first | apply zan | apply zac | (apply O_at; rfl) | (apply zag; rfl) | apply zah | (apply zbc; rfl) | (apply zaG; rfl) | apply zav | apply zay | apply zbd | apply zar | (apply zbj; rfl; rfl; rfl) | ((first | apply zae | apply zad | apply zbm); rfl; rfl; rfl; rfl) | (apply P_fa; rfl; rfl; rfl; rfl; exact zaw rfl; (first | exact Nat.zero_add _ | exact Nat.add_zero _ | rfl)) | (apply zbe; rfl; rfl; rfl; rfl; rfl; rfl; exact zau rfl) | (apply za2; rfl; rfl; rfl; rfl; rfl; rfl) | (apply zbK; rfl; rfl; rfl; rfl; rfl) | (apply zeE; rfl; rfl; rfl; rfl; rfl; omega) | (apply zgX; rfl; rfl; rfl; rfl; rfl; omega) | (apply zgW; rfl; rfl; rfl; rfl; rfl; omega) | (apply zb4; rfl; rfl; rfl; rfl; rfl; omega) | (apply zb3; rfl; rfl; rfl; rfl; rfl; omega) | (apply zfj; rfl; rfl; rfl; rfl; rfl; omega) | (apply zfi; rfl; rfl; rfl; rfl; rfl; omega) | (apply zeB; rfl; rfl; rfl; rfl; rfl; (unfold fit; omega)) | (apply zcp; rfl; rfl; rfl; rfl; rfl; exact zau rfl; exact zak rfl; (first | assumption | rfl | exact (Int.toNat_of_nonneg (by omega)).symm); omega) | (apply zam; rfl; rfl; rfl; rfl; exact zas rfl; (focus repeat' first | exact zaa | assumption | apply zab | (apply Ext.get; assumption)); (first | exact zal (by omega) | rfl | assumption)) | (apply zaD; rfl; rfl; rfl; rfl; exact zaO rfl; (focus repeat' first | exact zaa | assumption | apply zab | (apply Ext.get; assumption)); (first | exact Nat.le_of_ble_eq_true rfl | (simp; done) | (simp; omega) | (rw [zaj]; omega)); rfl) | (apply zgU; rfl; rfl; rfl; rfl; rfl; rfl) | (apply zaI; rfl; rfl; rfl; rfl; exact zak rfl; rfl; rfl) | (apply zjP; rfl; rfl; rfl; rfl; rfl; rfl) | (apply zaf; rfl; rfl; rfl; rfl; rfl; rfl; exact no (zfv (x := ⟨par, ⟨q, k, t⟩⟩) hK (hT.ext (by (focus repeat' first | exact Ext.refl _ | assumption | apply Ext.push | (refine Ext.trans ?_ (by assumption))))) (hc.ext (by (focus repeat' first | exact Ext.refl _ | assumption | apply Ext.push | (refine Ext.trans ?_ (by assumption)))))) hR; (rintro _ _ ⟨rfl, _⟩)) | (apply zaf; rfl; rfl; rfl; rfl; rfl; rfl; exact zcZ hKn; (rintro _ _ ⟨rfl, _⟩)) | fail))
    exact ⟨.inr rfl, _, rfl, rfl⟩
end Go.AX.Sa
