/- The law ProofTwo at the reading: what the functions that it calls answer (2). -/
import Derived.Test.YtliligceejfakaaGreatDoorProofTwoTextA
namespace Go.AX.Sa
open Go.Proofs
set_option maxRecDepth 100000
variable {K : Known}
/-! A page with an entry more. -/
theorem bs_e1 (h : Heap) (a : Int) (p : Option Addr) (n k : Nat) : buildSliceB Tryz.prog h 23 1 [(0, .agg #[.int .i64 a, .slice p n k])] = some (.slice (some ⟨h.n, 0, none⟩) 1 1, h.push (.cells [.int .i64 a, .slice p n k] 37 true)) := by kernel_rfl
theorem ziF : ∀ l : List Cop, (copCells l).all oneB = true
  | [] => rfl
  | c :: l => by
    show (true && (true && (copCells l).all oneB)) = true
    rw [ziF l]; rfl
theorem cops_app (l m : List Cop) : copCells (l ++ m) = copCells l ++ copCells m := by
  induction l with
  | nil => rfl
  | cons c l ih => simp only [List.cons_append, copCells, ih]
theorem rdK_cops {h : Heap} {p : Option Addr} {l : List Cop} (r : Rd h p (copCells l)) (hs : ∀ a, p = some a → a.spot = none) : RdK h 2 p (copCells l) l.length := by
  refine ⟨by rw [zaV]; omega, ?_, hs⟩
  rcases r with r | ⟨b, e, own, rfl, r⟩
  · left
    have := congrArg List.length r
    rw [zaV] at this
    simp only [List.length_nil] at this
    omega
  · exact .inr ⟨b, e, own, rfl, r⟩
theorem zek {l : List Cop} {x : Cop} {j : Nat} (h : j < l.length) : (l ++ [x]).getD j cop0 = l.getD j cop0 := by simp only [List.getD_eq_getElem?_getD, List.getElem?_append_left h]
theorem zel {l : List Cop} {x : Cop} : (l ++ [x]).getD l.length cop0 = x := by simp [List.getD_eq_getElem?_getD]
def SpotN (G : Pg) : Prop := ∀ a, G.pg = some a → a.spot = none
def withG (G : Pg) (b k : Nat) (x : Cop) : Pg := { G with pg := some ⟨b, 0, none⟩, kg := k, c := G.c ++ [x] }
theorem with_ok (hK : NoK K) {G : Pg} {x : Cop} {h : Heap} (hT : PgAt G h) (hx : RowIn x.r h) (hl : G.c.length ≤ 1000) (hsp : SpotN G) :
    CallW Tryz.prog K 26 #[pgV G, enV x] h (fun v h1 => ∃ b k, v = pgV (withG G b k x) ∧ PgAt (withG G b k x) h1 ∧ Ext h h1) := by
  have hT' := hT
  obtain ⟨people, pl, kl, n, l, p, kc, c⟩ := G
  obtain ⟨len, rl, rc, each, hbl, hpb⟩ := hT
  have hxb := hx.b
  obtain ⟨par, q, k, t⟩ := x
  dsimp only [pgV, enV, SpotN] at len rl rc each hbl hpb hl hx hsp hxb ⊢
  refine body (N := 13) Tryz.func26 rfl (hK _ _ _ rfl) rfl rfl ?_
  (repeat' (first | apply zan | apply zac | (apply O_at; rfl) | (apply N_at; rfl) | (apply zag; rfl) | apply zah | (apply zbh; exact zaz (by decide +kernel)) | (apply zaI; rfl; rfl; rfl; rfl; exact zak rfl; rfl; rfl) | (apply zbi; rfl; rfl; rfl; rfl; exact zak rfl; rfl; rfl) | (apply M_fa; rfl; rfl; rfl; rfl; exact zaw rfl; (first | exact Nat.zero_add _ | exact Nat.add_zero _ | rfl)) | ((first | ((apply zbp; rfl; rfl; rfl; rfl; exact zas rfl; exact zaK (by decide +kernel)); (focus repeat' first | exact zaa | assumption | apply zab | (apply Ext.get; assumption) | (apply ExtBut.get; assumption; (first | assumption | omega | (simp only [Heap.push]; omega)))); (first | rfl | assumption)) | ((apply ziR; rfl; rfl; rfl; rfl; exact zaO rfl; exact zfh (by decide +kernel)); (focus repeat' first | exact zaa | assumption | apply zab | (apply Ext.get; assumption) | (apply ExtBut.get; assumption; (first | assumption | omega | (simp only [Heap.push]; omega)))); (first | exact Nat.le_of_ble_eq_true rfl | (simp; done) | (simp; omega)); rfl)); (first | assumption | exact zbs _ _ _ | exact zcE _ _ _ _ | rfl | (focus simp [same, same.all2]; done)); (first | rfl | assumption | exact hwv _ | exact zbr (by assumption) (by (focus repeat' first | exact Ext.refl _ | assumption | apply Ext.push | (refine Ext.trans ?_ (by assumption)) | (refine Ext.set ?_ (Nat.le_succ _) (zab zaa) _) | (refine Ext.ofBut ?_ (by assumption) (by first | exact Nat.le_refl _ | omega)))) | exact zeW (by assumption) (by (focus repeat' first | exact Ext.refl _ | assumption | apply Ext.push | (refine Ext.trans ?_ (by assumption)) | (refine Ext.set ?_ (Nat.le_succ _) (zab zaa) _) | (refine Ext.ofBut ?_ (by assumption) (by first | exact Nat.le_refl _ | omega)))) | (simp [within]; omega))) | fail))
  refine M_appC rfl rfl rfl rfl rfl rfl rfl rfl (ck2_ok rfl) (zau rfl) (h0 := ((h.push (.cells [.int .i64 people, .slice pl n kl, .slice p c.length kc] 25 true)).push (.cells [.int .i64 par, .slice q t.length k] 37 true)).push (.cells [.int .i64 0, .slice none 0 0, .slice none 0 0] 25 true)) (rdK_cops (rc.ext (by (focus repeat' first | exact Ext.refl _ | assumption | apply Ext.push | (refine Ext.trans ?_ (by assumption)) | (refine Ext.set ?_ (Nat.le_succ _) (zab zaa) _) | (refine Ext.ofBut ?_ (by assumption) (by first | exact Nat.le_refl _ | omega))))) hsp) (.inl ⟨rfl, rfl, rfl⟩) (Nat.le_refl _) (by omega) (ziF c) rfl ?_
  intro v1 h1 o1 _ z1 z2
  have x1 := z2 rfl
  clear z1 z2
  rw [List.nil_append, Nat.zero_add] at o1
  (repeat' (first | (apply N_at; rfl) | ((first | ((apply zbp; rfl; rfl; rfl; rfl; exact zas rfl; exact zaK (by decide +kernel)); (focus repeat' first | exact zaa | assumption | apply zab | (apply Ext.get; assumption) | (apply ExtBut.get; assumption; (first | assumption | omega | (simp only [Heap.push]; omega)))); (first | rfl | assumption)) | ((apply ziR; rfl; rfl; rfl; rfl; exact zaO rfl; exact zfh (by decide +kernel)); (focus repeat' first | exact zaa | assumption | apply zab | (apply Ext.get; assumption) | (apply ExtBut.get; assumption; (first | assumption | omega | (simp only [Heap.push]; omega)))); (first | exact Nat.le_of_ble_eq_true rfl | (simp; done) | (simp; omega)); rfl)); (first | assumption | exact zbs _ _ _ | exact zcE _ _ _ _ | rfl | (focus simp [same, same.all2]; done)); (first | rfl | assumption | exact hwv _ | exact zbr (by assumption) (by (focus repeat' first | exact Ext.refl _ | assumption | apply Ext.push | (refine Ext.trans ?_ (by assumption)) | (refine Ext.set ?_ (Nat.le_succ _) (zab zaa) _) | (refine Ext.ofBut ?_ (by assumption) (by first | exact Nat.le_refl _ | omega)))) | exact zeW (by assumption) (by (focus repeat' first | exact Ext.refl _ | assumption | apply Ext.push | (refine Ext.trans ?_ (by assumption)) | (refine Ext.set ?_ (Nat.le_succ _) (zab zaa) _) | (refine Ext.ofBut ?_ (by assumption) (by first | exact Nat.le_refl _ | omega)))) | (simp [within]; omega))) | fail))
  refine M_bs (vs := [(0, .agg #[.int .i64 par, .slice q t.length k])]) rfl rfl rfl rfl (bs_e1 _ _ _ _ _) ?_
  (repeat' (first | (apply N_at; rfl) | fail))
  refine M_appC rfl rfl rfl rfl rfl rfl rfl rfl (ck2_ok rfl) (zau rfl) (s := 2) (m := 1) (h0 := ((h.push (.cells [.int .i64 people, .slice pl n kl, .slice p c.length kc] 25 true)).push (.cells [.int .i64 par, .slice q t.length k] 37 true)).push (.cells [.int .i64 0, .slice none 0 0, .slice none 0 0] 25 true)) (c := [.int .i64 par, .slice q t.length k]) ⟨rfl, .inr ⟨_, _, _, rfl, zaa⟩, fun a q => by cases q; rfl⟩ (o1.ext (by (focus repeat' first | exact Ext.refl _ | assumption | apply Ext.push | (refine Ext.trans ?_ (by assumption)) | (refine Ext.set ?_ (Nat.le_succ _) (zab zaa) _) | (refine Ext.ofBut ?_ (by assumption) (by first | exact Nat.le_refl _ | omega))))) ((x1.push _).n) (by omega) rfl rfl ?_
  intro v2 h2 o2 k2 z1 z2
  have x2 := z1 (x1.push _)
  clear z1 z2
  obtain ⟨b, rfl, g2, hb2⟩ : ∃ b, v2 = .slice (some ⟨b, 0, none⟩) (c.length + 1) unk ∧ h2.get? b = some (.cells (copCells c ++ [.int .i64 par, .slice q t.length k]) 37 true) ∧ h.n + 3 ≤ b := by
    rcases o2 with ⟨z, _⟩ | ⟨_, _, b, z1, z2, z3⟩
    · omega
    · exact ⟨b, z1, z2, z3⟩
  (repeat' (first | (apply N_at; rfl) | (apply M_fa; rfl; rfl; rfl; rfl; exact zaw rfl; (first | exact Nat.zero_add _ | exact Nat.add_zero _ | rfl)) | fail))
  refine zlR rfl rfl rfl rfl (x2.get (zab (zab zaa))) (zak rfl) rfl (Nat.le_of_ble_eq_true rfl) rfl rfl ?_
  (repeat' (first | apply zan | apply zac | (apply O_at; rfl) | apply zah | (apply zbN; rfl; refine .inr ?_; (focus repeat' first | exact trivial | exact Keeps.nil _ _ | apply And.intro | rfl | (apply Keeps.cons; iterate 2 (focus repeat' first | exact zaa | assumption | apply zab | (apply Ext.get; assumption) | (apply ExtBut.get; assumption; (first | assumption | omega | (simp only [Heap.push]; omega))))))) | fail))
  have g5 := x2.get (zab (zab zaa))
  have g6 := x2.get zaa
  generalize he : h2.set h.n _ = h3
  have f1 : h3.get? h.n = some (.cells [.int .i64 people, .slice pl n kl, .slice (some ⟨b, 0, none⟩) (c.length + 1) unk] 25 true) := by rw [← he]; exact zaE g5
  have f2 := zaA (c := .cells [.int .i64 people, .slice pl n kl, .slice (some ⟨b, 0, none⟩) (c.length + 1) unk] 25 true) g5 (fun u => by simp only [Heap.push] at u; omega) g6
  have f3 := zaA (c := .cells [.int .i64 people, .slice pl n kl, .slice (some ⟨b, 0, none⟩) (c.length + 1) unk] 25 true) g5 (fun u => by omega) g2
  have x3 : Ext h h3 := by rw [← he]; exact Ext.set (by (focus repeat' first | exact Ext.refl _ | assumption | apply Ext.push | (refine Ext.trans ?_ (by assumption)) | (refine Ext.set ?_ (Nat.le_succ _) (zab zaa) _) | (refine Ext.ofBut ?_ (by assumption) (by first | exact Nat.le_refl _ | omega)))) (Nat.le_refl _) g5 _
  have he' : h2.set h.n (.cells [.int .i64 people, .slice pl n kl, .slice (some ⟨b, 0, none⟩) (c.length + 1) unk] 25 true) = h3 := he
  rw [he'] at f2 f3
  clear he he' g5 g6 k2
  (repeat' (first | (apply O_at; rfl) | (apply zag; rfl) | apply zah | apply zay | apply zar | (apply zaD; rfl; rfl; rfl; rfl; exact zaO rfl; (focus repeat' first | exact zaa | assumption | apply zab | (apply Ext.get; assumption) | (apply ExtBut.get; assumption; (first | assumption | omega | (simp only [Heap.push]; omega)))); (first | exact Nat.le_of_ble_eq_true rfl | (simp; done) | (simp; omega)); rfl) | (apply zfT; rfl; rfl; rfl; rfl; (focus repeat' first | exact zaa | assumption | apply zab | (apply Ext.get; assumption) | (apply ExtBut.get; assumption; (first | assumption | omega | (simp only [Heap.push]; omega)))); exact zak rfl; rfl; (first | rfl | exact zaj _); rfl; (intro _ _ _)) | fail))
  rename_i h4 g4 k4
  have hlen : (c ++ [(⟨par, ⟨q, k, t⟩⟩ : Cop)]).length = c.length + 1 := by simp
  have g2' := k4.get (by simp only [Heap.push]; omega) f3
  have x4 : Ext h h4 := Ext.ofBut x3 k4 (by simp only [Heap.push]; omega)
  refine ⟨.inr rfl, _, ze1 rfl (v := .agg #[.int .i64 people, .slice pl n kl, .slice (some ⟨b, 0, none⟩) (c.length + 1) unk]) ?_ rfl, b, unk, ?_, ⟨len, rl.ext x4, ?_, ?_, fun a e => Nat.lt_of_lt_of_le (hbl a e) x4.n, fun a e => by cases e; exact Heap.get_lt g2'⟩, x4⟩
  · have ht := zaO (t := 25) (n := 3) rfl
    simp only [readB, g4, partB, zcx ht, zb1 ht]
    rfl
  · simp only [withG, hlen]
    rfl
  · refine .inr ⟨b, 37, true, rfl, ?_⟩
    simp only [withG, cops_app]
    exact g2'
  · intro j hj
    simp only [withG] at hj ⊢
    rw [hlen] at hj
    by_cases hjc : j < c.length
    · rw [zek hjc]
      exact (each j hjc).ext x4
    · obtain rfl : j = c.length := by omega
      rw [zel]
      exact hx.ext x4
theorem zin (G : Pg) (b k : Nat) (x : Cop) : logL (withG G b k x) = logL G ++ [ent x] := by simp [logL, withG]
theorem pgP_with {G : Pg} {b k : Nat} {x : Cop} (hP : PgP G) (hx : EntP G.people G.n (ent x)) (hc : G.c.length < 10) : PgP (withG G b k x) := by
  refine ⟨hP.people, hP.n, by simp [withG]; omega, hP.line, fun j hj => ?_⟩
  simp only [withG, List.length_append, List.length_singleton] at hj ⊢
  by_cases hjc : j < G.c.length
  · rw [zek hjc]
    exact hP.ent j hjc
  · obtain rfl : j = G.c.length := by omega
    rw [zel]
    exact hx
theorem zjc {G : Pg} {b k : Nat} {x : Cop} (hs : ShortP G) (_hP : PgP G) (hx : x.r.s.length ≤ 6) (hc : G.c.length < 10) : ShortP (withG G b k x) := by
  refine ⟨hs.1, by simp [withG]; omega, fun j hj => ?_⟩
  simp only [withG, List.length_append, List.length_singleton] at hj ⊢
  by_cases hjc : j < G.c.length
  · rw [zek hjc]
    exact hs.2.2 j hjc
  · obtain rfl : j = G.c.length := by omega
    rw [zel]
    exact hx
/-- A page that has room for an entry. -/
def RoomP (G : Pg) (x : Cop) : Prop := ShortP G ∧ PgP G ∧ x.r.s.length ≤ 6 ∧ G.c.length < 10 ∧ EntP G.people G.n (ent x)
theorem right_ok (hK : NoK K) {G : Pg} {h : Heap} (hT : PgAt G h) : CallW Tryz.prog K 42 #[pgV G] h (IfB (ShortP G ∧ PgP G) h) := by
  refine body (N := 9) Tryz.func42 rfl (hK _ _ _ rfl) rfl rfl ?_
  by_cases hs : ShortP G
  · (repeat' (first | apply zan | apply zac | (apply O_at; rfl) | (apply zag; rfl) | apply zah | apply zay | apply zar | ((first | apply zae | apply zad); rfl; rfl; rfl; rfl) | (apply za2; rfl; rfl; rfl; rfl; rfl; rfl) | (apply zaD; rfl; rfl; rfl; rfl; exact zaO rfl; (focus repeat' first | exact zaa | assumption | (apply Ext.get; assumption)); (first | exact Nat.le_of_ble_eq_true rfl | (simp; done) | (simp; omega)); rfl) | (apply zaI; rfl; rfl; rfl; rfl; exact zak rfl; rfl; rfl) | (apply zaf; rfl; rfl; rfl; rfl; rfl; rfl; exact yes (zid hK (hT.ext (by (focus repeat' first | exact Ext.refl _ | assumption | apply Ext.push | (refine Ext.trans ?_ (by assumption)))))) hs; (rintro _ _ ⟨rfl, _⟩)) | (apply zaf; rfl; rfl; rfl; rfl; rfl; rfl; exact zjo hK (hT.ext (by (focus repeat' first | exact Ext.refl _ | assumption | apply Ext.push | (refine Ext.trans ?_ (by assumption))))) hs; (rintro _ _ (⟨rfl, _, _⟩ | ⟨rfl, _, _⟩))) | fail))
    · rename_i w _
      exact ⟨.inr rfl, _, rfl, .inl ⟨rfl, ⟨hs, w⟩, by (focus repeat' first | exact Ext.refl _ | assumption | apply Ext.push | (refine Ext.trans ?_ (by assumption)))⟩⟩
    · rename_i w _
      exact ⟨.inr rfl, _, rfl, .inr ⟨rfl, fun q => w q.2, by (focus repeat' first | exact Ext.refl _ | assumption | apply Ext.push | (refine Ext.trans ?_ (by assumption)))⟩⟩
  · (repeat' (first | apply zan | apply zac | (apply O_at; rfl) | (apply zag; rfl) | apply zah | apply zay | apply zar | (apply zbj; rfl; rfl; rfl) | ((first | apply zae | apply zad); rfl; rfl; rfl; rfl) | (apply za2; rfl; rfl; rfl; rfl; rfl; rfl) | (apply zaD; rfl; rfl; rfl; rfl; exact zaO rfl; (focus repeat' first | exact zaa | assumption | (apply Ext.get; assumption)); (first | exact Nat.le_of_ble_eq_true rfl | (simp; done) | (simp; omega)); rfl) | (apply zaI; rfl; rfl; rfl; rfl; exact zak rfl; rfl; rfl) | (apply zaf; rfl; rfl; rfl; rfl; rfl; rfl; exact no (zid hK (hT.ext (by (focus repeat' first | exact Ext.refl _ | assumption | apply Ext.push | (refine Ext.trans ?_ (by assumption)))))) hs; (rintro _ _ ⟨rfl, _⟩)) | fail))
    exact ⟨.inr rfl, _, rfl, .inr ⟨rfl, fun q => hs q.1, by (focus repeat' first | exact Ext.refl _ | assumption | apply Ext.push | (refine Ext.trans ?_ (by assumption)))⟩⟩
theorem zfv (hK : NoK K) {G : Pg} {x : Cop} {h : Heap} (hT : PgAt G h) (hx : RowIn x.r h) : CallW Tryz.prog K 24 #[pgV G, enV x] h (IfB (RoomP G x) h) := by
  have hT' := hT
  have hx' := hx
  have hxb := hx.b
  obtain ⟨people, pl, kl, n, l, p, kc, c⟩ := G
  obtain ⟨par, q, k, t⟩ := x
  obtain ⟨len, rl, rc, each, hbl, hpb⟩ := hT
  dsimp only [pgV, enV] at len rl rc each hbl hpb hx hxb ⊢
  have ar : ∀ {h1 : Heap}, Ext h h1 → CallW Tryz.prog K 42 #[.agg #[.int .i64 people, .slice pl n kl, .slice p c.length kc]] h1 (IfB (ShortP ⟨people, pl, kl, n, l, p, kc, c⟩ ∧ PgP ⟨people, pl, kl, n, l, p, kc, c⟩) h1) := fun e => right_ok (G := ⟨people, pl, kl, n, l, p, kc, c⟩) hK (hT'.ext e)
  refine body (N := 24) Tryz.func24 rfl (hK _ _ _ rfl) rfl rfl ?_
  by_cases hr : ShortP ⟨people, pl, kl, n, l, p, kc, c⟩ ∧ PgP ⟨people, pl, kl, n, l, p, kc, c⟩
  · have hp := hr.2.people
    have hn := hr.2.n
    dsimp only at hp hn
    by_cases h1 : t.length ≤ 6
    · by_cases h2 : c.length < 10
      · (repeat' (first | apply zan | apply zac | (apply O_at; rfl) | (apply zag; rfl) | apply zah | apply zay | apply zar | ((first | apply zae | apply zad); rfl; rfl; rfl; rfl) | (apply P_fa; rfl; rfl; rfl; rfl; exact zaw rfl; (first | exact Nat.zero_add _ | exact Nat.add_zero _ | rfl)) | (apply zbe; rfl; rfl; rfl; rfl; rfl; rfl; exact zau rfl) | (apply za2; rfl; rfl; rfl; rfl; rfl; rfl) | (apply zbq; rfl; rfl; rfl; rfl; rfl; omega) | (apply zlL; rfl; rfl; rfl; rfl; rfl; omega) | (apply zam; rfl; rfl; rfl; rfl; exact zas rfl; (focus repeat' first | exact zaa | assumption | apply zab | (apply Ext.get; assumption)); (first | rfl | assumption)) | (apply zaD; rfl; rfl; rfl; rfl; exact zaO rfl; (focus repeat' first | exact zaa | assumption | apply zab | (apply Ext.get; assumption)); (first | exact Nat.le_of_ble_eq_true rfl | (simp; done) | (simp; omega)); rfl) | (apply zaI; rfl; rfl; rfl; rfl; exact zak rfl; rfl; rfl) | (apply zaf; rfl; rfl; rfl; rfl; rfl; rfl; exact yes (ar (by (focus repeat' first | exact Ext.refl _ | assumption | apply Ext.push | (refine Ext.trans ?_ (by assumption))))) hr; (rintro _ _ ⟨rfl, _⟩)) | (apply zaf; rfl; rfl; rfl; rfl; rfl; rfl; exact zd1 (G := ⟨people, pl, kl, n, l, p, kc, c⟩) (c := ⟨par, ⟨q, k, t⟩⟩) hK hp (by dsimp only; omega) (hT'.ext (by (focus repeat' first | exact Ext.refl _ | assumption | apply Ext.push | (refine Ext.trans ?_ (by assumption))))).bl (hT'.ext (by (focus repeat' first | exact Ext.refl _ | assumption | apply Ext.push | (refine Ext.trans ?_ (by assumption))))).bg (hx'.ext (by (focus repeat' first | exact Ext.refl _ | assumption | apply Ext.push | (refine Ext.trans ?_ (by assumption))))) (by dsimp only; omega); (rintro _ _ (⟨rfl, _, _⟩ | ⟨rfl, _, _⟩))) | fail))
        · rename_i w _
          exact ⟨.inr rfl, _, rfl, .inl ⟨rfl, ⟨hr.1, hr.2, h1, h2, w⟩, by (focus repeat' first | exact Ext.refl _ | assumption | apply Ext.push | (refine Ext.trans ?_ (by assumption)))⟩⟩
        · rename_i w _
          exact ⟨.inr rfl, _, rfl, .inr ⟨rfl, fun z => w z.2.2.2.2, by (focus repeat' first | exact Ext.refl _ | assumption | apply Ext.push | (refine Ext.trans ?_ (by assumption)))⟩⟩
      · (repeat' (first | apply zan | apply zac | (apply O_at; rfl) | (apply zag; rfl) | apply zah | apply zay | apply zar | (apply zbj; rfl; rfl; rfl) | ((first | apply zae | apply zad); rfl; rfl; rfl; rfl) | (apply P_fa; rfl; rfl; rfl; rfl; exact zaw rfl; (first | exact Nat.zero_add _ | exact Nat.add_zero _ | rfl)) | (apply zbe; rfl; rfl; rfl; rfl; rfl; rfl; exact zau rfl) | (apply za2; rfl; rfl; rfl; rfl; rfl; rfl) | (apply zbE; rfl; rfl; rfl; rfl; rfl; omega) | (apply zlL; rfl; rfl; rfl; rfl; rfl; omega) | (apply zam; rfl; rfl; rfl; rfl; exact zas rfl; (focus repeat' first | exact zaa | assumption | apply zab | (apply Ext.get; assumption)); (first | rfl | assumption)) | (apply zaD; rfl; rfl; rfl; rfl; exact zaO rfl; (focus repeat' first | exact zaa | assumption | apply zab | (apply Ext.get; assumption)); (first | exact Nat.le_of_ble_eq_true rfl | (simp; done) | (simp; omega)); rfl) | (apply zaI; rfl; rfl; rfl; rfl; exact zak rfl; rfl; rfl) | (apply zaf; rfl; rfl; rfl; rfl; rfl; rfl; exact yes (ar (by (focus repeat' first | exact Ext.refl _ | assumption | apply Ext.push | (refine Ext.trans ?_ (by assumption))))) hr; (rintro _ _ ⟨rfl, _⟩)) | fail))
        exact ⟨.inr rfl, _, rfl, .inr ⟨rfl, fun z => h2 z.2.2.2.1, by (focus repeat' first | exact Ext.refl _ | assumption | apply Ext.push | (refine Ext.trans ?_ (by assumption)))⟩⟩
    · (repeat' (first | apply zan | apply zac | (apply O_at; rfl) | (apply zag; rfl) | apply zah | apply zay | apply zar | (apply zbj; rfl; rfl; rfl) | ((first | apply zae | apply zad); rfl; rfl; rfl; rfl) | (apply P_fa; rfl; rfl; rfl; rfl; exact zaw rfl; (first | exact Nat.zero_add _ | exact Nat.add_zero _ | rfl)) | (apply zbe; rfl; rfl; rfl; rfl; rfl; rfl; exact zau rfl) | (apply za2; rfl; rfl; rfl; rfl; rfl; rfl) | (apply P_leqF; rfl; rfl; rfl; rfl; rfl; omega) | (apply zam; rfl; rfl; rfl; rfl; exact zas rfl; (focus repeat' first | exact zaa | assumption | apply zab | (apply Ext.get; assumption)); (first | rfl | assumption)) | (apply zaD; rfl; rfl; rfl; rfl; exact zaO rfl; (focus repeat' first | exact zaa | assumption | apply zab | (apply Ext.get; assumption)); (first | exact Nat.le_of_ble_eq_true rfl | (simp; done) | (simp; omega)); rfl) | (apply zaI; rfl; rfl; rfl; rfl; exact zak rfl; rfl; rfl) | (apply zaf; rfl; rfl; rfl; rfl; rfl; rfl; exact yes (ar (by (focus repeat' first | exact Ext.refl _ | assumption | apply Ext.push | (refine Ext.trans ?_ (by assumption))))) hr; (rintro _ _ ⟨rfl, _⟩)) | fail))
      exact ⟨.inr rfl, _, rfl, .inr ⟨rfl, fun z => h1 z.2.2.1, by (focus repeat' first | exact Ext.refl _ | assumption | apply Ext.push | (refine Ext.trans ?_ (by assumption)))⟩⟩
  · (repeat' (first | apply zan | apply zac | (apply O_at; rfl) | (apply zag; rfl) | apply zah | apply zay | apply zar | (apply zbj; rfl; rfl; rfl) | ((first | apply zae | apply zad); rfl; rfl; rfl; rfl) | (apply za2; rfl; rfl; rfl; rfl; rfl; rfl) | (apply zaD; rfl; rfl; rfl; rfl; exact zaO rfl; (focus repeat' first | exact zaa | assumption | apply zab | (apply Ext.get; assumption)); (first | exact Nat.le_of_ble_eq_true rfl | (simp; done) | (simp; omega)); rfl) | (apply zaI; rfl; rfl; rfl; rfl; exact zak rfl; rfl; rfl) | (apply zaf; rfl; rfl; rfl; rfl; rfl; rfl; exact no (ar (by (focus repeat' first | exact Ext.refl _ | assumption | apply Ext.push | (refine Ext.trans ?_ (by assumption))))) hr; (rintro _ _ ⟨rfl, _⟩)) | fail))
    exact ⟨.inr rfl, _, rfl, .inr ⟨rfl, fun z => hr ⟨z.1, z.2.1⟩, by (focus repeat' first | exact Ext.refl _ | assumption | apply Ext.push | (refine Ext.trans ?_ (by assumption)))⟩⟩
end Go.AX.Sa

namespace Go.AX.Sa
open Go.Proofs
set_option maxRecDepth 100000
variable {K : Known}
/-! What stands, line by line: the specification. -/
theorem zcX (hK : NoK K) {l : List Int} {n : Int} {p : Option Addr} {cap : Nat} {h : Heap} (hn : l.length ≤ 1000) (hr : Rd h p (ints l)) :
    CallW Tryz.prog K 31 #[.slice p l.length cap, .int .i64 n] h (IfB (n ∈ l) h) := by
  refine body (N := 18) Tryz.func31 rfl (hK _ _ _ rfl) rfl rfl ?_
  (repeat' (first | apply zan | apply zac | (apply O_at; rfl) | (apply zag; rfl) | apply zah | apply zaq | ((first | apply zae | apply zad); rfl; rfl; rfl; rfl) | fail))
  refine zbb (fun k : Nat => [(0, .slice p l.length cap), (1, .int .i64 n), (5, .int .i64 (k : Nat))])
    (fun k h' => k ≤ l.length ∧ Ext h h' ∧ ∀ j, j < k → l.getD j 0 ≠ n) (fun k => l.length - k) ?_ 0 ?_ ?_
  · intro k h' ⟨hk, hx, hj⟩ ih
    by_cases hlt : k < l.length
    · obtain ⟨b, e, own', rfl, hg⟩ := hr.at (by rw [zaj]; omega)
      (repeat' (first | apply zan | apply zac | (apply O_at; rfl) | (apply zag; rfl) | apply zah | (apply zbc; rfl) | (apply zaG; rfl) | apply zaq | apply zav | apply zay | apply zbd | apply zeH | apply zcq | apply zaN | apply zar | ((first | apply zae | apply zad); rfl; rfl; rfl; rfl) | (apply zbe; rfl; rfl; rfl; rfl; rfl; rfl; exact zau rfl) | (apply zbq; rfl; rfl; rfl; rfl; rfl; omega) | (apply P_eql; rfl; rfl; rfl; rfl; rfl; all_goals intro _) | (apply zcb; rfl; rfl; rfl; rfl; rfl; (unfold fit; omega)) | (apply zcp; rfl; rfl; rfl; rfl; rfl; exact zau rfl; exact zak rfl; (first | assumption | rfl | exact (Int.toNat_of_nonneg (by omega)).symm); omega) | (apply zam; rfl; rfl; rfl; rfl; exact zas rfl; (focus repeat' first | assumption | (apply Ext.get; assumption)); (first | exact zal (by omega) | rfl | assumption)) | fail))
      · rename_i q
        refine ⟨.inr rfl, _, rfl, .inl ⟨rfl, ?_, by (focus repeat' first | exact Ext.refl _ | assumption)⟩⟩
        rw [← q]; simp [hlt]
      · rename_i q
        refine za1 (ih (k + 1) _ ?_ ⟨hlt, ?_, fun j hj' => ?_⟩) ?_
        · omega
        · (focus repeat' first | exact Ext.refl _ | assumption)
        · by_cases hjk : j = k
          · subst hjk; exact q
          · exact hj j (by omega)
        · (focus repeat' first | rfl | exact trivial | apply And.intro)
    · (repeat' (first | apply zan | apply zac | (apply O_at; rfl) | (apply zag; rfl) | apply zah | (apply zaG; rfl) | apply zbk | apply zay | apply zbl | apply za5 | apply za6 | apply zar | ((first | apply zae | apply zad); rfl; rfl; rfl; rfl) | (apply zbe; rfl; rfl; rfl; rfl; rfl; rfl; exact zau rfl) | (apply zbE; rfl; rfl; rfl; rfl; rfl; omega) | fail))
      refine ⟨.inr rfl, _, rfl, .inr ⟨rfl, fun q => ?_, by (focus repeat' first | exact Ext.refl _ | assumption)⟩⟩
      obtain ⟨j, hj1, hj2⟩ := List.getElem_of_mem q
      exact hj j (by omega) (by simpa [hj1] using hj2)
  · exact ⟨Nat.zero_le _, Ext.refl _, fun j hj => by omega⟩
  · (focus repeat' first | rfl | exact trivial | apply And.intro)
end Go.AX.Sa

namespace Go.AX.Sa
open Go.Proofs
set_option maxRecDepth 100000
variable {K : Known}
def HeardTo (G : Pg) (j q : Int) (i : Nat) : Prop := ∃ i', i' < i ∧ (reads (ent (G.c.getD i' cop0)) j ∧ inPair (ent (G.c.getD i' cop0)) q) ∧ ¬ ∃ k, i' ≤ k ∧ k < G.c.length ∧ changes (ent (G.c.getD k cop0)) j
end Go.AX.Sa

namespace Go.AX.Sa
open Go.Proofs
set_option maxRecDepth 100000
variable {K : Known}
end Go.AX.Sa

namespace Go.AX.Sa
open Go.Proofs
set_option maxRecDepth 100000
variable {K : Known}
/-! What stands, in memory. -/
def stC (G : Pg) (bn bs r : Nat) : List Value := [.int .i64 G.people, .slice G.pl G.n G.kl, .slice G.pg G.c.length G.kg, .slice (some ⟨bn, 0, none⟩) G.n unk, .slice (some ⟨bs, 0, none⟩) G.n unk, .map (some r)]
structure Ne4 (s bn bs r : Nat) : Prop where
  sn : s ≠ bn
  ss : s ≠ bs
  sr : s ≠ r
  ns : bn ≠ bs
  nr : bn ≠ r
  sr' : bs ≠ r
structure StB (G : Pg) (N S : List Int) (f : Int × Int → Bool) (s bn bs r : Nat) (h : Heap) : Prop where
  box : h.get? s = some (.cells (stC G bn bs r) 87 true)
  nums : h.get? bn = some (.cells (ints N) 3 true)
  sets : h.get? bs = some (.cells (ints S) 3 true)
  hrd : MapB h r f
  nl : N.length = G.n
  sl : S.length = G.n
/-- All but these three blocks stays. -/
structure Keep3 (bn bs r : Nat) (h h1 : Heap) : Prop where
  n : h.n ≤ h1.n
  get : ∀ b x, b ≠ bn → b ≠ bs → b ≠ r → h.get? b = some x → h1.get? b = some x
theorem Keep3.refl (bn bs r : Nat) (h : Heap) : Keep3 bn bs r h h := ⟨Nat.le_refl _, fun _ _ _ _ _ g => g⟩
theorem Keep3.trans {bn bs r : Nat} {h h1 h2 : Heap} (a : Keep3 bn bs r h h1) (b : Keep3 bn bs r h1 h2) : Keep3 bn bs r h h2 :=
  ⟨Nat.le_trans a.n b.n, fun c x p q w g => b.get c x p q w (a.get c x p q w g)⟩
theorem Keep3.ofN {bn bs r : Nat} {h h1 : Heap} (x : ExtBut bn h h1) : Keep3 bn bs r h h1 := ⟨x.n, fun _ _ p _ _ g => x.get p g⟩
theorem Keep3.ofR {bn bs r : Nat} {h h1 : Heap} (x : ExtBut r h h1) : Keep3 bn bs r h h1 := ⟨x.n, fun _ _ _ _ p g => x.get p g⟩
theorem Keep3.of {bn bs r : Nat} {h h1 : Heap} (x : Ext h h1) : Keep3 bn bs r h h1 := ⟨x.n, fun _ _ _ _ _ g => x.get g⟩
theorem Keep3.ext {bn bs r : Nat} {h0 h h1 : Heap} (k : Keep3 bn bs r h h1) (e : Ext h0 h) (a : h0.n ≤ bn) (b : h0.n ≤ bs) (c : h0.n ≤ r) : Ext h0 h1 :=
  ⟨Nat.le_trans e.n k.n, fun d x g => k.get d x (by have := Heap.get_lt g; omega) (by have := Heap.get_lt g; omega) (by have := Heap.get_lt g; omega) (e.get g)⟩
theorem StB.ext {G : Pg} {N S : List Int} {f : Int × Int → Bool} {s bn bs r : Nat} {h h1 : Heap} (x : StB G N S f s bn bs r h) (e : Ext h h1) : StB G N S f s bn bs r h1 := ⟨e.get x.box, e.get x.nums, e.get x.sets, x.hrd.ext e, x.nl, x.sl⟩
theorem StB.ne {G : Pg} {N S : List Int} {f : Int × Int → Bool} {s bn bs r : Nat} {h : Heap} (x : StB G N S f s bn bs r h) (hns : bn ≠ bs) : Ne4 s bn bs r := by
  obtain ⟨es, c, l, hm, _⟩ := x.hrd
  have b := x.box
  have n := x.nums
  have t := x.sets
  refine ⟨fun q => ?_, fun q => ?_, fun q => ?_, hns, fun q => ?_, fun q => ?_⟩
  · subst q; rw [b] at n; injection n with n; injection n with n _ _; simp only [stC, ints] at n; rcases N with _ | ⟨_, _ | ⟨_, _⟩⟩ <;> simp at n
  · subst q; rw [b] at t; injection t with n; injection n with n _ _; simp only [stC, ints] at n; rcases S with _ | ⟨_, _ | ⟨_, _⟩⟩ <;> simp at n
  · subst q; rw [b] at hm; cases hm
  · subst q; rw [n] at hm; cases hm
  · subst q; rw [t] at hm; cases hm
def keepCh (f : Int × Int → Bool) (j : Int) (k : Int) : Int × Int → Bool := fun q => if q.1 = j ∧ 0 ≤ q.2 ∧ q.2 < k then false else f q
theorem zhE (f : Int × Int → Bool) (j : Int) (k : Nat) (q : Int × Int) : (if q = (j, (k : Int)) then false else keepCh f j k q) = keepCh f j (k + 1 : Nat) q := by
  unfold keepCh
  obtain ⟨a, b⟩ := q
  simp only [Prod.mk.injEq]
  by_cases h1 : a = j ∧ b = k
  · rw [if_pos h1, if_pos (by omega)]
  · rw [if_neg h1]
    by_cases h2 : a = j ∧ 0 ≤ b ∧ b < (k : Int)
    · rw [if_pos h2, if_pos (by omega)]
    · rw [if_neg h2, if_neg (by omega)]
theorem zgO (hK : NoK K) {G : Pg} {N S : List Int} {f : Int × Int → Bool} {s bn bs r : Nat} {j : Nat} {jj v : Int} {h : Heap} (hS : StB G N S f s bn bs r h) (hns : bn ≠ bs) (hp : 2 ≤ G.people ∧ G.people ≤ 6) (hjj : jj = (j : Nat)) (hj : j < G.n) (hn : G.n ≤ 1000) :
    CallW Tryz.prog K 146 #[.pointer (some ⟨s, 0, none⟩), .int .i64 jj, .int .i64 v] h (fun _ h1 => StB G (N.set j v) S (keepCh f j G.people) s bn bs r h1 ∧ Keep3 bn bs r h h1) := by
  subst hjj
  obtain ⟨n1, n2, n3, n4, n5, n6⟩ := hS.ne hns
  obtain ⟨box, nums, sets, hrd, nl, sl⟩ := hS
  obtain ⟨people, pl, kl, n, l, p, kc, c⟩ := G
  dsimp only at hp hj hn nl sl ⊢
  refine body (N := 30) Tryz.func146 rfl (hK _ _ _ rfl) rfl rfl ?_
  obtain ⟨m, rfl⟩ : ∃ m : Nat, people = m := ⟨people.toNat, by omega⟩
  have hj' : j < N.length := by omega
  (repeat' (first | apply zan | apply zac | (apply O_at; rfl) | (apply zag; rfl) | apply zah | apply zaq | ((first | apply zae | apply zad); rfl; rfl; rfl; rfl) | (apply P_fa; rfl; rfl; rfl; rfl; exact zaw rfl; (first | exact Nat.zero_add _ | exact Nat.add_zero _ | rfl)) | (apply zcp; rfl; rfl; rfl; rfl; rfl; exact zau rfl; exact zak rfl; (first | assumption | rfl | exact (Int.toNat_of_nonneg (by omega)).symm); omega) | (apply zam; rfl; rfl; rfl; rfl; exact zas rfl; (focus repeat' first | assumption | (apply ExtBut.get; assumption; (first | assumption | omega | (simp only [Heap.push]; omega)))); (first | rfl | assumption)) | (apply ziM; rfl; rfl; rfl; rfl; (focus repeat' first | assumption | (apply ExtBut.get; assumption; (first | assumption | omega | (simp only [Heap.push]; omega)))); exact zak rfl; (first | omega | (focus simp; done)); (intro _ _ _)) | (apply zeC; rfl; rfl; rfl; rfl) | fail))
  rename_i h1 g1 x1
  refine zbb (fun k : Nat => [(19, .int .i64 (k : Nat)), (18, .int .i64 (m : Nat)), (0, .pointer (some ⟨s, 0, none⟩)), (1, .int .i64 (j : Nat))])
    (fun k h' => k ≤ m ∧ h'.get? s = some (.cells (stC ⟨(m : Nat), pl, kl, n, l, p, kc, c⟩ bn bs r) 87 true) ∧ h'.get? bn = some (.cells (ints (N.set j v)) 3 true) ∧ h'.get? bs = some (.cells (ints S) 3 true) ∧ MapB h' r (keepCh f (j : Nat) (k : Nat)) ∧ Keep3 bn bs r h h') (fun k => m - k) ?_ 0 ?_ ?_
  · intro k h' ⟨hk, q1, q2, q3, q4, q5⟩ ih
    by_cases hlt : k < m
    · (repeat' (first | apply zan | apply zac | (apply O_at; rfl) | (apply zag; rfl) | apply zah | (apply zbc; rfl) | apply zaq | apply zav | apply zaN | ((first | apply zae | apply zad); rfl; rfl; rfl; rfl) | (apply P_fa; rfl; rfl; rfl; rfl; exact zaw rfl; (first | exact Nat.zero_add _ | exact Nat.add_zero _ | rfl)) | (apply zbq; rfl; rfl; rfl; rfl; rfl; omega) | (apply zcb; rfl; rfl; rfl; rfl; rfl; (unfold fit; omega)) | (apply zam; rfl; rfl; rfl; rfl; exact zas rfl; (focus repeat' first | assumption | (apply ExtBut.get; assumption; (first | assumption | omega | (simp only [Heap.push]; omega)))); (first | rfl | assumption)) | (apply zdm; rfl; rfl; rfl; rfl) | (apply zeC; rfl; rfl; rfl; rfl) | (apply zjS; rfl; rfl; rfl; rfl; rfl; rfl; exact mapB85; (first | assumption); (intro _ _ _)) | fail))
      rename_i h2 m2 x2
      exact za1 (ih (k + 1) _ (by omega) ⟨hlt, x2.get n3 q1, x2.get n5 q2, x2.get n6 q3, m2.to (zhE f _ k), q5.trans (.ofR x2)⟩) (by (focus repeat' first | rfl | exact trivial | apply And.intro))
    · (repeat' (first | apply zan | apply zac | (apply O_at; rfl) | (apply zag; rfl) | apply zah | (apply zaG; rfl) | apply zbk | apply zbl | apply za5 | apply za6 | apply zar | (apply zbE; rfl; rfl; rfl; rfl; rfl; omega) | fail))
      obtain rfl : k = m := by omega
      exact ⟨.inl rfl, _, rfl, ⟨q1, q2, q3, q4, by simpa using nl, sl⟩, q5⟩
  · exact ⟨Nat.zero_le _, x1.get n1 box, g1, x1.get (fun q => n4 q.symm) sets, (hrd.but x1 (fun q => n5 q.symm)).to (fun q => by unfold keepCh; rw [if_neg (by omega)]), .ofN x1⟩
  · (focus repeat' first | rfl | exact trivial | apply And.intro)
/-- A line is set anew. -/
theorem mend_ok (hK : NoK K) {G : Pg} {N S : List Int} {f : Int × Int → Bool} {s bn bs r : Nat} {c : Cop} {j : Nat} {h : Heap} (hS : StB G N S f s bn bs r h) (hns : bn ≠ bs) (hp : 2 ≤ G.people ∧ G.people ≤ 6) (hn : G.n ≤ 1000) (hc : RowIn c.r h) (hl : c.r.s.length = 3) (hj : c.r.s.getD 1 0 = (j : Nat)) (hjn : j < G.n) :
    CallW Tryz.prog K 132 #[.pointer (some ⟨s, 0, none⟩), enV c] h (fun _ h1 => StB G (N.set j (c.r.s.getD 2 0)) (S.set j (c.r.s.getD 0 0)) (keepCh f j G.people) s bn bs r h1 ∧ Keep3 bn bs r h h1) := by
  obtain ⟨n1, n2, n3, n4, n5, n6⟩ := hS.ne hns
  have hS' := hS
  obtain ⟨box, nums, sets, hrd, nl, sl⟩ := hS
  obtain ⟨rd, hcb, _⟩ := hc
  obtain ⟨par, q, k, t⟩ := c
  dsimp only [enV] at rd hcb hl hj ⊢
  obtain ⟨b, e, own, rfl, hg⟩ := rd.at (by rw [zaj]; omega)
  refine body (N := 30) Tryz.func132 rfl (hK _ _ _ rfl) rfl rfl ?_
  have hjs : j < S.length := by omega
  (repeat' (first | apply zan | apply zac | (apply O_at; rfl) | (apply N_at; rfl) | (apply zag; rfl) | apply zah | (apply zbh; exact zaz (by decide +kernel)) | (apply zbN; rfl; exact (.inl (Nat.le_refl 1))) | ((first | apply zae | apply zaZ); rfl; rfl; rfl; rfl) | ((first | apply P_fa | apply M_fa); rfl; rfl; rfl; rfl; exact zaw rfl; (first | exact Nat.zero_add _ | exact Nat.add_zero _ | rfl)) | ((first | apply zcp | apply zeG); rfl; rfl; rfl; rfl; rfl; exact zau rfl; exact zak rfl; (first | assumption | exact zq0 | exact zq1 | exact zq2 | rfl | exact (Int.toNat_of_nonneg (by omega)).symm); omega) | (apply zam; rfl; rfl; rfl; rfl; exact zas rfl; (focus repeat' first | exact zaa | assumption | apply zab | (apply ExtBut.get; assumption; (first | assumption | omega | (simp only [Heap.push]; omega)))); (first | exact zal (by omega) | rfl | assumption)) | (apply ziM; rfl; rfl; rfl; rfl; (focus repeat' first | exact zaa | assumption | apply zab | (apply ExtBut.get; assumption; (first | assumption | omega | (simp only [Heap.push]; omega)))); exact zak rfl; (first | omega | (focus simp; done)); (intro _ _ _)) | (apply zeC; rfl; rfl; rfl; rfl) | (apply zaI; rfl; rfl; rfl; rfl; exact zak rfl; rfl; rfl) | (((apply zbp; rfl; rfl; rfl; rfl; exact zas rfl; exact zaK (by decide +kernel)); (focus repeat' first | exact zaa | assumption | apply zab | (apply ExtBut.get; assumption; (first | assumption | omega | (simp only [Heap.push]; omega)))); (first | exact zal (by omega) | rfl | assumption)); (first | assumption | exact zaQ _ _ | exact zbs _ _ _ | rfl | (focus simp [same, same.all2]; done)); (first | rfl | assumption | exact hwv _ | (focus apply zbW; (focus repeat' first | exact zaa | assumption | apply zab | (apply ExtBut.get; assumption; (first | assumption | omega | (simp only [Heap.push]; omega)))); done) | (simp [within]; omega))) | fail))
  rename_i h1 g1 x1
  have sb := Heap.get_lt box
  have k1 : Keep3 bn bs r h h1 := ⟨Nat.le_trans (Nat.le_succ _) x1.n, fun c y _ w _ g => x1.get w (zab g)⟩
  have hS1 : StB G N (S.set j (t.getD 0 0)) f s bn bs r h1 := ⟨x1.get n2 (zab box), x1.get n4 (zab nums), g1, (hrd.ext ((Ext.refl h).push _)).but x1 (fun q => n6 q.symm), nl, by simpa using sl⟩
  apply zaf; rfl; rfl; rfl; rfl; rfl; rfl; exact zgO hK hS1 hns hp hj hjn hn
  rintro _ h2 ⟨hS2, k2⟩
  (repeat' (first | (apply zag; rfl) | apply zar | fail))
  exact ⟨.inl rfl, _, rfl, hS2, k1.trans k2⟩
/-- A figure falls out. -/
theorem fall_ok (hK : NoK K) {G : Pg} {N S : List Int} {f : Int × Int → Bool} {s bn bs r : Nat} {c : Cop} {j : Nat} {h : Heap} (hS : StB G N S f s bn bs r h) (hns : bn ≠ bs) (hp : 2 ≤ G.people ∧ G.people ≤ 6) (hn : G.n ≤ 1000) (hc : RowIn c.r h) (hl : c.r.s.length = 1) (hj : c.r.s.getD 0 0 = (j : Nat)) (hjn : j < G.n) (hN : NumP (N.getD j 0)) :
    CallW Tryz.prog K 133 #[.pointer (some ⟨s, 0, none⟩), enV c] h (fun _ h1 => StB G (N.set j ((N.getD j 0).tdiv 10)) S (keepCh f j G.people) s bn bs r h1 ∧ Keep3 bn bs r h h1) := by
  obtain ⟨n1, n2, n3, n4, n5, n6⟩ := hS.ne hns
  have hS' := hS.ext ((Ext.refl h).push (.cells (enV c).cells.toList 37 true))
  obtain ⟨box, nums, sets, hrd, nl, sl⟩ := hS
  obtain ⟨rd, hcb, _⟩ := hc
  obtain ⟨par, q, k, t⟩ := c
  dsimp only [enV] at rd hcb hl hj hS' ⊢
  obtain ⟨b, e, own, rfl, hg⟩ := rd.at (by rw [zaj]; omega)
  refine body (N := 20) Tryz.func133 rfl (hK _ _ _ rfl) rfl rfl ?_
  have hjs : j < N.length := by omega
  have hq : fit ((N.getD j 0).tdiv 10) := by have := zeX hN; unfold NumP at this; unfold fit; omega
  (repeat' (first | apply zan | apply zac | (apply O_at; rfl) | (apply zag; rfl) | apply zah | ((first | apply zae | apply zad); rfl; rfl; rfl; rfl) | (apply P_fa; rfl; rfl; rfl; rfl; exact zaw rfl; (first | exact Nat.zero_add _ | exact Nat.add_zero _ | rfl)) | (apply zcp; rfl; rfl; rfl; rfl; rfl; exact zau rfl; exact zak rfl; (first | assumption | exact zq0 | rfl | exact (Int.toNat_of_nonneg (by omega)).symm); omega) | (apply zam; rfl; rfl; rfl; rfl; exact zas rfl; (focus repeat' first | exact zaa | assumption | apply zab); (first | exact zal (by omega) | rfl | assumption)) | (apply zeC; rfl; rfl; rfl; rfl) | (apply zaI; rfl; rfl; rfl; rfl; exact zak rfl; rfl; rfl) | fail))
  apply P_quo; rfl; rfl; rfl; rfl; rfl; decide; exact hq
  (repeat' (first | (apply O_at; rfl) | fail))
  apply zaf; rfl; rfl; rfl; rfl; rfl; rfl; exact zgO hK hS' hns hp hj hjn hn
  rintro _ h2 ⟨hS2, k2⟩
  (repeat' (first | (apply zag; rfl) | apply zar | fail))
  exact ⟨.inl rfl, _, rfl, hS2, (Keep3.of ((Ext.refl h).push _)).trans k2⟩
end Go.AX.Sa

namespace Go.AX.Sa
open Go.Proofs
set_option maxRecDepth 100000
variable {K : Known}

/-! The numbers of a span. -/
def rng (a : Int) (k : Nat) : List Int := (List.range k).map fun i => a + (i : Nat)
theorem rng_succ (a : Int) (k : Nat) : rng a (k + 1) = rng a k ++ [a + (k : Nat)] := by simp [rng, List.range_succ]
def spanL (p : Int × Int) : List Int := rng p.1 (p.2 - p.1 + 1).toNat
theorem zkz (a : Int) : ∀ (n k : Nat), k < n → ∃ rest, rng a k ++ (a + (k : Nat)) :: rest = rng a n := by
  intro n k h
  refine ⟨(rng a n).drop (k + 1), ?_⟩
  have hl : (rng a n).length = n := by simp [rng]
  have ht : (rng a n).take k = rng a k := by
    simp only [rng, ← List.map_take, List.take_range, Nat.min_eq_left (Nat.le_of_lt h)]
  have hg : (rng a n)[k]'(by omega) = a + (k : Nat) := by simp [rng]
  rw [← ht, ← hg, List.getElem_cons_drop, List.take_append_drop]
def ValI (n : Int) (v : Value) (_ : Heap) : Prop := v = .int .i64 n

theorem zhy (hK : NoK K) {bs : Nat} {p : Int × Int} {e : TypeId} {own : Bool} {h0 : Heap} (hp : -1000000 ≤ p.1 ∧ p.2 ≤ 1000000 ∧ p.1 ≤ p.2 + 1) (hb0 : h0.get? bs = some (.cells [.int .i64 p.1, .int .i64 p.2] e own)) :
    Iter Tryz.prog K 134 #[] #[.pointer (some ⟨bs, 0, none⟩)] h0 ValI (spanL p) (fun b => b = bs) := by
  refine ⟨fun b q => by subst q; exact Heap.get_lt hb0, fun h l I C hn _ hk hc hI hX => ?_⟩
  have hb := hk bs _ rfl hb0
  have hC : ¬ C bs := hX bs rfl
  show CallW Tryz.prog K 134 #[.func (.yield l) #[] #[], .pointer (some ⟨bs, 0, none⟩)] h _
  refine body (N := 17) Tryz.func134 rfl (hK _ _ _ rfl) rfl rfl ?_
  (repeat' (first | apply zan | apply zac | (apply O_at; rfl) | (apply zag; rfl) | apply zah | apply zaq | ((first | apply zae | apply zad); rfl; rfl; rfl; rfl) | (apply P_fa; rfl; rfl; rfl; rfl; exact zaw rfl; (first | exact Nat.zero_add _ | exact Nat.add_zero _ | rfl)) | (apply zam; rfl; rfl; rfl; rfl; exact zas rfl; (focus repeat' first | assumption); (first | rfl | assumption)) | fail))
  refine zbb (fun k : Nat => [(3, .int .i64 (p.1 + (k : Nat))), (0, .func (.yield l) #[] #[]), (1, .pointer (some ⟨bs, 0, none⟩))])
    (fun k h' => k ≤ (p.2 - p.1 + 1).toNat ∧ After I (rng p.1 k) C h h') (fun k => (p.2 - p.1 + 1).toNat - k) ?_ 0 ?_ ?_
  · intro k h' ⟨hk1, C1, hi, hm, hkk, hn1⟩ ih
    have hb' := hkk bs _ hC hb
    by_cases hlt : p.1 + (k : Nat) ≤ p.2
    · (repeat' (first | apply zan | apply zac | (apply O_at; rfl) | (apply zag; rfl) | apply zah | (apply zaG; rfl) | apply zbk | apply zbl | apply za5 | apply za6 | apply zar | (apply zbj; rfl; rfl; rfl) | ((first | apply zae | apply zad); rfl; rfl; rfl; rfl) | (apply P_fa; rfl; rfl; rfl; rfl; exact zaw rfl; (first | exact Nat.zero_add _ | exact Nat.add_zero _ | rfl)) | (apply za2; rfl; rfl; rfl; rfl; rfl; rfl) | (apply zfU; rfl; rfl; rfl; rfl; rfl; all_goals intro _) | (apply zam; rfl; rfl; rfl; rfl; exact zas rfl; (focus repeat' first | assumption); (first | rfl | assumption)) | fail))
      · apply P_yield; rfl; rfl; rfl; rfl; rfl
        · exact hc.round _ _ C1 h' _ (zkz p.1 _ k (by omega)) rfl hi hn1 (fun b x q g => by subst q; rw [hb] at g; cases g; exact hb')
        rintro _ h2 ⟨rfl, ha⟩
        (repeat' (first | apply zan | apply zac | (apply O_at; rfl) | (apply zag; rfl) | apply zah | (apply zbc; rfl) | apply zaq | apply zav | apply zaN | ((first | apply zae | apply zad); rfl; rfl; rfl; rfl) | (apply za2; rfl; rfl; rfl; rfl; rfl; rfl) | (apply zcb; rfl; rfl; rfl; rfl; rfl; (unfold fit; omega)) | fail))
        refine za1 (ih (k + 1) _ ?_ ⟨by omega, ?_⟩) ?_
        · omega
        · rw [rng_succ]; exact ha.join hm hkk hn1
        · refine ⟨?_, rfl, rfl, trivial⟩
          show some (Value.int .i64 (p.1 + (k : Nat) + 1)) = _
          congr 2
          omega
      · omega
    · (repeat' (first | apply zan | apply zac | (apply O_at; rfl) | (apply zag; rfl) | apply zah | (apply zaG; rfl) | apply zbk | apply zbl | apply za5 | apply za6 | apply zar | (apply zbj; rfl; rfl; rfl) | ((first | apply zae | apply zad); rfl; rfl; rfl; rfl) | (apply P_fa; rfl; rfl; rfl; rfl; exact zaw rfl; (first | exact Nat.zero_add _ | exact Nat.add_zero _ | rfl)) | (apply za2; rfl; rfl; rfl; rfl; rfl; rfl) | (apply zfU; rfl; rfl; rfl; rfl; rfl; all_goals intro _) | (apply zam; rfl; rfl; rfl; rfl; exact zas rfl; (focus repeat' first | assumption); (first | rfl | assumption)) | fail))
      · omega
      · refine ⟨.inl rfl, _, rfl, ?_⟩
        have e : k = (p.2 - p.1 + 1).toNat := by omega
        subst e
        exact ⟨C1, hi, hm, hkk, hn1⟩
  · exact ⟨Nat.zero_le _, C, hI, fun b q => Or.inl q, fun b x _ g => g, Nat.le_refl _⟩
  · refine ⟨?_, rfl, rfl, trivial⟩
    show some (Value.int .i64 p.1) = _
    congr 2
    omega

theorem ze6 (hK : NoK K) {p : Int × Int} {h : Heap} (hp : -1000000 ≤ p.1 ∧ p.2 ≤ 1000000 ∧ p.1 ≤ p.2 + 1) :
    CallW Tryz.prog K 115 #[.agg #[.int .i64 p.1, .int .i64 p.2]] h fun v h1 => Ext h h1 ∧ ∃ bs, v = .func (.func 134) #[] #[.pointer (some ⟨bs, 0, none⟩)] ∧ h.n ≤ bs ∧ Iter Tryz.prog K 134 #[] #[.pointer (some ⟨bs, 0, none⟩)] h1 ValI (spanL p) (fun b => b = bs) := by
  refine body (N := 4) Tryz.func115 rfl (hK _ _ _ rfl) rfl rfl ?_
  (repeat' (first | apply zan | apply zac | (apply O_at; rfl) | (apply zag; rfl) | apply zah | apply zay | apply zar | (apply zad; rfl; rfl; rfl; rfl) | (apply zjR; rfl; rfl; rfl; rfl; rfl) | (apply zaI; rfl; rfl; rfl; rfl; exact zak rfl; rfl; rfl) | fail))
  refine ⟨.inr rfl, _, rfl, by (focus repeat' first | exact Ext.refl _ | assumption | apply Ext.push), h.n, rfl, Nat.le_refl _, zhy hK hp zaa⟩
/-- The lines that an entry reads. -/
def rdL (e : Ent) : List Int := if e.1 = 1 then spanL (e.2.getD 2 0, e.2.getD 3 0) else []
theorem rdL_mem {e : Ent} {j : Int} : j ∈ rdL e ↔ reads e j := by
  unfold rdL reads
  by_cases h : e.1 = 1
  · rw [if_pos h]
    unfold spanL rng
    simp only [List.mem_map, List.mem_range]
    constructor
    · rintro ⟨i, hi, rfl⟩; exact ⟨h, by omega, by omega⟩
    · rintro ⟨_, h1, h2⟩; exact ⟨(j - e.2.getD 2 0).toNat, by omega, by omega⟩
  · rw [if_neg h]; simp [h]
theorem zgd (hK : NoK K) {c : Cop} {people : Int} {n : Nat} {h : Heap} (hc : RowIn c.r h) (hP : EntP people n (ent c)) (hn : n ≤ 1000) :
    CallW Tryz.prog K 80 #[enV c] h fun v h1 => Ext h h1 ∧ ∃ bs, v = .func (.func 134) #[] #[.pointer (some ⟨bs, 0, none⟩)] ∧ h.n ≤ bs ∧ Iter Tryz.prog K 134 #[] #[.pointer (some ⟨bs, 0, none⟩)] h1 ValI (rdL (ent c)) (fun b => b = bs) := by
  obtain ⟨rd, hcb, _⟩ := hc
  obtain ⟨par, q, k, t⟩ := c
  dsimp only [enV, ent] at rd hcb hP ⊢
  refine body (N := 18) Tryz.func80 rfl (hK _ _ _ rfl) rfl rfl ?_
  by_cases h1 : par = 1
  · subst h1
    have z := ent1.1 hP
    obtain ⟨b, e, own, rfl, hg⟩ := rd.at (by rw [zaj]; omega)
    (repeat' (first | apply zan | apply zac | (apply O_at; rfl) | (apply N_at; rfl) | (apply zag; rfl) | apply zah | (apply zaG; rfl) | (apply zbh; exact zaz (by decide +kernel)) | apply zav | ((first | apply zad | apply zaZ); rfl; rfl; rfl; rfl) | ((first | apply P_fa | apply M_fa); rfl; rfl; rfl; rfl; exact zaw rfl; (first | exact Nat.zero_add _ | exact Nat.add_zero _ | rfl)) | (apply zfj; rfl; rfl; rfl; rfl; rfl; omega) | (apply zam; rfl; rfl; rfl; rfl; exact zas rfl; (focus repeat' first | exact zaa | assumption | apply zab); (first | exact zal (by omega) | rfl | assumption)) | (apply zaI; rfl; rfl; rfl; rfl; exact zak rfl; rfl; rfl) | (apply zeG; rfl; rfl; rfl; rfl; rfl; exact zau rfl; exact zak rfl; (first | assumption | exact zq2 | exact zq3 | rfl | exact (Int.toNat_of_nonneg (by omega)).symm); omega) | (((apply zbp; rfl; rfl; rfl; rfl; exact zas rfl; exact zaK (by decide +kernel)); (focus repeat' first | exact zaa | assumption | apply zab); (first | exact zal (by omega) | rfl | assumption)); (first | assumption | exact zaQ _ _ | exact zbs _ _ _ | rfl | (focus simp [same, same.all2]; done)); (first | rfl | assumption | exact hwv _ | (focus apply zbW; (focus repeat' first | exact zaa | assumption | apply zab); done) | (simp [within]; omega))) | (apply zjW; rfl; rfl; rfl; rfl) | fail))
    apply zaM; rfl; rfl; rfl; rfl; rfl; rfl; rfl; exact ze6 hK (p := (t.getD 2 0, t.getD 3 0)) ⟨by dsimp only; omega, by dsimp only; omega, by dsimp only; omega⟩
    rintro _ h2 ⟨hx2, bs, rfl, hbs, hit⟩
    (repeat' (first | (apply N_at; rfl) | apply zah | apply zay | (apply zbN; rfl; refine .inr ?_; (focus repeat' first | exact trivial | apply And.intro | rfl)) | apply zar | ((first | apply zad | apply zaZ); rfl; rfl; rfl; rfl) | fail))
    exact ⟨.inr rfl, _, rfl, by (focus repeat' first | exact Ext.refl _ | assumption | apply Ext.push | (refine Ext.trans ?_ (by assumption))), bs, rfl, Nat.le_trans (Nat.le_succ _) hbs, hit⟩
  · (repeat' (first | apply zan | apply zac | (apply O_at; rfl) | (apply zag; rfl) | apply zah | (apply zbc; rfl) | ((first | apply zad | apply zaZ); rfl; rfl; rfl; rfl) | ((first | apply P_fa | apply M_fa); rfl; rfl; rfl; rfl; exact zaw rfl; (first | exact Nat.zero_add _ | exact Nat.add_zero _ | rfl)) | (apply zfi; rfl; rfl; rfl; rfl; rfl; omega) | (apply zam; rfl; rfl; rfl; rfl; exact zas rfl; (focus repeat' first | exact zaa | assumption | apply zab); (first | exact zal (by omega) | rfl | assumption)) | (apply zcz; rfl; rfl; rfl; rfl) | (apply zaI; rfl; rfl; rfl; rfl; exact zak rfl; rfl; rfl) | fail))
    apply zaf; rfl; rfl; rfl; rfl; rfl; rfl; exact ze6 hK (p := (0, -1)) ⟨by decide, by decide, by decide⟩
    rintro _ h2 ⟨hx2, bs, rfl, hbs, hit⟩
    (repeat' (first | (apply O_at; rfl) | (apply zag; rfl) | apply zah | apply zay | apply zbd | apply zar | ((first | apply zad | apply zaZ); rfl; rfl; rfl; rfl) | fail))
    have e0 : rdL (par, t) = spanL (0, -1) := by unfold rdL; rw [if_neg h1]; rfl
    rw [e0]
    exact ⟨.inr rfl, _, rfl, by (focus repeat' first | exact Ext.refl _ | assumption | apply Ext.push | (refine Ext.trans ?_ (by assumption))), bs, rfl, Nat.le_trans (Nat.le_succ _) hbs, hit⟩
end Go.AX.Sa

namespace Go.AX.Sa
open Go.Proofs
set_option maxRecDepth 100000
variable {K : Known}
def readF (f : Int × Int → Bool) (e : Ent) (seen : List Int) : Int × Int → Bool := fun q => if q.1 ∈ seen ∧ inPair e q.2 then true else f q
theorem read_ok (hK : NoK K) {G : Pg} {N S : List Int} {f : Int × Int → Bool} {s bn bs r : Nat} {c : Cop} {h : Heap} (hS : StB G N S f s bn bs r h) (hns : bn ≠ bs) (hn : G.n ≤ 1000) (hc : RowIn c.r h) (hP : EntP G.people G.n (ent c)) (h1 : c.par = 1) :
    CallW Tryz.prog K 131 #[.pointer (some ⟨s, 0, none⟩), enV c] h (fun _ h1 => StB G N S (readF f (ent c) (rdL (ent c))) s bn bs r h1 ∧ Keep3 bn bs r h h1) := by
  obtain ⟨n1, n2, n3, n4, n5, n6⟩ := hS.ne hns
  obtain ⟨box, nums, sets, hrd, nl, sl⟩ := hS
  have hc' := hc
  obtain ⟨rd, hcb, hcc⟩ := hc
  obtain ⟨par, q, k, t⟩ := c
  dsimp only at h1
  subst h1
  dsimp only [enV, ent] at rd hcb hcc hP ⊢
  have z := ent1.1 hP
  have hcap := hcc (by omega)
  obtain ⟨b, e, own, rfl, hg⟩ := rd.at (by rw [zaj]; omega)
  have hr := hrd.lt
  have hsl := Heap.get_lt box
  have hbl := Heap.get_lt hg
  have nb : b ≠ r := by
    obtain ⟨_, _, _, hm, _⟩ := hrd
    intro q; subst q; rw [hg] at hm; cases hm
  refine zhW (N := 26) 2 Tryz.func131 rfl (hK _ _ _ rfl) rfl rfl (by rfl) (by rfl) ?_
  (repeat' (first | apply zan | apply zac | (apply O_at; rfl) | (apply zag; rfl) | apply zah | (apply zaD; rfl; rfl; rfl; rfl; exact zaO rfl; (focus repeat' first | exact zaa | assumption | apply zab | (apply Ext.get; assumption) | (apply ExtBut.get; assumption; (first | assumption | omega | (simp only [Heap.push]; omega)))); (first | exact Nat.le_of_ble_eq_true rfl | (simp; done) | (simp; omega) | (rw [zaj]; omega)); rfl) | (apply zaI; rfl; rfl; rfl; rfl; exact zak rfl; rfl; rfl) | fail))
  apply zaf; rfl; rfl; rfl; rfl; rfl; rfl; exact zgd hK (c := ⟨1, ⟨some ⟨b, 0, none⟩, k, t⟩⟩) (hc'.ext (by (focus repeat' first | exact Ext.refl _ | assumption | apply Ext.push | (refine Ext.trans ?_ (by assumption))))) hP hn
  rintro _ h2 ⟨hx2, bz, rfl, hbz, hit⟩
  (repeat' (first | (apply zag; rfl) | apply zah | apply zav | apply zar | fail))
  refine .inr ⟨rfl, 134, #[], #[.pointer (some ⟨bz, 0, none⟩)], rfl, rfl, fun tm l hb hE hle hxb hbn hlb hdb => ?_⟩
  have hx : Ext h h2 := ((Ext.refl h).push _ |>.push _).trans hx2
  have p0 := hx2.get (zab (zaa (h := h) (b := .cells (Value.pointer (some ⟨s, 0, none⟩)).cells.toList 88 true)))
  have p1 := hx2.get (zaa (h := h.push (.cells (Value.pointer (some ⟨s, 0, none⟩)).cells.toList 88 true)) (b := .cells (Value.agg #[.int .i64 1, .slice (some ⟨b, 0, none⟩) t.length k]).cells.toList 37 true))
  have hn2 : h.n + 2 ≤ h2.n := hx2.n
  have hbz' : h.n + 2 ≤ bz := hbz
  refine (Iter.loop hit (hb := hb) (fun b x _ g => hxb.get g) hxb.n (by omega)
    (fun (seen : List Int) D h' => (∀ b, D b ↔ b = r) ∧ MapB h' r (readF f (1, t) seen)) (fun b => b = r)
    (fun seen D a b ⟨f, m⟩ k n => ⟨f, m.keep fun q g => k r q ((f r).2 rfl) g⟩) (fun seen D a ⟨f, m⟩ b q => by rw [(f b).1 q]; exact m.lt) ?_ ?_ ?_).mono ?_
  · exact ⟨fun b => Iff.rfl, (hrd.ext (hx.trans hxb)).to fun q => by unfold readF; rw [if_neg (by simp)]⟩
  · intro b q w; omega
  · intro seen a D1 h' v _ hv ⟨hD, hm⟩ hD1 hkeep hn'
    have hl2 := hkeep l _ (by omega) hlb
    unfold ValI at hv
    subst hv
    refine round_of (N := 26) hl2 rfl (EnvOK.param hE rfl) ?_
    (repeat' (first | apply zac | (apply O_at; rfl) | (apply zag; rfl) | apply zar | ((first | apply zae | apply zad); rfl; rfl; rfl; rfl) | fail))
    refine ⟨rfl, hl2, fun Bz hs hsl' hsk hsn => ?_⟩
    have old : ∀ {b : Nat} {x : Blk}, b ≠ r → h2.get? b = some x → hs.get? b = some x := fun q g =>
      hsk _ _ (by have := Heap.get_lt g; omega) (hkeep _ _ q (hxb.get g))
    have q0 := old (by omega) p0
    have q1 := old (by show h.n + 1 ≠ r; omega) p1
    have q2 := old (by omega) (hx.get hg)
    have q3 := old n3 (hx.get box)
    have q4 : MapB hs r (readF f (1, t) seen) := hm.keep fun q g => hsk _ _ (by omega) g
    (repeat' (first | apply zan | apply zac | (apply O_at; rfl) | (apply zag; rfl) | apply zah | apply zaq | ((first | apply zae | apply zad); rfl; rfl; rfl; rfl) | (apply P_fa; rfl; rfl; rfl; rfl; exact zaw rfl; (first | exact Nat.zero_add _ | exact Nat.add_zero _ | rfl)) | (apply zbe; rfl; rfl; rfl; rfl; rfl; rfl; exact zau rfl) | (apply zam; rfl; rfl; rfl; rfl; exact zas rfl; (focus repeat' first | exact zaa | assumption | apply zab | (apply Ext.get; assumption) | (apply ExtBut.get; assumption; (first | assumption | omega | (simp only [Heap.push]; omega)))); (first | exact zal (by omega) | rfl | assumption)) | (apply zlI; rfl; rfl; rfl; rfl; rfl; exact zau rfl; exact zak rfl; (first | assumption | exact zq2 | rfl | exact (Int.toNat_of_nonneg (by omega)).symm); omega; omega; omega; (intro _)) | fail))
    rename_i cap'
    refine zbb (fun i : Nat => [(14, .int .i64 (i : Nat)), (13, .int .i64 2), (12, .slice (some ⟨b, 0, none⟩) 2 cap'), (4, .int .i64 a), (2, .pointer (some ⟨h.n, 0, none⟩))])
      (fun i h' => i ≤ 2 ∧ MapB h' r (fun q => if q.1 = a ∧ ((0 < i ∧ t.getD 0 0 = q.2) ∨ (1 < i ∧ t.getD 1 0 = q.2)) then true else readF f (1, t) seen q) ∧ ExtBut r hs h') (fun i => 2 - i) ?_ 0 ?_ ?_
    · intro i h3 ⟨hi, hm3, hx3⟩ ih
      have w0 := hx3.get (by omega) q0
      have w2 := hx3.get nb q2
      have w3 := hx3.get n3 q3
      by_cases hlt : i < 2
      · have hil : i < t.length := by omega
        (repeat' (first | apply zan | apply zac | (apply O_at; rfl) | (apply zag; rfl) | apply zah | (apply zbc; rfl) | apply zaq | apply zav | apply zaN | ((first | apply zae | apply zad); rfl; rfl; rfl; rfl) | (apply P_fa; rfl; rfl; rfl; rfl; exact zaw rfl; (first | exact Nat.zero_add _ | exact Nat.add_zero _ | rfl)) | (apply zbq; rfl; rfl; rfl; rfl; rfl; omega) | (apply zcb; rfl; rfl; rfl; rfl; rfl; (unfold fit; omega)) | (apply zcp; rfl; rfl; rfl; rfl; rfl; exact zau rfl; exact zak rfl; (first | assumption | exact zq2 | rfl | exact (Int.toNat_of_nonneg (by omega)).symm); omega) | (apply zam; rfl; rfl; rfl; rfl; exact zas rfl; (focus repeat' first | exact zaa | assumption | apply zab | (apply Ext.get; assumption) | (apply ExtBut.get; assumption; (first | assumption | omega | (simp only [Heap.push]; omega)))); (first | exact zal (by omega) | rfl | assumption)) | (apply zdm; rfl; rfl; rfl; rfl) | (apply zeC; rfl; rfl; rfl; rfl) | (apply zgV; rfl; rfl; rfl; rfl; rfl; exact mapB85; (first | assumption | (apply MapB.ext; assumption; (focus repeat' first | exact Ext.refl _ | assumption | apply Ext.push | (refine Ext.trans ?_ (by assumption))))); (intro _ _ _)) | fail))
        rename_i h4 m4 x4
        refine za1 (ih (i + 1) _ (by omega) ⟨by omega, m4.to fun q => ?_, hx3.trans x4⟩) (by (focus repeat' first | rfl | exact trivial | apply And.intro))
        obtain ⟨y1, y2⟩ := q
        simp only [Prod.mk.injEq]
        rcases (show i = 0 ∨ i = 1 by omega) with rfl | rfl
        · by_cases e1 : y1 = a ∧ y2 = t.getD 0 0
          · rw [if_pos e1, if_pos ⟨e1.1, .inl ⟨by omega, e1.2.symm⟩⟩]
          · rw [if_neg e1, if_neg (by omega), if_neg (by omega)]
        · by_cases e1 : y1 = a ∧ y2 = t.getD 1 0
          · rw [if_pos e1, if_pos ⟨e1.1, .inr ⟨by omega, e1.2.symm⟩⟩]
          · rw [if_neg e1]
            by_cases e2 : y1 = a ∧ ((0 < 1 ∧ t.getD 0 0 = y2) ∨ (1 < 1 ∧ t.getD 1 0 = y2))
            · rw [if_pos e2, if_pos ⟨e2.1, .inl ⟨by omega, by omega⟩⟩]
            · rw [if_neg e2, if_neg (by omega)]
      · obtain rfl : i = 2 := by omega
        (repeat' (first | apply zan | apply zac | (apply O_at; rfl) | (apply zag; rfl) | apply zah | (apply zaG; rfl) | apply zbk | apply zbl | apply za5 | apply za6 | apply zaN | apply zar | (apply zbE; rfl; rfl; rfl; rfl; rfl; omega) | fail))
        refine ⟨rfl, hx3.get (by omega) hsl', fun hf hfl hfk hfn => ⟨D1, ⟨hD, ?_⟩, fun b q => .inl q, fun y x w g => ?_, ?_⟩⟩
        · refine (hm3.keep fun q g => hfk _ _ (by omega) g).to fun q => ?_
          unfold readF inPair
          dsimp only
          simp only [List.mem_append, List.mem_singleton]
          by_cases e1 : q.1 = a ∧ ((0 < 2 ∧ t.getD 0 0 = q.2) ∨ (1 < 2 ∧ t.getD 1 0 = q.2))
          · rw [if_pos e1, if_pos ⟨.inr e1.1, by omega⟩]
          · rw [if_neg e1]
            by_cases e2 : q.1 ∈ seen ∧ (t.getD 0 0 = q.2 ∨ t.getD 1 0 = q.2)
            · rw [if_pos e2, if_pos ⟨.inl e2.1, e2.2⟩]
            · rw [if_neg e2, if_neg]
              rintro ⟨y | y, w⟩
              · exact e2 ⟨y, w⟩
              · exact e1 ⟨y, by omega⟩
        · have hyr : y ≠ r := fun q => w ((hD y).2 q)
          by_cases hyl : y = l
          · subst hyl
            rw [hl2] at g
            cases g
            exact hfl
          · exact hfk _ _ hyl (hx3.get hyr (hsk _ _ hyl g))
        · have := hx3.n; omega
    · exact ⟨Nat.zero_le _, q4.to fun q => by rw [if_neg (by omega)], ExtBut.refl _ _⟩
    · (focus repeat' first | rfl | exact trivial | apply And.intro)
  · rintro _ h3 ⟨D3, ⟨hD3, hm3⟩, _, hk3, hn3⟩
    refine ⟨hk3 l _ (by omega) hlb, fun h4 hk4 hn4 => ?_⟩
    (repeat' (first | apply zav | apply zar | fail))
    have al : ∀ {h5 : Heap}, (∀ b x, b ≠ h2.n → h4.get? b = some x → h5.get? b = some x) → ∀ b x, b ≠ r → h.get? b = some x → h5.get? b = some x := fun hk5 b x q g =>
      hk5 _ _ (by have := Heap.get_lt g; omega) (hk4 _ _ (by have := Heap.get_lt g; omega) (hk3 _ _ q (hxb.get (hx.get g))))
    refine ⟨.inl rfl, hk4 _ _ (by omega) (hk3 _ _ (by omega) hdb), fun h5 hk5 hn5 => ⟨_, rfl, ⟨al hk5 _ _ n3 box, al hk5 _ _ n5 nums, al hk5 _ _ n6 sets, hm3.keep fun q g => hk5 _ _ (by omega) (hk4 _ _ (by omega) g), nl, sl⟩, ?_, fun b x _ _ w g => al hk5 b x w g⟩⟩
    omega
end Go.AX.Sa

namespace Go.AX.Sa
open Go.Proofs
set_option maxRecDepth 100000
variable {K : Known}
/-- What an entry makes of what stands. -/
structure StL (G : Pg) (L : List Ent) (s bn bs r : Nat) (h : Heap) : Prop where
  st : ∃ f, StB G (numsL G L) (setsL G L) f s bn bs r h ∧ ∀ q : Int × Int, 0 ≤ q.2 → q.2 < G.people → f q = hrdF L q
theorem ziB (hK : NoK K) {G : Pg} {L : List Ent} {s bn bs r : Nat} {c : Cop} {h : Heap} (hS : StL G L s bn bs r h) (hns : bn ≠ bs) (hp : 2 ≤ G.people ∧ G.people ≤ 6) (hn : G.n ≤ 1000) (hc : RowIn c.r h) (hP : EntP G.people G.n (ent c)) (hN : ∀ j, j < G.n → NumP (numA G L j)) :
    CallW Tryz.prog K 105 #[.pointer (some ⟨s, 0, none⟩), enV c] h (fun _ h1 => StL G (L ++ [ent c]) s bn bs r h1 ∧ Keep3 bn bs r h h1) := by
  obtain ⟨f, hS, hf⟩ := hS
  have hcb := hc.b
  have hP' := hP
  obtain ⟨par, ⟨q, k, t⟩⟩ := c
  dsimp only [enV, ent] at hP hcb ⊢
  refine body (N := 14) Tryz.func105 rfl (hK _ _ _ rfl) rfl rfl ?_
  rcases ent0 hP with h1 | h1 | h1
  · dsimp only at h1
    subst h1
    (repeat' (first | apply zan | apply zac | (apply O_at; rfl) | (apply N_at; rfl) | (apply zag; rfl) | apply zah | (apply zbh; exact zaz (by decide +kernel)) | (apply zaL; rfl; rfl; rfl; rfl; exact zak rfl; rfl; rfl; rfl) | (apply zdn; rfl; rfl; rfl; rfl) | (apply zaI; rfl; rfl; rfl; rfl; exact zak rfl; rfl; rfl) | (apply zbi; rfl; rfl; rfl; rfl; exact zak rfl; rfl; rfl) | (apply zaY; rfl; rfl; rfl; rfl) | (apply M_fa; rfl; rfl; rfl; rfl; exact zaw rfl; (first | exact Nat.zero_add _ | exact Nat.add_zero _ | rfl)) | (apply M_sub; rfl; rfl; rfl; rfl; rfl; (unfold fit; omega)) | ((first | ((apply zbp; rfl; rfl; rfl; rfl; exact zas rfl; exact zaK (by decide +kernel)); (focus repeat' first | exact zaa | assumption | apply zab); (first | rfl | assumption)) | ((apply zdR; rfl; rfl; rfl; rfl; exact zaO rfl; exact zaK (by decide +kernel)); (focus repeat' first | exact zaa | assumption | apply zab); (first | exact Nat.le_of_ble_eq_true rfl | (simp; done) | (simp; omega)); rfl)); (first | assumption | exact zaQ _ _ | exact zcE _ _ _ _ | rfl | (focus simp [same, same.all2]; done)); (first | rfl | assumption | exact hwv _ | exact zbr (by assumption) (by (focus repeat' first | exact Ext.refl _ | assumption | apply Ext.push)) | (simp [within]; omega))) | (apply zlS; rfl; rfl; rfl; rfl; rfl; exact ar_ok rfl; exact zak rfl; (first | assumption | exact zq0 | exact zq1 | exact zq2 | rfl | exact (Int.toNat_of_nonneg (by omega)).symm); omega) | fail))
    apply zaM; rfl; rfl; rfl; rfl; rfl; rfl; rfl; exact read_ok hK (c := ⟨1, ⟨q, k, t⟩⟩) (hS.ext (by (focus repeat' first | exact Ext.refl _ | assumption | apply Ext.push))) hns hn (hc.ext (by (focus repeat' first | exact Ext.refl _ | assumption | apply Ext.push))) hP' rfl
    rintro _ h2 ⟨S2, k2⟩
    (repeat' (first | (apply zbN; rfl; refine .inr ?_; (focus repeat' first | exact trivial | apply And.intro | rfl)) | apply zar | fail))
    refine ⟨.inl rfl, _, rfl, ⟨_, by rw [zkW rfl, ze0 (by simp)]; exact S2, fun y y0 y1 => ?_⟩, (Keep3.of (by (focus repeat' first | exact Ext.refl _ | assumption | apply Ext.push))).trans k2⟩
    rw [zc1, hrdS, if_neg (fun u => u.elim (fun w => absurd w.1 (by simp)) fun w => absurd w.1 (by simp))]
    unfold readF
    rw [hf y y0 y1]
    simp only [rdL_mem, ent]
  · dsimp only at h1
    subst h1
    have z := ent2.1 hP
    obtain ⟨j, hj⟩ : ∃ j : Nat, t.getD 1 0 = (j : Nat) := ⟨(t.getD 1 0).toNat, by omega⟩
    have hjn : j < G.n := by omega
    (repeat' (first | apply zan | apply zac | (apply O_at; rfl) | (apply N_at; rfl) | (apply zag; rfl) | apply zah | (apply zbh; exact zaz (by decide +kernel)) | (apply zaL; rfl; rfl; rfl; rfl; exact zak rfl; rfl; rfl; rfl) | (apply zdn; rfl; rfl; rfl; rfl) | (apply zaI; rfl; rfl; rfl; rfl; exact zak rfl; rfl; rfl) | (apply zbi; rfl; rfl; rfl; rfl; exact zak rfl; rfl; rfl) | (apply zaY; rfl; rfl; rfl; rfl) | (apply M_fa; rfl; rfl; rfl; rfl; exact zaw rfl; (first | exact Nat.zero_add _ | exact Nat.add_zero _ | rfl)) | (apply M_sub; rfl; rfl; rfl; rfl; rfl; (unfold fit; omega)) | ((first | ((apply zbp; rfl; rfl; rfl; rfl; exact zas rfl; exact zaK (by decide +kernel)); (focus repeat' first | exact zaa | assumption | apply zab); (first | rfl | assumption)) | ((apply zdR; rfl; rfl; rfl; rfl; exact zaO rfl; exact zaK (by decide +kernel)); (focus repeat' first | exact zaa | assumption | apply zab); (first | exact Nat.le_of_ble_eq_true rfl | (simp; done) | (simp; omega)); rfl)); (first | assumption | exact zaQ _ _ | exact zcE _ _ _ _ | rfl | (focus simp [same, same.all2]; done)); (first | rfl | assumption | exact hwv _ | exact zbr (by assumption) (by (focus repeat' first | exact Ext.refl _ | assumption | apply Ext.push)) | (simp [within]; omega))) | (apply zlS; rfl; rfl; rfl; rfl; rfl; exact ar_ok rfl; exact zak rfl; (first | assumption | exact zq0 | exact zq1 | exact zq2 | rfl | exact (Int.toNat_of_nonneg (by omega)).symm); omega) | fail))
    apply zaM; rfl; rfl; rfl; rfl; rfl; rfl; rfl; exact mend_ok hK (c := ⟨2, ⟨q, k, t⟩⟩) (hS.ext (by (focus repeat' first | exact Ext.refl _ | assumption | apply Ext.push))) hns hp hn (hc.ext (by (focus repeat' first | exact Ext.refl _ | assumption | apply Ext.push))) z.1 hj hjn
    rintro _ h2 ⟨S2, k2⟩
    (repeat' (first | (apply zbN; rfl; refine .inr ?_; (focus repeat' first | exact trivial | apply And.intro | rfl)) | apply zar | fail))
    refine ⟨.inl rfl, _, rfl, ⟨_, by rw [zkX (e := (2, t)) rfl hj hjn, zkm (e := (2, t)) rfl hj hjn]; exact S2, fun y y0 y1 => ?_⟩, (Keep3.of (by (focus repeat' first | exact Ext.refl _ | assumption | apply Ext.push))).trans k2⟩
    rw [zc1, hrdS]
    unfold keepCh
    by_cases hy : y.1 = (j : Nat)
    · rw [if_pos ⟨hy, y0, y1⟩, if_pos (.inl ⟨rfl, hj.trans hy.symm⟩)]
    · rw [if_neg (fun w => hy w.1), if_neg (fun u => u.elim (fun w => hy (w.2.symm.trans hj)) fun w => absurd w.1 (by simp)), if_neg (fun w => absurd w.1.1 (by simp))]
      exact hf y y0 y1
  · dsimp only at h1
    subst h1
    have z := ent3.1 hP
    obtain ⟨j, hj⟩ : ∃ j : Nat, t.getD 0 0 = (j : Nat) := ⟨(t.getD 0 0).toNat, by omega⟩
    have hjn : j < G.n := by omega
    (repeat' (first | apply zan | apply zac | (apply O_at; rfl) | (apply N_at; rfl) | (apply zag; rfl) | apply zah | (apply zbh; exact zaz (by decide +kernel)) | (apply zaL; rfl; rfl; rfl; rfl; exact zak rfl; rfl; rfl; rfl) | (apply zdn; rfl; rfl; rfl; rfl) | (apply zaI; rfl; rfl; rfl; rfl; exact zak rfl; rfl; rfl) | (apply zbi; rfl; rfl; rfl; rfl; exact zak rfl; rfl; rfl) | (apply zaY; rfl; rfl; rfl; rfl) | (apply M_fa; rfl; rfl; rfl; rfl; exact zaw rfl; (first | exact Nat.zero_add _ | exact Nat.add_zero _ | rfl)) | (apply M_sub; rfl; rfl; rfl; rfl; rfl; (unfold fit; omega)) | ((first | ((apply zbp; rfl; rfl; rfl; rfl; exact zas rfl; exact zaK (by decide +kernel)); (focus repeat' first | exact zaa | assumption | apply zab); (first | rfl | assumption)) | ((apply zdR; rfl; rfl; rfl; rfl; exact zaO rfl; exact zaK (by decide +kernel)); (focus repeat' first | exact zaa | assumption | apply zab); (first | exact Nat.le_of_ble_eq_true rfl | (simp; done) | (simp; omega)); rfl)); (first | assumption | exact zaQ _ _ | exact zcE _ _ _ _ | rfl | (focus simp [same, same.all2]; done)); (first | rfl | assumption | exact hwv _ | exact zbr (by assumption) (by (focus repeat' first | exact Ext.refl _ | assumption | apply Ext.push)) | (simp [within]; omega))) | (apply zlS; rfl; rfl; rfl; rfl; rfl; exact ar_ok rfl; exact zak rfl; (first | assumption | exact zq0 | exact zq1 | exact zq2 | rfl | exact (Int.toNat_of_nonneg (by omega)).symm); omega) | fail))
    apply zaM; rfl; rfl; rfl; rfl; rfl; rfl; rfl; exact fall_ok hK (c := ⟨3, ⟨q, k, t⟩⟩) (hS.ext (by (focus repeat' first | exact Ext.refl _ | assumption | apply Ext.push))) hns hp hn (hc.ext (by (focus repeat' first | exact Ext.refl _ | assumption | apply Ext.push))) z.1 hj hjn (by rw [zct hjn]; exact hN j hjn)
    rintro _ h2 ⟨S2, k2⟩
    rw [zct hjn] at S2
    (repeat' (first | (apply zbN; rfl; refine .inr ?_; (focus repeat' first | exact trivial | apply And.intro | rfl)) | apply zar | fail))
    refine ⟨.inl rfl, _, rfl, ⟨_, by rw [zkY (e := (3, t)) rfl hj hjn, ze0 (by simp)]; exact S2, fun y y0 y1 => ?_⟩, (Keep3.of (by (focus repeat' first | exact Ext.refl _ | assumption | apply Ext.push))).trans k2⟩
    rw [zc1, hrdS]
    unfold keepCh
    by_cases hy : y.1 = (j : Nat)
    · rw [if_pos ⟨hy, y0, y1⟩, if_pos (.inr ⟨rfl, hj.trans hy.symm⟩)]
    · rw [if_neg (fun w => hy w.1), if_neg (fun u => u.elim (fun w => absurd w.1 (by simp)) fun w => hy (w.2.symm.trans hj)), if_neg (fun w => absurd w.1.1 (by simp))]
      exact hf y y0 y1
end Go.AX.Sa

namespace Go.AX.Sa
open Go.Proofs
set_option maxRecDepth 100000
/-! Lists that grow beside each other. -/
/-- The value reads as this list and lies in this block alone. -/
def Own (h : Heap) (v : Value) (l : List Int) (b : Nat) : Prop := (v = .slice none 0 0 ∧ l = []) ∨ (l ≠ [] ∧ v = .slice (some ⟨b, 0, none⟩) l.length unk ∧ h.get? b = some (.cells (ints l) 3 true))
theorem Own.ext {h h1 : Heap} {v : Value} {l : List Int} {b : Nat} (o : Own h v l b) (x : Ext h h1) : Own h1 v l b := o.imp id fun q => ⟨q.1, q.2.1, x.get q.2.2⟩
theorem Own.but {h h1 : Heap} {v : Value} {l : List Int} {b c : Nat} (o : Own h v l b) (x : ExtBut c h h1) (hne : b ≠ c) : Own h1 v l b := o.imp id fun q => ⟨q.1, q.2.1, x.get hne q.2.2⟩
/-- What stays when a list in this block grows. -/
structure KeptX (l : List Int) (b : Nat) (h h1 : Heap) : Prop where
  n : h1.n = h.n + 1
  get' : ∀ c y, (l = [] ∨ c ≠ b) → h.get? c = some y → h1.get? c = some y
theorem Own.kept {h h1 : Heap} {v : Value} {l l' : List Int} {b b' : Nat} (o : Own h v l b) (x : KeptX l' b' h h1) (hne : l' = [] ∨ b ≠ b') : Own h1 v l b := by
  rcases o with o | ⟨o0, o1, o2⟩
  · exact .inl o
  · rcases hne with hn | hn
    · exact .inr ⟨o0, o1, x.get' _ _ (.inl hn) o2⟩
    · exact .inr ⟨o0, o1, x.get' _ _ (.inr hn) o2⟩
theorem Own.one {h : Heap} {v : Value} {l : List Int} {b : Nat} (o : Own h v l b) : oneB v = true ∧ v.cells = #[v] := by
  rcases o with ⟨rfl, _⟩ | ⟨_, rfl, _⟩ <;> exact ⟨rfl, rfl⟩
theorem Own.same {h : Heap} {v : Value} {l : List Int} {b : Nat} (o : Own h v l b) : AX.same 20 v v = true := by
  rcases o with ⟨rfl, _⟩ | ⟨_, rfl, _⟩ <;> simp [AX.same]
theorem Own.within {h : Heap} {v : Value} {l : List Int} {b : Nat} (o : Own h v l b) {m : Nat} (hm : h.n ≤ m) : AX.within 20 m v = true := by
  rcases o with ⟨rfl, _⟩ | ⟨_, rfl, g⟩
  · rfl
  · have := Heap.get_lt g
    simp [AX.within]; omega
section
variable {P : Program} {K : Known} {x : Ctx} {N : Nat} {E : Env} {h : Heap} {ops : Array Oper} {F : Ex → Env → Heap → Prop} {i : Nat} {Hs : List Heap} {L : List Heap → Prop} {nw : List (Nat × Nat × Blk)}
variable {d : Nat} {ty : TypeId} {pos : String} {af : Array Edge} {g : Option (Nat × Bool)}
theorem own_app {ts : Array TypeId} {t t' e' : TypeId} {by_ cap bv : Nat} {e0 : TypeId} {own : Bool} {n : Int} {v : Value} {l : List Int} (h0' : ts[0]? = some t) (h1' : ts[1]? = some t') (hc : cell1 P t = some 3) (hc' : P.underlying t' = some (.slice e'))
    (hy : h.get? by_ = some (.cells [.int .i64 n] e0 own)) (ho : Own h v l bv) (hle : l.length ≤ 10000) : ∃ v' h1, appendB P h ts v (.slice (some ⟨by_, 0, none⟩) 1 cap) = some (v', h1) ∧ Own h1 v' (l ++ [n]) h.n ∧ KeptX l bv h h1 := by
  rcases ho with ⟨rfl, rfl⟩ | ⟨hne0, rfl, h2⟩
  · exact ⟨_, _, zlD h0' h1' hc hc' hy rfl (by omega) (by omega) rfl, .inr ⟨by simp, rfl, zaa⟩, ⟨rfl, fun _ _ _ g => zab g⟩⟩
  · refine ⟨_, _, zlC h0' h1' hc hc' hy rfl (by omega) (by omega) rfl h2 (zaj _), .inr ⟨by simp, by simp, ?_⟩, ⟨rfl, fun c y hne q => ?_⟩⟩
    · have : (h.set bv .dead).n = h.n := rfl
      rw [← this, show ints (l ++ [n]) = ints l ++ [Value.int .i64 n] from (AX.ints_app l [n]).symm]
      exact zaa
    · by_cases hb : c = bv
      · subst hb
        rcases hne with hn | hn
        · exact absurd hn hne0
        · exact absurd rfl hn
      · exact zab (zaA h2 hb q)
theorem appOwnM {args : Array Operand} {ts : Array TypeId} {t t' e' : TypeId} {a b : Operand} {by_ cap bv : Nat} {e0 : TypeId} {own : Bool} {n : Int} {v : Value} {l : List Int} (hN : Nat.blt d N = true) (hg : gval ops E g = some true) (hk : opsOK P ⟨some d, .call ⟨.builtin .append, args, ts⟩, ty, pos, af, g⟩ = true) (hargs : args.toList = [a, b])
    (ha : E.ev a = some v) (hb : E.ev b = some (.slice (some ⟨by_, 0, none⟩) 1 cap)) (h0' : ts[0]? = some t) (h1' : ts[1]? = some t') (hc : cell1 P t = some 3) (hc' : P.underlying t' = some (.slice e'))
    (hy : h.get? by_ = some (.cells [.int .i64 n] e0 own)) (ho : Own h v l bv) (hle : l.length ≤ 10000) (hnw : unseen (preds ops.toList) nw i = [])
    (k : ∀ v' h1, Own h1 v' (l ++ [n]) h.n → KeptX l bv h h1 → S1 P K x N ops F (i + 1) ((d, v') :: E) h1 (h1 :: Hs) L nw) : S2 P K x N ops F i ⟨some d, .call ⟨.builtin .append, args, ts⟩, ty, pos, af, g⟩ E h Hs L nw := by
  obtain ⟨v', h1, e, o, q⟩ := own_app (P := P) (e' := e') h0' h1' hc hc' hy ho hle
  exact ziV hN hg hk hargs ha hb e hnw (k v' h1 o q)
end
variable {K : Known}
def sets0 (G : Pg) (k : Nat) : List Int := (List.range k).map (sett G)
def setr0 (G : Pg) (k : Nat) : List Int := (List.range k).map (setr G)
theorem zje (G : Pg) (k : Nat) : sets0 G (k + 1) = sets0 G k ++ [sett G k] := by simp [sets0, List.range_succ]
theorem zjf (G : Pg) (k : Nat) : setr0 G (k + 1) = setr0 G k ++ [setr G k] := by simp [setr0, List.range_succ]
theorem zdW (G : Pg) (k : Nat) : (sets0 G k).length = k := by simp [sets0]
theorem zdX (G : Pg) (k : Nat) : (setr0 G k).length = k := by simp [setr0]
theorem zlB (hK : NoK K) {G : Pg} {h : Heap} (hT : PgAt G h) (hn : 0 < G.n ∧ G.n ≤ 1000) :
    CallW Tryz.prog K 104 #[pgV G] h (fun v h1 => ∃ s bn bs r, v = .pointer (some ⟨s, 0, none⟩) ∧ StL G [] s bn bs r h1 ∧ bn ≠ bs ∧ (h.n ≤ s ∧ h.n ≤ bn ∧ h.n ≤ bs ∧ h.n ≤ r) ∧ Ext h h1) := by
  obtain ⟨people, pl, kl, n, l, p, kc, c'⟩ := G
  obtain ⟨len, rl, rc, each, hbl, hpb⟩ := hT
  dsimp only [pgV] at len rl rc each hbl hpb hn ⊢
  obtain ⟨b, e, own, rfl, hg⟩ := rl.at (by rw [zaj]; omega)
  have hbl' := Heap.get_lt hg
  refine body (N := 41) Tryz.func104 rfl (hK _ _ _ rfl) rfl rfl ?_
  (repeat' (first | apply zan | apply zac | (apply O_at; rfl) | (apply zag; rfl) | apply zah | apply zaq | ((first | apply zae | apply zad | apply zaY); rfl; rfl; rfl; rfl) | ((first | apply P_fa | apply M_fa); rfl; rfl; rfl; rfl; exact zaw rfl; (first | exact Nat.zero_add _ | exact Nat.add_zero _ | rfl)) | (apply zbe; rfl; rfl; rfl; rfl; rfl; rfl; exact zau rfl) | (apply zam; rfl; rfl; rfl; rfl; exact zas rfl; (focus repeat' first | exact zaa | assumption | apply zab | (apply Ext.get; assumption) | (apply ExtBut.get; assumption; (first | assumption | omega | (simp only [Heap.push]; omega)))); (first | rfl | assumption)) | (apply zaD; rfl; rfl; rfl; rfl; exact zaO rfl; (focus repeat' first | exact zaa | assumption | apply zab | (apply Ext.get; assumption) | (apply ExtBut.get; assumption; (first | assumption | omega | (simp only [Heap.push]; omega)))); (first | exact Nat.le_of_ble_eq_true rfl | (simp; done) | (simp; omega) | (rw [zaj]; omega)); (first | exact zbB (by omega) | rfl)) | (apply zjT; rfl; rfl; rfl; rfl) | (apply zaI; rfl; rfl; rfl; rfl; exact zak rfl; rfl; rfl) | (apply zjQ; rfl; rfl; rfl; (intro _ _ _ _)) | fail))
  rename_i h1 m1 x1 e1
  have hs1 : h1.n = h.n + 2 := e1
  refine zbb (fun a : Nat × Value × Nat × Value × Nat => [(13, .int .i64 (a.1 : Nat)), (12, .int .i64 (n : Nat)), (11, .slice (some ⟨b, 0, none⟩) n kl), (3, .pointer (some ⟨h1.n, 0, none⟩)), (1, .pointer (some ⟨h.n, 0, none⟩))])
    (fun a h' => a.1 ≤ n ∧ Ext h h' ∧ h.n + 3 ≤ h'.n ∧ h'.get? h1.n = some (.cells [.int .i64 people, .slice (some ⟨b, 0, none⟩) n kl, .slice p c'.length kc, a.2.1, a.2.2.2.1, .map (some (h.n + 1))] 87 true) ∧
      Own h' a.2.1 (sets0 ⟨people, some ⟨b, 0, none⟩, kl, n, l, p, kc, c'⟩ a.1) a.2.2.1 ∧ Own h' a.2.2.2.1 (setr0 ⟨people, some ⟨b, 0, none⟩, kl, n, l, p, kc, c'⟩ a.1) a.2.2.2.2 ∧ MapB h' (h.n + 1) (fun _ => false) ∧
      (a.1 = 0 ∨ (a.2.2.1 ≠ a.2.2.2.2 ∧ h.n + 3 ≤ a.2.2.1 ∧ h.n + 3 ≤ a.2.2.2.2 ∧ a.2.2.1 < h'.n ∧ a.2.2.2.2 < h'.n))) (fun a => n - a.1) ?_ (0, (.slice none 0 0), 0, (.slice none 0 0), 0) ?_ ?_
  · rintro ⟨k, vN, bN, vS, bS⟩ h' ⟨hk, hx, hn1, g1, oN, oS, m, hd⟩ ih
    dsimp only at hk hx hn1 g1 oN oS m hd ih ⊢
    by_cases hlt : k < n
    · have hg' := hx.get hg
      have sN := oN.same
      have hwv : ∀ q, AX.within 20 (h'.push q).n vN = true := fun q => oN.within (Nat.le_succ _)
      (repeat' (first | apply zan | apply zac | (apply O_at; rfl) | (apply N_at; rfl) | (apply zag; rfl) | apply zah | (apply zbc; rfl) | (apply zbh; exact zaz (by decide +kernel)) | apply zaq | apply zav | ((first | apply zae | apply zad | apply zaY); rfl; rfl; rfl; rfl) | ((first | apply P_fa | apply M_fa); rfl; rfl; rfl; rfl; exact zaw rfl; (first | exact Nat.zero_add _ | exact Nat.add_zero _ | rfl)) | (apply zbq; rfl; rfl; rfl; rfl; rfl; omega) | (apply zeD; rfl; rfl; rfl; rfl; rfl; exact zau rfl; exact zak rfl; (first | assumption | rfl | exact (Int.toNat_of_nonneg (by omega)).symm); omega) | (apply zaD; rfl; rfl; rfl; rfl; exact zaO rfl; (focus repeat' first | exact zaa | assumption | apply zab | (apply Ext.get; assumption) | (apply ExtBut.get; assumption; (first | assumption | omega | (simp only [Heap.push]; omega)))); (first | exact Nat.le_of_ble_eq_true rfl | (simp; done) | (simp; omega) | (rw [zaj]; omega)); (first | exact zbB (by omega) | rfl)) | (apply zaL; rfl; rfl; rfl; rfl; exact zak rfl; rfl; rfl; rfl) | (apply zbi; rfl; rfl; rfl; rfl; exact zak rfl; rfl; rfl) | (apply ziU; rfl; rfl; rfl; rfl; rfl; rfl; rfl; exact zeT rfl) | (((apply zbp; rfl; rfl; rfl; rfl; exact zas rfl; exact zaK (by decide +kernel)); (focus repeat' first | exact zaa | assumption | apply zab | (apply Ext.get; assumption) | (apply ExtBut.get; assumption; (first | assumption | omega | (simp only [Heap.push]; omega)))); (first | rfl | assumption)); (first | assumption | exact zaQ _ _ | rfl | (focus simp [same, same.all2]; done)); (first | rfl | assumption | exact hwv _ | (simp [within]; omega))) | (apply M_nil; rfl; rfl; rfl; rfl) | fail))
      apply appOwnM; rfl; rfl; rfl; rfl; rfl; rfl; rfl; rfl; exact zeT rfl; exact zau rfl; exact zaa; exact oN.ext (by (focus repeat' first | exact Ext.refl _ | assumption | apply Ext.push | (refine Ext.trans ?_ (by assumption)))); exact (by rw [zdW]; omega); rfl
      intro v2 h2 o2 k2
      have n2 : h2.n = h'.n + 3 := k2.n
      have nk : ∀ {c : Nat}, c < h.n + 3 → (sets0 ⟨people, some ⟨b, 0, none⟩, kl, n, l, p, kc, c'⟩ k = [] ∨ c ≠ bN) := fun hc => by
        rcases hd with rfl | hd
        · exact .inl rfl
        · exact .inr (by omega)
      have nS : sets0 ⟨people, some ⟨b, 0, none⟩, kl, n, l, p, kc, c'⟩ k = [] ∨ bS ≠ bN := by
        rcases hd with rfl | hd
        · exact .inl rfl
        · exact .inr (fun q => hd.1 q.symm)
      have old2 : ∀ {c y}, c < h.n + 3 → h'.get? c = some y → h2.get? c = some y := fun hc g => k2.get' _ _ (nk hc) (zab (zab g))
      have oS2 : Own h2 vS (setr0 ⟨people, some ⟨b, 0, none⟩, kl, n, l, p, kc, c'⟩ k) bS := (oS.ext (((Ext.refl h').push _).push _)).kept k2 nS
      have ln2 := k2.get' h'.n _ (by rcases hd with rfl | hd; exact .inl rfl; exact .inr (by omega)) (zab (zaa (h := h') (b := .cells (Value.agg #[.int .i64 (l.getD (k * 3) 0), .int .i64 (l.getD (k * 3 + 1) 0), .int .i64 (l.getD (k * 3 + 2) 0)]).cells.toList 92 true)))
      (repeat' (first | (apply N_at; rfl) | ((first | apply P_fa | apply M_fa); rfl; rfl; rfl; rfl; exact zaw rfl; (first | exact Nat.zero_add _ | exact Nat.add_zero _ | rfl)) | (apply M_nil; rfl; rfl; rfl; rfl) | fail))
      apply ziQ (c' := [.int .i64 people, .slice (some ⟨b, 0, none⟩) n kl, .slice p c'.length kc, v2, vS, .map (some (h.n + 1))]); rfl; rfl; rfl; rfl; exact old2 (by omega) g1; exact zak rfl; (rw [o2.one.2]; rfl); exact Nat.le_of_ble_eq_true rfl; (rw [o2.one.2]; simp [o2.one.1]); (rw [o2.one.2]; rfl); rfl
      intro h3 g3 x3
      have n3 := x3.n
      have sS := oS.same
      have wS : AX.within 20 h3.n vS = true := oS2.within n3
      have ln3 := x3.get (show h'.n ≠ h1.n by omega) ln2
      (repeat' (first | (apply N_at; rfl) | apply zah | (apply zbh; exact zaz (by decide +kernel)) | (apply zbN; rfl; refine .inr ?_; (focus repeat' first | exact trivial | apply And.intro | rfl | (refine (List.forall_mem_cons (p := fun hk => MapB hk _ _)).2 ?_) | exact List.forall_mem_nil _ | (apply MapB.ext; assumption; (focus repeat' first | exact Ext.refl _ | assumption | apply Ext.push | (refine Ext.trans ?_ (by assumption)))) | (apply MapB.but; assumption; assumption; omega))) | ((first | apply zae | apply zad | apply zaY); rfl; rfl; rfl; rfl) | ((first | apply P_fa | apply M_fa); rfl; rfl; rfl; rfl; exact zaw rfl; (first | exact Nat.zero_add _ | exact Nat.add_zero _ | rfl)) | (apply ziU; rfl; rfl; rfl; rfl; rfl; rfl; rfl; exact zeT rfl) | (((apply zbp; rfl; rfl; rfl; rfl; exact zas rfl; exact zaK (by decide +kernel)); (focus repeat' first | exact zaa | assumption | apply zab | (apply Ext.get; assumption) | (apply ExtBut.get; assumption; (first | assumption | omega | (simp only [Heap.push]; omega)))); (first | rfl | assumption)); (first | assumption | exact zaQ _ _ | rfl | (focus simp [same, same.all2]; done)); (first | rfl | assumption | exact hwv _ | (simp [within]; omega))) | (apply M_nil; rfl; rfl; rfl; rfl) | fail))
      have oS3 : Own h3 vS (setr0 ⟨people, some ⟨b, 0, none⟩, kl, n, l, p, kc, c'⟩ k) bS := by
        rcases hd with rfl | hd
        · exact oS2.imp id fun q => absurd rfl q.1
        · exact oS2.but x3 (by omega)
      apply appOwnM; rfl; rfl; rfl; rfl; rfl; rfl; rfl; rfl; exact zeT rfl; exact zau rfl; exact zaa; exact oS3.ext (by (focus repeat' first | exact Ext.refl _ | assumption | apply Ext.push | (refine Ext.trans ?_ (by assumption)))); exact (by rw [zdX]; omega); rfl
      intro v4 h4 o4 k4
      have n4 : h4.n = h3.n + 1 + 1 := by have := k4.n; exact this
      have hS : ∀ {c : Nat}, c < h.n + 3 ∨ h'.n ≤ c → (setr0 ⟨people, some ⟨b, 0, none⟩, kl, n, l, p, kc, c'⟩ k = [] ∨ c ≠ bS) := fun hc => by
        rcases hd with rfl | hd
        · exact .inl rfl
        · exact .inr (by omega)
      have g4 := k4.get' _ _ (hS (c := h1.n) (.inl (by omega))) (zab g3)
      (repeat' (first | (apply N_at; rfl) | ((first | apply P_fa | apply M_fa); rfl; rfl; rfl; rfl; exact zaw rfl; (first | exact Nat.zero_add _ | exact Nat.add_zero _ | rfl)) | (apply M_nil; rfl; rfl; rfl; rfl) | fail))
      apply ziQ (c' := [.int .i64 people, .slice (some ⟨b, 0, none⟩) n kl, .slice p c'.length kc, v2, v4, .map (some (h.n + 1))]); rfl; rfl; rfl; rfl; exact g4; exact zak rfl; (rw [o4.one.2]; rfl); exact Nat.le_of_ble_eq_true rfl; (rw [o4.one.2]; simp [o4.one.1]); (rw [o4.one.2]; rfl); rfl
      intro h5 g5 x5
      have n5 := x5.n
      (repeat' (first | apply zac | (apply O_at; rfl) | (apply zag; rfl) | apply zah | (apply zbN; rfl; refine .inr ?_; (focus repeat' first | exact trivial | apply And.intro | rfl | (refine (List.forall_mem_cons (p := fun hk => MapB hk _ _)).2 ?_) | exact List.forall_mem_nil _ | (apply MapB.ext; assumption; (focus repeat' first | exact Ext.refl _ | assumption | apply Ext.push | (refine Ext.trans ?_ (by assumption)))) | (apply MapB.but; assumption; assumption; omega))) | apply zaN | ((first | apply zae | apply zad | apply zaY); rfl; rfl; rfl; rfl) | (apply zcb; rfl; rfl; rfl; rfl; rfl; (unfold fit; omega)) | fail))
      have al : ∀ {c : Nat} {y : Blk}, c < h.n + 3 → c ≠ h1.n → h'.get? c = some y → h5.get? c = some y := fun hc hne g =>
        x5.get hne (k4.get' _ _ (hS (.inl hc)) (zab (x3.get hne (old2 hc g))))
      refine za1 (ih (k + 1, v2, h'.n + 2, v4, h3.n + 1) _ (by dsimp only; omega) ⟨hlt, ⟨?_, fun c y g => ?_⟩, by omega, g5, ?_, ?_, ?_, .inr ⟨by dsimp only; omega, by dsimp only; omega, by dsimp only; omega, by dsimp only; omega, by dsimp only; omega⟩⟩) (by (focus repeat' first | rfl | exact trivial | apply And.intro))
      · have := hx.n; omega
      · have := Heap.get_lt g
        exact al (by omega) (by omega) (hx.get g)
      · rw [zje]
        have o2' : Own h2 v2 (sets0 ⟨people, some ⟨b, 0, none⟩, kl, n, l, p, kc, c'⟩ k ++ [sett ⟨people, some ⟨b, 0, none⟩, kl, n, l, p, kc, c'⟩ k]) (h'.n + 2) := o2
        have q3 : Own h3 v2 (sets0 ⟨people, some ⟨b, 0, none⟩, kl, n, l, p, kc, c'⟩ k ++ [sett ⟨people, some ⟨b, 0, none⟩, kl, n, l, p, kc, c'⟩ k]) (h'.n + 2) := o2'.but x3 (by omega)
        exact ((q3.ext ((Ext.refl h3).push _)).kept k4 (hS (.inr (by omega)))).but x5 (by omega)
      · rw [zjf]
        exact Own.but o4 x5 (by show h3.n + 1 ≠ h1.n; omega)
      · exact m.keep fun q g => al (by omega) (by omega) g
    · obtain rfl : k = n := by omega
      (repeat' (first | apply zan | apply zac | (apply O_at; rfl) | (apply zag; rfl) | apply zah | (apply zaG; rfl) | apply zbk | apply zay | apply zbl | apply za5 | apply za6 | apply zar | ((first | apply zae | apply zad | apply zaY); rfl; rfl; rfl; rfl) | (apply zbE; rfl; rfl; rfl; rfl; rfl; omega) | fail))
      rcases oN with ⟨_, q⟩ | ⟨_, rfl, oN⟩
      · have := congrArg List.length q; rw [zdW] at this; simp at this; omega
      rcases oS with ⟨_, q⟩ | ⟨_, rfl, oS⟩
      · have := congrArg List.length q; rw [zdX] at this; simp at this; omega
      rw [zdW] at g1
      rw [zdX] at g1
      refine ⟨.inr rfl, _, rfl, h1.n, bN, bS, h.n + 1, rfl, ⟨⟨fun _ => false, ⟨g1, oN, oS, m, by simp [numsL], by simp [setsL]⟩, fun _ _ _ => rfl⟩⟩, by omega, by omega, hx⟩
  · exact ⟨Nat.zero_le _, by (focus repeat' first | exact Ext.refl _ | assumption | apply Ext.push | (refine Ext.trans ?_ (by assumption))), by show h.n + 3 ≤ h1.n + 1; omega, by dsimp only; exact zaa, .inl ⟨rfl, rfl⟩, .inl ⟨rfl, rfl⟩, m1.ext (by (focus repeat' first | exact Ext.refl _ | assumption | apply Ext.push | (refine Ext.trans ?_ (by assumption)))), .inl rfl⟩
  · (focus repeat' first | rfl | exact trivial | apply And.intro)
end Go.AX.Sa

namespace Go.AX.Sa
open Go.Proofs
set_option maxRecDepth 100000
variable {K : Known}
def wholeE (G : Pg) (p : Int × Int) : Ent := (1, [p.1, p.2, 0, (G.n : Int) - 1])
def logP (G : Pg) (ps : List (Int × Int)) : List Ent := logL G ++ ps.map (wholeE G)
def PairsP (G : Pg) (ps : List (Int × Int)) : Prop := ∀ k, k < ps.length → PairP G (ps.getD k (0, 0)).1 (ps.getD k (0, 0)).2
theorem zfZ {G : Pg} (hn : 1 ≤ (G.n : Int)) {p : Int × Int} (h : PairP G p.1 p.2) : EntP G.people G.n (wholeE G p) := by
  obtain ⟨h1, h2, h3⟩ := h
  unfold PersP at h1 h2
  refine ent1.2 ⟨rfl, ?_, ?_, ?_, ?_, ?_, ?_⟩ <;> simp <;> omega
theorem log_ent {G : Pg} (hP : PgP G) {ps : List (Int × Int)} (hp : PairsP G ps) : ∀ e ∈ logP G ps, EntP G.people G.n e := by
  intro e he
  rcases List.mem_append.1 he with q | q
  · obtain ⟨c, hc, rfl⟩ := List.mem_map.1 q
    obtain ⟨j, hj⟩ := List.getElem?_of_mem hc
    have hl := (List.getElem?_eq_some_iff.1 hj).1
    have := hP.ent j hl
    simpa [List.getD_eq_getElem?_getD, hj] using this
  · obtain ⟨c, hc, rfl⟩ := List.mem_map.1 q
    obtain ⟨j, hj⟩ := List.getElem?_of_mem hc
    have hl := (List.getElem?_eq_some_iff.1 hj).1
    have := hp j hl
    rw [show ps.getD j (0, 0) = c by simp [List.getD_eq_getElem?_getD, hj]] at this
    exact zfZ hP.n.1 this
theorem ze7 {G : Pg} (hP : PgP G) {L : List Ent} (hL : ∀ e ∈ L, EntP G.people G.n e) {j : Nat} (hj : j < G.n) : NumP (numA G L j) := zjs (hP.line j hj).2.2 L hL
theorem zeY {L : List Ent} {k : Nat} (h : k < L.length) : L.take (k + 1) = L.take k ++ [L[k]'h] := by rw [List.take_add_one, List.getElem?_eq_getElem h]; rfl
set_option maxHeartbeats 600000 in
theorem after_ok (hK : NoK K) {G : Pg} {ps : List (Int × Int)} {q : Option Addr} {kq : Nat} {h : Heap} (hT : PgAt G h) (hP : PgP G) (hq : Rd h q (spanCells ps)) (hl : ps.length ≤ 1000) (hp : PairsP G ps) :
    CallW Tryz.prog K 61 #[pgV G, .slice q ps.length kq] h (fun v h1 => ∃ s bn bs r, v = .pointer (some ⟨s, 0, none⟩) ∧ StL G (logP G ps) s bn bs r h1 ∧ bn ≠ bs ∧ (h.n ≤ s ∧ h.n ≤ bn ∧ h.n ≤ bs ∧ h.n ≤ r) ∧ Ext h h1) := by
  have hT' := hT
  have hP' := hP
  have hlog := log_ent hP hp
  have hnn := hP.n
  have hpp := hP.people
  have hcc := hP.c
  obtain ⟨people, pl, kl, n, l, p, kc, c⟩ := G
  obtain ⟨len, rl, rc, each, hbl, hpb⟩ := hT
  dsimp only [pgV] at len rl rc each hbl hpb hnn hpp hcc ⊢
  have hlen : (logP ⟨people, pl, kl, n, l, p, kc, c⟩ ps).length = c.length + ps.length := by simp [logP, logL]
  refine body (N := 46) Tryz.func61 rfl (hK _ _ _ rfl) rfl rfl ?_
  (repeat' (first | apply zan | apply zac | (apply O_at; rfl) | (apply zag; rfl) | apply zah | ((first | apply zae | apply zad); rfl; rfl; rfl; rfl) | (apply zaD; rfl; rfl; rfl; rfl; exact zaO rfl; (focus repeat' first | exact zaa | assumption | apply zab | (apply Ext.get; assumption)); (first | exact Nat.le_of_ble_eq_true rfl | (rw [zaV]; omega) | (simp; done) | (simp; omega) | (rw [zaP]; omega)); (first | exact zbg (by omega) | exact za4 (by omega) | rfl)) | (apply zaI; rfl; rfl; rfl; rfl; exact zak rfl; rfl; rfl) | fail))
  apply zaf; rfl; rfl; rfl; rfl; rfl; rfl; exact zlB (G := ⟨people, pl, kl, n, l, p, kc, c⟩) hK (hT'.ext (by (focus repeat' first | exact Ext.refl _ | assumption | apply Ext.push | (refine Ext.trans ?_ (by assumption))))) ⟨by dsimp only; omega, by dsimp only; omega⟩
  rintro _ h2 ⟨s, bn, bs, r, rfl, S2, hns, ⟨b1, b2, b3, b4⟩, x2⟩
  have hn2 := x2.n
  have b2' : h.n < bn := b2
  have b3' : h.n < bs := b3
  have b4' : h.n < r := b4
  have b1' : h.n < s := b1
  (repeat' (first | apply zan | apply zac | (apply O_at; rfl) | (apply zag; rfl) | apply zah | apply zaq | ((first | apply zae | apply zad); rfl; rfl; rfl; rfl) | (apply P_fa; rfl; rfl; rfl; rfl; exact zaw rfl; (first | exact Nat.zero_add _ | exact Nat.add_zero _ | rfl)) | (apply zbe; rfl; rfl; rfl; rfl; rfl; rfl; exact zau rfl) | (apply zam; rfl; rfl; rfl; rfl; exact zas rfl; (focus repeat' first | exact zaa | assumption | apply zab | (apply Ext.get; assumption)); (first | rfl | assumption)) | fail))
  refine zbb (fun k : Nat => [(16, .int .i64 (k : Nat)), (15, .int .i64 (c.length : Nat)), (14, .slice p c.length kc), (5, .pointer (some ⟨s, 0, none⟩)), (2, .pointer (some ⟨h.n, 0, none⟩)), (1, .slice q ps.length kq)])
    (fun k h' => k ≤ c.length ∧ StL ⟨people, pl, kl, n, l, p, kc, c⟩ ((logP ⟨people, pl, kl, n, l, p, kc, c⟩ ps).take k) s bn bs r h' ∧ Ext (h.push (.cells [.int .i64 people, .slice pl n kl, .slice p c.length kc] 25 true)) h') (fun k => c.length - k) ?_ 0 ?_ ?_
  · rintro k h' ⟨hk, S, hx⟩ ih
    have g0 := hx.get zaa
    by_cases hlt : k < c.length
    · obtain ⟨b, e, own, rfl, hg⟩ := rc.at (by rw [zaV]; omega)
      have hg' := hx.get (zab hg)
      have eR := each k hlt
      have ek : (logP ⟨people, pl, kl, n, l, some ⟨b, 0, none⟩, kc, c⟩ ps)[k]'(by omega) = ent (c.getD k cop0) := by
        simp [logP, logL, List.getElem_append_left, hlt]
      have eP := hP'.ent k hlt
      (repeat' (first | apply zan | apply zac | (apply O_at; rfl) | (apply zag; rfl) | apply zah | (apply zbc; rfl) | apply zaq | apply zav | ((first | apply zae | apply zad); rfl; rfl; rfl; rfl) | (apply zbq; rfl; rfl; rfl; rfl; rfl; omega) | (apply zeD; rfl; rfl; rfl; rfl; rfl; exact zau rfl; exact zak rfl; (first | assumption | rfl | exact (Int.toNat_of_nonneg (by omega)).symm); omega) | (apply zaD; rfl; rfl; rfl; rfl; exact zaO rfl; (focus repeat' first | exact zaa | assumption | apply zab | (apply Ext.get; assumption)); (first | exact Nat.le_of_ble_eq_true rfl | (rw [zaV]; omega) | (simp; done) | (simp; omega) | (rw [zaP]; omega)); (first | exact zbg (by omega) | exact za4 (by omega) | rfl)) | (apply zaL; rfl; rfl; rfl; rfl; exact zak rfl; rfl; rfl; rfl) | (apply zbi; rfl; rfl; rfl; rfl; exact zak rfl; rfl; rfl) | fail))
      have y1 : Ext h' (h'.push (.cells [.int .i64 (c.getD k cop0).par, .slice (c.getD k cop0).r.q (c.getD k cop0).r.s.length (c.getD k cop0).r.k] 37 true)) := by (focus repeat' first | exact Ext.refl _ | assumption | apply Ext.push | (refine Ext.trans ?_ (by assumption)))
      apply zaf; rfl; rfl; rfl; rfl; rfl; rfl
      · refine ziB (G := ⟨people, pl, kl, n, l, some ⟨b, 0, none⟩, kc, c⟩) (c := c.getD k cop0) hK (L := (logP ⟨people, pl, kl, n, l, some ⟨b, 0, none⟩, kc, c⟩ ps).take k) (s := s) (bn := bn) (bs := bs) (r := r) ?_ hns hpp (by dsimp only; omega) ?_ eP (fun j hj => ze7 hP' (fun e he => hlog e (List.mem_of_mem_take he)) hj)
        · obtain ⟨f, S, hf⟩ := S
          exact ⟨f, S.ext y1, hf⟩
        · exact eR.ext (by (focus repeat' first | exact Ext.refl _ | assumption | apply Ext.push | (refine Ext.trans ?_ (by assumption))))
      rintro _ h3 ⟨S3, k3⟩
      (repeat' (first | apply zac | (apply O_at; rfl) | (apply zag; rfl) | apply zah | apply zaN | ((first | apply zae | apply zad); rfl; rfl; rfl; rfl) | (apply zcb; rfl; rfl; rfl; rfl; rfl; (unfold fit; omega)) | fail))
      have y3 : Ext (h.push (.cells [.int .i64 people, .slice pl n kl, .slice (some ⟨b, 0, none⟩) c.length kc] 25 true)) h3 := k3.ext (hx.trans y1) b2 b3 b4
      refine za1 (ih (k + 1) _ (by omega) ⟨hlt, ?_, y3⟩) (by (focus repeat' first | rfl | exact trivial | apply And.intro))
      rw [zeY (by omega), ek]
      exact S3
    · obtain rfl : k = c.length := by omega
      (repeat' (first | apply zan | apply zac | (apply O_at; rfl) | (apply zag; rfl) | apply zah | (apply zaG; rfl) | apply zaq | apply zbk | apply zbl | apply za5 | apply za6 | ((first | apply zae | apply zad); rfl; rfl; rfl; rfl) | (apply zbe; rfl; rfl; rfl; rfl; rfl; rfl; exact zau rfl) | (apply zbE; rfl; rfl; rfl; rfl; rfl; omega) | fail))
      refine zbb (fun k : Nat => [(26, .int .i64 (k : Nat)), (25, .int .i64 (ps.length : Nat)), (24, .slice q ps.length kq), (5, .pointer (some ⟨s, 0, none⟩)), (2, .pointer (some ⟨h.n, 0, none⟩))])
        (fun k h' => k ≤ ps.length ∧ StL ⟨people, pl, kl, n, l, p, kc, c⟩ ((logP ⟨people, pl, kl, n, l, p, kc, c⟩ ps).take (c.length + k)) s bn bs r h' ∧ Ext (h.push (.cells [.int .i64 people, .slice pl n kl, .slice p c.length kc] 25 true)) h') (fun k => ps.length - k) ?_ 0 ?_ ?_
      · rintro i h5 ⟨hi, S5, hx5⟩ ih5
        have g05 := hx5.get zaa
        by_cases hlt5 : i < ps.length
        · obtain ⟨b, e, own, rfl, hg⟩ := hq.at (by rw [zaP]; omega)
          have hg' := hx5.get (zab hg)
          have ek : (logP ⟨people, pl, kl, n, l, p, kc, c⟩ ps)[c.length + i]'(by omega) = wholeE ⟨people, pl, kl, n, l, p, kc, c⟩ (ps.getD i (0, 0)) := by
            simp [logP, logL, List.getElem_append_right, hlt5]
          have eP := zfZ (G := ⟨people, pl, kl, n, l, p, kc, c⟩) hnn.1 (hp i hlt5)
          (repeat' (first | apply zan | apply zac | (apply O_at; rfl) | (apply zag; rfl) | apply zah | (apply zbc; rfl) | apply zaq | apply zav | ((first | apply zae | apply zad); rfl; rfl; rfl; rfl) | (apply P_fa; rfl; rfl; rfl; rfl; exact zaw rfl; (first | exact Nat.zero_add _ | exact Nat.add_zero _ | rfl)) | (apply zbq; rfl; rfl; rfl; rfl; rfl; omega) | (apply zeD; rfl; rfl; rfl; rfl; rfl; exact zau rfl; exact zak rfl; (first | assumption | rfl | exact (Int.toNat_of_nonneg (by omega)).symm); omega) | (apply zam; rfl; rfl; rfl; rfl; exact zas rfl; (focus repeat' first | exact zaa | assumption | apply zab | (apply Ext.get; assumption)); (first | rfl | assumption)) | (apply zaD; rfl; rfl; rfl; rfl; exact zaO rfl; (focus repeat' first | exact zaa | assumption | apply zab | (apply Ext.get; assumption)); (first | exact Nat.le_of_ble_eq_true rfl | (rw [zaV]; omega) | (simp; done) | (simp; omega) | (rw [zaP]; omega)); (first | exact zbg (by omega) | exact za4 (by omega) | rfl)) | (apply zaL; rfl; rfl; rfl; rfl; exact zak rfl; rfl; rfl; rfl) | (apply zjU; rfl; rfl; rfl; rfl) | (apply P_bs_i4; rfl; rfl; rfl; rfl) | (apply zbi; rfl; rfl; rfl; rfl; exact zak rfl; rfl; rfl) | (apply zaf; rfl; rfl; rfl; rfl; rfl; rfl; exact zeA (G := ⟨people, pl, kl, n, l, p, kc, c⟩) hK (by dsimp only; omega); (rintro _ _ ⟨rfl, _⟩)) | fail))
          rename_i h6 x6
          have y6 : Ext h5 ((h6.push (.cells [.int .i64 0, .int .i64 ((n : Int) - 1)] 140 true)).push (.cells (ints [(ps.getD i (0, 0)).1, (ps.getD i (0, 0)).2, 0, (n : Int) - 1]) 3 true)) := by (focus repeat' first | exact Ext.refl _ | assumption | apply Ext.push | (refine Ext.trans ?_ (by assumption)))
          apply zaf; rfl; rfl; rfl; rfl; rfl; rfl
          · refine ziB (G := ⟨people, pl, kl, n, l, p, kc, c⟩) (c := ⟨1, ⟨some ⟨h6.n + 1, 0, none⟩, 4, [(ps.getD i (0, 0)).1, (ps.getD i (0, 0)).2, 0, (n : Int) - 1]⟩⟩) hK (L := (logP ⟨people, pl, kl, n, l, p, kc, c⟩ ps).take (c.length + i)) (s := s) (bn := bn) (bs := bs) (r := r) ?_ hns hpp (by dsimp only; omega) ?_ eP (fun j hj => ze7 hP' (fun e he => hlog e (List.mem_of_mem_take he)) hj)
            · obtain ⟨f, S, hf⟩ := S5
              exact ⟨f, S.ext y6, hf⟩
            · exact ⟨.inr ⟨h6.n + 1, _, _, rfl, zaa⟩, fun a q => by cases q; exact Nat.lt_succ_self _, fun _ => Nat.le_refl _⟩
          rintro _ h7 ⟨S7, k7⟩
          (repeat' (first | apply zac | (apply O_at; rfl) | (apply zag; rfl) | apply zah | apply zaN | ((first | apply zae | apply zad); rfl; rfl; rfl; rfl) | (apply zcb; rfl; rfl; rfl; rfl; rfl; (unfold fit; omega)) | fail))
          have y7 : Ext (h.push (.cells [.int .i64 people, .slice pl n kl, .slice p c.length kc] 25 true)) h7 := k7.ext (hx5.trans y6) b2 b3 b4
          refine za1 (ih5 (i + 1) _ (by omega) ⟨hlt5, ?_, y7⟩) (by (focus repeat' first | rfl | exact trivial | apply And.intro))
          rw [show c.length + (i + 1) = (c.length + i) + 1 by omega, zeY (by omega), ek]
          exact S7
        · obtain rfl : i = ps.length := by omega
          rw [List.take_of_length_le (by omega)] at S5
          (repeat' (first | apply zan | apply zac | (apply O_at; rfl) | (apply zag; rfl) | apply zah | (apply zaG; rfl) | apply zbk | apply zay | apply zbl | apply za5 | apply za6 | apply zar | ((first | apply zae | apply zad); rfl; rfl; rfl; rfl) | (apply zbE; rfl; rfl; rfl; rfl; rfl; omega) | fail))
          exact ⟨.inr rfl, _, rfl, s, bn, bs, r, rfl, S5, hns, ⟨by omega, by omega, by omega, by omega⟩, by (focus repeat' first | exact Ext.refl _ | assumption | apply Ext.push | (refine Ext.trans ?_ (by assumption)))⟩
      · exact ⟨Nat.zero_le _, S, hx⟩
      · (focus repeat' first | rfl | exact trivial | apply And.intro)
  · exact ⟨Nat.zero_le _, S2, x2⟩
  · (focus repeat' first | rfl | exact trivial | apply And.intro)
end Go.AX.Sa

namespace Go.AX.Sa
open Go.Proofs
set_option maxRecDepth 100000
variable {K : Known}
theorem StL.ext {G : Pg} {L : List Ent} {s bn bs r : Nat} {h h1 : Heap} (x : StL G L s bn bs r h) (e : Ext h h1) : StL G L s bn bs r h1 := by
  obtain ⟨f, S, hf⟩ := x
  exact ⟨f, S.ext e, hf⟩
theorem zdc (hK : NoK K) {G : Pg} {L : List Ent} {s bn bs r : Nat} {j : Nat} {jj : Int} {h : Heap} (hS : StL G L s bn bs r h) (hp : 2 ≤ G.people ∧ G.people ≤ 6) (hj : j < G.n) (_ : G.n ≤ 1000) (hjj : jj = (j : Nat)) :
    CallW Tryz.prog K 68 #[.pointer (some ⟨s, 0, none⟩), .int .i64 jj] h (IsL (rdA G L j) h) := by
  subst hjj
  obtain ⟨f, ⟨box, nums, sets, hrd, nl, sl⟩, hf⟩ := hS
  unfold rdA
  obtain ⟨m, hm⟩ : ∃ m : Nat, G.people = m := ⟨G.people.toNat, by omega⟩
  have hm' : G.people.toNat = m := by omega
  rw [hm']
  have hset := zdG (G := G) (L := L) hj
  refine body (N := 40) Tryz.func68 rfl (hK _ _ _ rfl) rfl rfl ?_
  unfold stC at box
  rw [hm] at box
  (repeat' (first | apply zan | apply zac | (apply O_at; rfl) | (apply zag; rfl) | apply zah | apply zaq | ((first | apply zae | apply zad); rfl; rfl; rfl; rfl) | (apply P_fa; rfl; rfl; rfl; rfl; exact zaw rfl; (first | exact Nat.zero_add _ | exact Nat.add_zero _ | rfl)) | (apply zam; rfl; rfl; rfl; rfl; exact zas rfl; (focus repeat' first | exact zaa | assumption | (apply Ext.get; assumption)); (first | exact zal (by omega) | rfl | assumption)) | (apply zeC; rfl; rfl; rfl; rfl) | fail))
  refine zbb (fun a : Nat × Value => [(12, .int .i64 (a.1 : Nat)), (11, .int .i64 (m : Nat)), (5, a.2), (0, .pointer (some ⟨s, 0, none⟩)), (1, .int .i64 (j : Nat))])
    (fun a h' => a.1 ≤ m ∧ Ext h h' ∧ OutI 3 h h' a.2 (rdrs a.1 L (j : Nat) (setA G L j))) (fun a => m - a.1) ?_ (0, .slice none 0 0) ?_ ?_
  · rintro ⟨k, v⟩ h' ⟨hk, hx, ho⟩ ih
    dsimp only at hk hx ho ih ⊢
    have q1 := hx.get box
    have q2 := hx.get sets
    have hl := zdI k L (j : Nat) (setA G L j)
    by_cases hlt : k < m
    · have hfk := hf ((j : Nat), (k : Nat)) (by dsimp only; omega) (by dsimp only; omega)
      have hjs : j < (setsL G L).length := by omega
      (repeat' (first | apply zan | apply zac | (apply O_at; rfl) | (apply zag; rfl) | apply zah | (apply zbc; rfl) | (apply zaG; rfl) | apply zaq | apply zav | apply zaN | (apply zbj; rfl; rfl; rfl) | ((first | apply zae | apply zad); rfl; rfl; rfl; rfl) | (apply P_fa; rfl; rfl; rfl; rfl; exact zaw rfl; (first | exact Nat.zero_add _ | exact Nat.add_zero _ | rfl)) | (apply za2; rfl; rfl; rfl; rfl; rfl; rfl) | (apply zbq; rfl; rfl; rfl; rfl; rfl; omega) | (apply P_neq; rfl; rfl; rfl; rfl; rfl; all_goals intro _) | (apply zcb; rfl; rfl; rfl; rfl; rfl; (unfold fit; omega)) | (apply zcp; rfl; rfl; rfl; rfl; rfl; exact zau rfl; exact zak rfl; (first | assumption | rfl | exact (Int.toNat_of_nonneg (by omega)).symm); omega) | (apply zam; rfl; rfl; rfl; rfl; exact zas rfl; (focus repeat' first | exact zaa | assumption | (apply Ext.get; assumption)); (first | exact zal (by omega) | rfl | assumption)) | (apply zfV; rfl; rfl; rfl; rfl; rfl; rfl; rfl; exact zeT rfl) | (apply zlN; rfl; rfl; rfl; rfl; rfl; rfl; rfl; rfl; exact zeT rfl; exact zau rfl; (focus repeat' first | exact zaa | assumption | (apply Ext.get; assumption)); (apply OutI.ext; assumption; (focus repeat' first | exact Ext.refl _ | assumption | apply Ext.push)); (focus repeat' first | exact Ext.refl _ | assumption | apply Ext.push); (first | omega | (simp; omega)); (intro _ _ _ _)) | (apply zdm; rfl; rfl; rfl; rfl) | (apply zeC; rfl; rfl; rfl; rfl) | (apply zlK; rfl; rfl; rfl; rfl; rfl; exact mapB85; (first | assumption | (apply MapB.ext; assumption; (focus repeat' first | exact Ext.refl _ | assumption | apply Ext.push))); all_goals intro _) | fail))
      · rename_i w1 w2 v2 h2 o2 x2
        refine za1 (ih (k + 1, v2) _ (by dsimp only; omega) ⟨hlt, x2, ?_⟩) (by (focus repeat' first | rfl | exact trivial | apply And.intro))
        rw [zd3, if_pos ⟨by rw [← hfk]; exact w1, by rw [← hset]; exact w2⟩]
        exact o2
      · rename_i w1 w2
        refine za1 (ih (k + 1, v) _ (by dsimp only; omega) ⟨hlt, by (focus repeat' first | exact Ext.refl _ | assumption | apply Ext.push), ?_⟩) (by (focus repeat' first | rfl | exact trivial | apply And.intro))
        rw [zd3, if_neg (fun z => z.2 (by rw [← hset]; omega)), List.append_nil]
        exact ho
      · rename_i w1
        refine za1 (ih (k + 1, v) _ (by dsimp only; omega) ⟨hlt, by (focus repeat' first | exact Ext.refl _ | assumption | apply Ext.push), ?_⟩) (by (focus repeat' first | rfl | exact trivial | apply And.intro))
        rw [zd3, if_neg (fun z => by rw [← hfk, w1] at z; exact absurd z.1 (by simp)), List.append_nil]
        exact ho
    · obtain rfl : k = m := by omega
      (repeat' (first | apply zan | apply zac | (apply O_at; rfl) | (apply zag; rfl) | apply zah | (apply zaG; rfl) | apply zbk | apply zay | apply zbl | apply za5 | apply za6 | apply zar | ((first | apply zae | apply zad); rfl; rfl; rfl; rfl) | (apply zbE; rfl; rfl; rfl; rfl; rfl; omega) | fail))
      exact ⟨.inr rfl, _, rfl, ho.isL hx⟩
  · exact ⟨Nat.zero_le _, Ext.refl _, .inl ⟨rfl, rfl⟩⟩
  · (focus repeat' first | rfl | exact trivial | apply And.intro)
theorem zea (hK : NoK K) {G : Pg} {L : List Ent} {s bn bs r : Nat} {j : Nat} {h : Heap} (hS : StL G L s bn bs r h) (hp : 2 ≤ G.people ∧ G.people ≤ 6) (hj : j < G.n) (hn : G.n ≤ 1000) :
    CallW Tryz.prog K 110 #[.pointer (some ⟨s, 0, none⟩), .int .i64 (j : Nat)] h (IfB (PassP G L j) h) := by
  refine body (N := 10) Tryz.func110 rfl (hK _ _ _ rfl) rfl rfl ?_
  have hl := zdI G.people.toNat L (j : Nat) (setA G L j)
  (repeat' (first | apply zan | apply zac | (apply O_at; rfl) | (apply zag; rfl) | apply zah | apply zay | apply zar | ((first | apply zae | apply zad); rfl; rfl; rfl; rfl) | (apply zbe; rfl; rfl; rfl; rfl; rfl; rfl; exact zau rfl) | (apply zlM; rfl; rfl; rfl; rfl; rfl; all_goals intro _) | (apply zaf; rfl; rfl; rfl; rfl; rfl; rfl; exact zdc hK (hS.ext (by (focus repeat' first | exact Ext.refl _ | assumption))) hp hj hn rfl; (rintro _ _ ⟨_, _, rfl, _, _⟩)) | fail))
  all_goals (refine ⟨.inr rfl, _, rfl, ?_⟩; first | (refine .inl ⟨rfl, by unfold PassP at *; omega, ?_⟩; (focus repeat' first | exact Ext.refl _ | assumption | apply Ext.push | (refine Ext.trans ?_ (by assumption)) | (refine Ext.set ?_ (Nat.le_succ _) (zab zaa) _) | (refine Ext.ofBut ?_ (by assumption) (by first | exact Nat.le_refl _ | omega))); done) | (refine .inr ⟨rfl, by unfold PassP at *; omega, ?_⟩; (focus repeat' first | exact Ext.refl _ | assumption | apply Ext.push | (refine Ext.trans ?_ (by assumption)) | (refine Ext.set ?_ (Nat.le_succ _) (zab zaa) _) | (refine Ext.ofBut ?_ (by assumption) (by first | exact Nat.le_refl _ | omega))); done))
theorem zjp (hK : NoK K) {G : Pg} {L : List Ent} {s bn bs r : Nat} {h : Heap} (hS : StL G L s bn bs r h) (hp : 2 ≤ G.people ∧ G.people ≤ 6) (hn : G.n ≤ 1000) :
    CallW Tryz.prog K 71 #[.pointer (some ⟨s, 0, none⟩)] h (IsL (passL G L) h) := by
  have hS' := hS
  obtain ⟨f, ⟨box, nums, sets, hrd, nl, sl⟩, hf⟩ := hS
  refine body (N := 23) Tryz.func71 rfl (hK _ _ _ rfl) rfl rfl ?_
  unfold stC at box
  (repeat' (first | apply zan | apply zac | (apply O_at; rfl) | (apply zag; rfl) | apply zah | apply zaq | ((first | apply zae | apply zad); rfl; rfl; rfl; rfl) | (apply P_fa; rfl; rfl; rfl; rfl; exact zaw rfl; (first | exact Nat.zero_add _ | exact Nat.add_zero _ | rfl)) | (apply zbe; rfl; rfl; rfl; rfl; rfl; rfl; exact zau rfl) | (apply zam; rfl; rfl; rfl; rfl; exact zas rfl; (focus repeat' first | exact zaa | assumption); (first | rfl | assumption)) | (apply zeC; rfl; rfl; rfl; rfl) | fail))
  refine zbb (fun a : Nat × Value => [(11, .int .i64 (a.1 : Nat)), (10, .int .i64 (G.n : Nat)), (3, a.2), (0, .pointer (some ⟨s, 0, none⟩))])
    (fun a h' => a.1 ≤ G.n ∧ Ext h h' ∧ OutI 3 h h' a.2 (filL (PassP G L) a.1)) (fun a => G.n - a.1) ?_ (0, .slice none 0 0) ?_ ?_
  · rintro ⟨k, v⟩ h' ⟨hk, hx, ho⟩ ih
    dsimp only at hk hx ho ih ⊢
    have hl := zfK (PassP G L) k
    by_cases hlt : k < G.n
    · (repeat' (first | apply zan | apply zac | (apply O_at; rfl) | (apply zag; rfl) | apply zah | (apply zbc; rfl) | (apply zaG; rfl) | apply zaq | apply zav | apply zaN | ((first | apply zae | apply zad); rfl; rfl; rfl; rfl) | (apply zbq; rfl; rfl; rfl; rfl; rfl; omega) | (apply zcb; rfl; rfl; rfl; rfl; rfl; (unfold fit; omega)) | (apply zfV; rfl; rfl; rfl; rfl; rfl; rfl; rfl; exact zeT rfl) | (apply zlN; rfl; rfl; rfl; rfl; rfl; rfl; rfl; rfl; exact zeT rfl; exact zau rfl; (focus repeat' first | exact zaa | assumption); (apply OutI.ext; assumption; (focus repeat' first | exact Ext.refl _ | assumption | apply Ext.push | (refine Ext.trans ?_ (by assumption)))); (focus repeat' first | exact Ext.refl _ | assumption | apply Ext.push | (refine Ext.trans ?_ (by assumption))); (first | omega | (simp; omega)); (intro _ _ _ _)) | (apply zaf; rfl; rfl; rfl; rfl; rfl; rfl; exact zea hK (hS'.ext (by (focus repeat' first | exact Ext.refl _ | assumption | apply Ext.push | (refine Ext.trans ?_ (by assumption))))) hp hlt hn; (rintro _ _ (⟨rfl, _, _⟩ | ⟨rfl, _, _⟩))) | fail))
      · rename_i w x2 v2 h2 o2 x3
        refine za1 (ih (k + 1, v2) _ (by dsimp only; omega) ⟨hlt, x3, ?_⟩) (by (focus repeat' first | rfl | exact trivial | apply And.intro))
        rw [zgJ, if_pos (by assumption)]
        exact o2
      · rename_i w x2
        refine za1 (ih (k + 1, v) _ (by dsimp only; omega) ⟨hlt, by (focus repeat' first | exact Ext.refl _ | assumption | apply Ext.push | (refine Ext.trans ?_ (by assumption))), ?_⟩) (by (focus repeat' first | rfl | exact trivial | apply And.intro))
        rw [zgJ, if_neg (by assumption), List.append_nil]
        exact ho.ext x2
    · obtain rfl : k = G.n := by omega
      (repeat' (first | apply zan | apply zac | (apply O_at; rfl) | (apply zag; rfl) | apply zah | (apply zaG; rfl) | apply zbk | apply zay | apply zbl | apply za5 | apply za6 | apply zar | ((first | apply zae | apply zad); rfl; rfl; rfl; rfl) | (apply zbE; rfl; rfl; rfl; rfl; rfl; omega) | fail))
      exact ⟨.inr rfl, _, rfl, ho.isL hx⟩
  · exact ⟨Nat.zero_le _, Ext.refl _, .inl ⟨rfl, rfl⟩⟩
  · (focus repeat' first | rfl | exact trivial | apply And.intro)
end Go.AX.Sa
