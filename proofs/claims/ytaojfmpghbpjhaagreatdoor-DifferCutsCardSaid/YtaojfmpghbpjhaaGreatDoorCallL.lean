/- Arguments that lie in many blocks: lists of lists. -/
import Derived.Test.YtaojfmpghbpjhaaGreatDoorCall
import Derived.Test.YtaojfmpghbpjhaaGreatDoorSwM
namespace Go.AX.Sa
open Go.Proofs Go.RowKit Go.ChangeShapes Go.WideShapes
set_option maxRecDepth 100000

/-- A slice that lies in a block of the machine, or an empty one without room. -/
def ArgI (w : World) (v : Value) (len : Nat) (c : List Value) : Prop := Arg w v len c ∨ (len = 0 ∧ c = [] ∧ ∃ a, v = .slice (some a) 0 0)

section
variable {H : Type} {enc : TypeId × Value → H} {w : World} {base : Nat} {held : Bool}

theorem cellsOf25 : Tryz.prog.cellsOf 25 = 1 := by kernel_rfl

theorem spot_none {b o : Nat} {sp : Option Nat} {u : Value} (h : w.cell? ((⟨b, o, sp⟩ : Addr).add 0) = some u) : sp = none := by
  rw [show (⟨b, o, sp⟩ : Addr).add 0 = ⟨b, o, sp⟩ from rfl] at h
  unfold World.cell? at h
  cases sp with
  | none => rfl
  | some s => dsimp only at h; split at h <;> simp at h

/-- A list of numbers within a list. -/
theorem open_inner {fuel : Nat} {c : Value} {x : DataW H × List MemPlace} (h : DataW.trod enc Tryz.prog w base (fun _ => true) held fuel 25 [c] = some x) : ∃ t : List Int, ArgI w c t.length (ints t) := by
  rcases open_ints Tryz.underlying25 Tryz.underlying3 cellsOf3 h with ⟨hcs, _⟩ | ⟨a, len, cap, zs, hcs, _, hl, hm, hz, _, hcell, _⟩
  · simp at hcs; subst hcs; exact ⟨[], .inl (.inl ⟨rfl, rfl, rfl⟩)⟩
  · simp at hcs; subst hcs
    simp at hz
    by_cases hc : cap = 0
    · subst hc
      obtain rfl : len = 0 := by omega
      exact ⟨[], .inr ⟨rfl, rfl, a, rfl⟩⟩
    · obtain ⟨b, o, sp⟩ := a
      have hsp : sp = none := spot_none (hcell 0 (by omega))
      subst hsp
      have hzl : len ≤ zs.length := by omega
      refine ⟨zs.take len, .inl (.inr ⟨b, o, cap, by simp [Nat.min_eq_left hzl], by simp; omega, fun i u q => ?_⟩)⟩
      have hi : i < (zs.take len).length := by have := (List.getElem?_eq_some_iff.1 q).1; simpa [ints] using this
      have hi2 : i < zs.length := by simp at hi; omega
      have := hcell i hi2
      rw [add_none] at this
      rw [this]
      have hi3 : i < len := by simp at hi; omega
      simp [ints, hi3, List.getElem?_eq_getElem hi2] at q
      rw [← q]
      simp [List.getD_eq_getElem?_getD, hi2]

/-- A list of lists of numbers. -/
theorem open_lists {r : Reach} {b0 : Nat} {v : Value} {d : DataW H} {ps : List MemPlace} (hval : Value.okWide Tryz.prog w r b0 40 v) (hd : DataW.Trod enc Tryz.prog w base (fun _ => true) held 40 v d ps) :
    ∃ (us : List Value) (ss : List (List Int)), us.length = ss.length ∧ Arg w v us.length us ∧ ∀ (j : Nat) (u : Value) (s : List Int), us[j]? = some u → ss[j]? = some s → ArgI w u s.length (ints s) := by
  have hval' := hval
  obtain ⟨a0, len, cap, rfl⟩ := okWide_slice Tryz.underlying40 hval
  obtain ⟨fuel, hf⟩ := hd
  rcases DataW.trod_slice Tryz.underlying40 hf with ⟨hcs, hx⟩ | ⟨a, len', cap', elems, rest, n, _, hcs, _, _, hl, hm, hlen, hel, _, _⟩
  · simp [Value.cells] at hcs
    obtain ⟨rfl, rfl, rfl⟩ := hcs
    exact ⟨[], [], rfl, .inl ⟨rfl, rfl, rfl⟩, fun j u s q => by simp at q⟩
  · simp [Value.cells] at hcs
    obtain ⟨rfl, rfl, rfl⟩ := hcs
    obtain ⟨b, o, sp⟩ := a
    simp only [Value.okWide, Tryz.underlying40, Cell.okWide, Cell.ok] at hval'
    have hsp := hval'.2.2.2.1
    simp only at hsp
    subst hsp
    have each : ∀ i, i < len → ∃ (u : Value) (t : List Int), w.cell? ⟨b, o + i, none⟩ = some u ∧ ArgI w u t.length (ints t) := by
      intro i hi
      have hi' : i < elems.length := by omega
      have e := hel i hi
      rw [List.getElem?_eq_getElem hi', Option.bind_eq_some_iff] at e
      obtain ⟨c2, hc2, ht⟩ := e
      rw [cellsOf25, Nat.mul_one, add_none] at hc2
      obtain ⟨_, hlen2, hcell⟩ := World.cells?_some hc2
      match c2, hlen2 with
      | [u0], _ =>
        obtain ⟨t, hA⟩ := open_inner ht
        have q0 := hcell 0 (by omega)
        rw [add_none] at q0
        exact ⟨u0, t, by simpa using q0, hA⟩
    have mk : ∀ k, k ≤ len → ∃ (us : List Value) (ss : List (List Int)), us.length = k ∧ ss.length = k ∧ (∀ (i : Nat) (u : Value), us[i]? = some u → w.cell? ⟨b, o + i, none⟩ = some u) ∧ ∀ (j : Nat) (u : Value) (s : List Int), us[j]? = some u → ss[j]? = some s → ArgI w u s.length (ints s) := by
      intro k
      induction k with
      | zero => intro _; exact ⟨[], [], rfl, rfl, fun i u q => by simp at q, fun j u s q => by simp at q⟩
      | succ k ih =>
        intro hk
        obtain ⟨us, ss, h1, h2, h3, h4⟩ := ih (by omega)
        obtain ⟨u0, t, q0, hA⟩ := each k (by omega)
        refine ⟨us ++ [u0], ss ++ [t], by simp [h1], by simp [h2], fun i u q => ?_, fun j u s q q' => ?_⟩
        · by_cases hi1 : i < us.length
          · rw [List.getElem?_append_left hi1] at q; exact h3 i u q
          · have hi2 : i = k := by
              have := (List.getElem?_eq_some_iff.1 q).1
              simp at this; omega
            subst hi2
            rw [← h1, List.getElem?_append_right (Nat.le_refl _), Nat.sub_self] at q
            cases q; exact q0
        · by_cases hi1 : j < us.length
          · rw [List.getElem?_append_left hi1] at q
            rw [List.getElem?_append_left (by omega)] at q'
            exact h4 j u s q q'
          · have hi2 : j = k := by
              have := (List.getElem?_eq_some_iff.1 q).1
              simp at this; omega
            rw [hi2, ← h1, List.getElem?_append_right (Nat.le_refl _), Nat.sub_self] at q
            rw [hi2, ← h2, List.getElem?_append_right (Nat.le_refl _), Nat.sub_self] at q'
            cases q; cases q'; exact hA
    obtain ⟨us, ss, h1, h2, h3, h4⟩ := mk len (Nat.le_refl _)
    exact ⟨us, ss, by omega, .inr ⟨b, o, cap, by rw [h1], by omega, h3⟩, h4⟩
end
end Go.AX.Sa

namespace Go.AX.Sa
open Go.Proofs Go.RowKit
set_option maxRecDepth 100000

/-! Arguments that lie in any number of blocks. -/
def hB (Bs : List Blk) : Heap := { n := 7 + Bs.length, bs := .ofL (Bs.reverse ++ List.replicate 7 .dead) }
theorem hB_get {Bs : List Blk} {i : Nat} (h : i < Bs.length) : (hB Bs).get? (7 + i) = Bs[i]? := by
  unfold Heap.get? hB
  dsimp only
  rw [if_pos (by omega), get_ofL', List.getElem?_append_left (by simp; omega), List.getElem?_reverse (by omega)]
  congr 1; omega
theorem hB_low {Bs : List Blk} {A : Nat} {b : Blk} (hA : A < 7) (h : (hB Bs).get? A = some b) : b = .dead := by
  unfold Heap.get? hB at h
  dsimp only at h
  rw [if_pos (by omega), get_ofL', List.getElem?_append_right (by simp; omega), List.getElem?_replicate] at h
  split at h
  · cases h; rfl
  · cases h
def rhoB (S : List Slot) : Ren := fun A => if A < 7 then some ⟨A, 0, 0⟩ else S[A - 7]?
theorem rhoB_at {S : List Slot} (i : Nat) : rhoB S (7 + i) = S[i]? := by unfold rhoB; rw [if_neg (by omega)]; congr 1; omega
/-- Blocks that are read only, each with its slot. -/
theorem R_B {w : World} {S : List Slot} {Bs : List Blk} (hl : S.length = Bs.length) (hb : ∀ (i : Nat) (s : Slot) (b : Blk), S[i]? = some s → Bs[i]? = some b → BR Tryz.prog (rhoB S) w s b ∧ own b = false) :
    R Tryz.prog (fun g => g < w.heap.size) w (rhoB S) (hB Bs) w := by
  have key : ∀ A s b, rhoB S A = some s → (hB Bs).get? A = some b → BR Tryz.prog (rhoB S) w s b ∧ own b = false := by
    intro A s b e f
    by_cases hA : A < 7
    · rw [hB_low hA f]; exact ⟨.dead, rfl⟩
    · obtain ⟨i, rfl⟩ : ∃ i, A = 7 + i := ⟨A - 7, by omega⟩
      rw [rhoB_at] at e
      have hi : i < Bs.length := by have := (List.getElem?_eq_some_iff.1 e).1; omega
      rw [hB_get hi] at f
      exact hb i s b e f
  exact {
    below := Kept.refl _ _
    size := fun g h => h
    dom := fun A s e => by
      show A < 7 + Bs.length
      unfold rhoB at e
      split at e
      · omega
      · have := (List.getElem?_eq_some_iff.1 e).1; omega
    glob := fun g h => ⟨⟨g, 0, 0⟩, by rw [gSize] at h; unfold rhoB; rw [if_pos h], rfl, rfl⟩
    blk := fun A s b e f => (key A s b e f).1
    mine := fun A s b e f ho => by rw [(key A s b e f).2] at ho; cases ho
    inj := fun A B s t b c ea eb fa fb ho hl hAB => by rw [(key A s b ea fa).2] at ho; cases ho }

theorem own_blkOf (c : List Value) (e : TypeId) : own (blkOf c e) = false := by unfold blkOf; split <;> rfl

theorem vr_sliceI {w : World} {v : Value} {n : Nat} {c : List Value} {ρ : Ren} {B : Nat} (hA : ArgI w v n c) (hρ : ρ B = some (slotOf v)) : VR ρ (.slice (absOf B v).1 n (absOf B v).2) v := by
  rcases hA with hA | ⟨rfl, rfl, a, rfl⟩
  · exact vr_slice hA hρ
  · exact .slice0 rfl (.inl rfl) (.inl rfl)
theorem blk_brI {ρ : Ren} {w : World} {v : Value} {n : Nat} {c : List Value} {e : TypeId} (hA : ArgI w v n c) (hi : ∀ u ∈ c, ∃ z, u = Value.int .i64 z) (hc : n = 0 → c = []) : BR Tryz.prog ρ w (slotOf v) (blkOf c e) := by
  rcases hA with hA | ⟨rfl, rfl, a, rfl⟩
  · exact blk_br hA hi hc
  · exact .dead
theorem rd_ofI {w : World} {v : Value} {n B : Nat} {c : List Value} {e : TypeId} {h : Heap} (hA : ArgI w v n c) (hg : h.get? B = some (blkOf c e)) : Rd h (absOf B v).1 c := by
  rcases hA with hA | ⟨rfl, rfl, a, rfl⟩
  · exact rd_of hA hg
  · exact .inl rfl

/-- The inner slices, as the reading has them: from the block k on. -/
def rowsOf (k : Nat) : List Value → List (List Int) → List Value
  | u :: us, s :: ss => .slice (absOf k u).1 s.length (absOf k u).2 :: rowsOf (k + 1) us ss
  | _, _ => []
theorem rowsOf_len : ∀ (us : List Value) (ss : List (List Int)) (k : Nat), us.length = ss.length → (rowsOf k us ss).length = ss.length := by
  intro us
  induction us with
  | nil => intro ss k h; cases ss with
    | nil => rfl
    | cons s ss => simp at h
  | cons u us ih => intro ss k h; cases ss with
    | nil => simp at h
    | cons s ss => simp only [rowsOf, List.length_cons] at h ⊢; rw [ih ss (k + 1) (by omega)]
theorem rowsOf_get : ∀ (us : List Value) (ss : List (List Int)) (k j : Nat) (u : Value) (s : List Int), us[j]? = some u → ss[j]? = some s → (rowsOf k us ss)[j]? = some (.slice (absOf (k + j) u).1 s.length (absOf (k + j) u).2) := by
  intro us
  induction us with
  | nil => intro ss k j u s h; simp at h
  | cons u0 us ih => intro ss k j u s h h'; cases ss with
    | nil => simp at h'
    | cons s0 ss =>
      cases j with
      | zero => simp at h h'; subst h; subst h'; rfl
      | succ j =>
        have h1 : us[j]? = some u := by simpa using h
        have h2 : ss[j]? = some s := by simpa using h'
        have := ih ss (k + 1) j u s h1 h2
        rw [show k + 1 + j = k + (j + 1) from by omega] at this
        exact this

theorem XR_4 {ρ : Ren} {a a' b b' c c' d d' : Value} (h1 : VR ρ a a') (h2 : VR ρ b b') (h3 : VR ρ c c') (h4 : VR ρ d d') : XR ρ #[a, b, c, d] #[a', b', c', d'] := LR.cons h1 (LR.cons h2 (LR.cons h3 (LR.cons h4 (LR.nil ρ))))

/-- From what the reading says to what the machine does, for a plan, a list, a list of lists and a number. -/
theorem plan_list_lists_int {f : FuncId} {w : World} (hg : GoodW w) {s v x : Value} {rows guard size : Int} {l : List (Int × Int)} {t : List Int} {us : List Value} {ss : List (List Int)}
    (h0 : Arg w s l.length (spanCells l)) (h1 : Arg w v t.length (ints t)) (hul : us.length = ss.length) (h2 : Arg w x us.length us) (h3 : ∀ (j : Nat) (u : Value) (s : List Int), us[j]? = some u → ss[j]? = some s → ArgI w u s.length (ints s))
    (H : ∀ (p q r : Option Addr) (cap cap' cap2 : Nat) (h : Heap), Rd h p (spanCells l) → Rd h q (ints t) → RdW h r ss → CallW Tryz.prog KO f #[.agg #[.slice p l.length cap, .int .i64 rows, .int .i64 guard], .slice q t.length cap', .slice r ss.length cap2, .int .i64 size] h fun v _ => v = .bool true) :
    Calls Tryz.prog f #[.agg #[s, .int .i64 rows, .int .i64 guard], v, x, .int .i64 size] w fun e w' => e = .returned (.bool true) ∧ Below w.heap.size w w' := by
  let Bs : List Blk := blkOf (spanCells l) 27 :: blkOf (ints t) 3 :: blkOf (rowsOf 10 us ss) 25 :: ss.map fun z => blkOf (ints z) 3
  let S : List Slot := slotOf s :: slotOf v :: slotOf x :: us.map slotOf
  have hS : S.length = Bs.length := by simp [S, Bs, hul]
  have g0 : (hB Bs).get? 7 = some (blkOf (spanCells l) 27) := hB_get (i := 0) (by simp [Bs])
  have g1 : (hB Bs).get? 8 = some (blkOf (ints t) 3) := hB_get (i := 1) (by simp [Bs])
  have g2 : (hB Bs).get? 9 = some (blkOf (rowsOf 10 us ss) 25) := hB_get (i := 2) (by simp [Bs])
  have g3 : ∀ (j : Nat) (z : List Int), ss[j]? = some z → (hB Bs).get? (10 + j) = some (blkOf (ints z) 3) := by
    intro j z hz
    have hj := (List.getElem?_eq_some_iff.1 hz).1
    have := hB_get (Bs := Bs) (i := j + 3) (by simp [Bs]; omega)
    rw [show 7 + (j + 3) = 10 + j from by omega] at this
    rw [this]
    simp [Bs, hz]
  have r0 : rhoB S 7 = some (slotOf s) := rfl
  have r1 : rhoB S 8 = some (slotOf v) := rfl
  have r2 : rhoB S 9 = some (slotOf x) := rfl
  have r3 : ∀ (j : Nat) (u : Value), us[j]? = some u → rhoB S (10 + j) = some (slotOf u) := by
    intro j u hu
    have := rhoB_at (S := S) (j + 3)
    rw [show 7 + (j + 3) = 10 + j from by omega] at this
    rw [this]
    simp [S, hu]
  have hlen := rowsOf_len us ss 10 hul
  have hrow : ∀ j, j < ss.length → ∃ u z, us[j]? = some u ∧ ss[j]? = some z ∧ ss.getD j [] = z := fun j hj =>
    ⟨us[j]'(by omega), ss[j], List.getElem?_eq_getElem (by omega), List.getElem?_eq_getElem hj, by simp [List.getD_eq_getElem?_getD, hj]⟩
  have hW : RdW (hB Bs) (absOf 9 x).1 ss := by
    by_cases hss : ss = []
    · exact .inl hss
    · have hpos : 0 < ss.length := by cases ss with
        | nil => exact absurd rfl hss
        | cons a b => simp
      have hax : (absOf 9 x).1 = some ⟨9, 0, none⟩ := by
        rcases h2 with ⟨q, _, _⟩ | ⟨b, o, cap, rfl, _, _⟩
        · omega
        · rfl
      refine .inr ⟨9, rowsOf 10 us ss, 25, false, hax, ?_, hlen, fun j hj => ?_⟩
      · rw [g2]; unfold blkOf; rw [if_neg (fun q => by rw [q] at hlen; simp at hlen; omega)]
      · obtain ⟨u, z, hu, hz, hd⟩ := hrow j hj
        rw [hd]
        refine ⟨_, _, rowsOf_get us ss 10 j u z hu hz, rd_ofI (h3 j u z hu hz) (g3 j z hz), fun a ha => ?_⟩
        have hab : ∀ (v : Value) (B : Nat) (a : Addr), (absOf B v).1 = some a → a.block = B := by
          intro v B a e
          unfold absOf at e
          split at e
          · cases e; rfl
          · cases e
        rw [hab _ _ _ ha]
        show 10 + j < 7 + Bs.length
        simp [Bs]; omega
  obtain ⟨n, r, hh, hr, rfl⟩ := H (absOf 7 s).1 (absOf 8 v).1 (absOf 9 x).1 (absOf 7 s).2 (absOf 8 v).2 (absOf 9 x).2 (hB Bs) (rd_of h0 g0) (rd_of h1 g1) hW
  have hR : R Tryz.prog (fun g => g < w.heap.size) w (rhoB S) (hB Bs) w := by
    refine R_B hS fun i z b e f => ?_
    match i, e, f with
    | 0, e, f =>
      simp [S] at e; simp [Bs] at f; subst e; subst f
      exact ⟨blk_br h0 (spans_int l) (fun e => by cases l with | nil => rfl | cons a l => simp at e), own_blkOf _ _⟩
    | 1, e, f =>
      simp [S] at e; simp [Bs] at f; subst e; subst f
      exact ⟨blk_br h1 (ints_int t) (fun e => by cases t with | nil => rfl | cons a l => simp at e), own_blkOf _ _⟩
    | 2, e, f =>
      simp [S] at e; simp [Bs] at f; subst e; subst f
      refine ⟨?_, own_blkOf _ _⟩
      by_cases hne : rowsOf 10 us ss = []
      · unfold blkOf; rw [if_pos hne]; exact .dead
      · unfold blkOf; rw [if_neg hne]
        rcases h2 with ⟨q, _, _⟩ | ⟨b, o, cap, rfl, _, hcell⟩
        · exfalso
          apply hne
          have : ss.length = 0 := by omega
          exact List.eq_nil_of_length_eq_zero (by omega)
        · have hpos : 0 < ss.length := by
            cases hq : rowsOf 10 us ss with
            | nil => exact absurd hq hne
            | cons a l => rw [hq] at hlen; simp at hlen; omega
          obtain ⟨u0, _, hu0, _⟩ := hrow 0 hpos
          have hc0 := hcell 0 u0 hu0
          obtain ⟨cur, t', fr, hw⟩ : ∃ cur t fr, w.heap[b]? = some (.cells cur t fr) := by
            unfold World.cell? at hc0
            simp only at hc0
            split at hc0
            · rename_i cs t fr hw; exact ⟨cs, t, fr, hw⟩
            · cases hc0
          refine .ro cur t' fr hw fun i v hv => ?_
          have hi : i < ss.length := by have := (List.getElem?_eq_some_iff.1 hv).1; omega
          obtain ⟨u, z, hu, hz, _⟩ := hrow i hi
          rw [rowsOf_get us ss 10 i u z hu hz] at hv
          cases hv
          refine ⟨rfl, u, ?_, vr_sliceI (h3 i u z hu hz) (r3 i u hu)⟩
          have h5 := hcell i u hu
          unfold World.cell? at h5
          simp only [hw] at h5
          exact h5
    | i + 3, e, f =>
      have e' : (us.map slotOf)[i]? = some z := by simpa [S] using e
      have f' : (ss.map fun z => blkOf (ints z) 3)[i]? = some b := by simpa [Bs] using f
      rw [List.getElem?_map, Option.map_eq_some_iff] at e' f'
      obtain ⟨u, hu, rfl⟩ := e'
      obtain ⟨s', hs', rfl⟩ := f'
      exact ⟨blk_brI (h3 i u s' hu hs') (ints_int s') (fun e => by cases s' with | nil => rfl | cons a l => simp at e), own_blkOf _ _⟩
  refine run_calls_plain hmx known_ok rfl hr hR ?_ (good_safe hg)
  refine XR_4 (VR.agg' (XR_3 (vr_slice h0 r0) (.int _ _) (.int _ _))) (vr_slice h1 r1) ?_ (.int _ _)
  rw [← hul]
  exact vr_slice h2 r2
end Go.AX.Sa
