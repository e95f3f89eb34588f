/- Arguments that lie in many blocks. -/
import Derived.Test.YtaojfmpghbpjhaaGreatDoorCall
namespace Go.AX.Sa
open Go.Proofs Go.RowKit Go.ChangeShapes Go.WideShapes
set_option maxRecDepth 100000

/-- A slice that lies in a block of the machine, or an empty one without room. -/
def ArgI (w : World) (v : Value) (len : Nat) (c : List Value) : Prop := Arg w v len c ∨ (len = 0 ∧ c = [] ∧ ∃ a, v = .slice (some a) 0 0)

section
variable {H : Type} {enc : TypeId × Value → H} {w : World} {base : Nat} {held : Bool}

theorem cellsOf25 : Tryz.prog.cellsOf 25 = 1 := by kernel_rfl

theorem spot_none {b o : Nat} {sp : Option Nat} {u : Value} (h : w.cell? ((⟨b, o, sp⟩ : Addr).add 0) = some u) : sp = none := by
  rw [show (⟨b, o, sp⟩ : Addr).add 0 = ⟨b, o, sp⟩ from rfl] at h
  unfold World.cell? at h
  cases sp with
  | none => rfl
  | some s => dsimp only at h; split at h <;> simp at h

/-- A list of numbers within a list. -/
theorem open_inner {fuel : Nat} {c : Value} {x : DataW H × List MemPlace} (h : DataW.trod enc Tryz.prog w base (fun _ => true) held fuel 25 [c] = some x) : ∃ t : List Int, ArgI w c t.length (ints t) := by
  rcases open_ints Tryz.underlying25 Tryz.underlying3 cellsOf3 h with ⟨hcs, _⟩ | ⟨a, len, cap, zs, hcs, _, hl, hm, hz, _, hcell, _⟩
  · simp at hcs; subst hcs; exact ⟨[], .inl (.inl ⟨rfl, rfl, rfl⟩)⟩
  · simp at hcs; subst hcs
    simp at hz
    by_cases hc : cap = 0
    · subst hc
      obtain rfl : len = 0 := by omega
      exact ⟨[], .inr ⟨rfl, rfl, a, rfl⟩⟩
    · obtain ⟨b, o, sp⟩ := a
      have hsp : sp = none := spot_none (hcell 0 (by omega))
      subst hsp
      have hzl : len ≤ zs.length := by omega
      refine ⟨zs.take len, .inl (.inr ⟨b, o, cap, by simp [Nat.min_eq_left hzl], by simp; omega, fun i u q => ?_⟩)⟩
      have hi : i < (zs.take len).length := by have := (List.getElem?_eq_some_iff.1 q).1; simpa [ints] using this
      have hi2 : i < zs.length := by simp at hi; omega
      have := hcell i hi2
      rw [add_none] at this
      rw [this]
      have hi3 : i < len := by simp at hi; omega
      simp [ints, hi3, List.getElem?_eq_getElem hi2] at q
      rw [← q]
      simp [List.getD_eq_getElem?_getD, hi2]

/-- A list of lists of numbers. -/
theorem open_lists {r : Reach} {b0 : Nat} {v : Value} {d : DataW H} {ps : List MemPlace} (hval : Value.okWide Tryz.prog w r b0 40 v) (hd : DataW.Trod enc Tryz.prog w base (fun _ => true) held 40 v d ps) :
    ∃ (us : List Value) (ss : List (List Int)), us.length = ss.length ∧ Arg w v us.length us ∧ ∀ (j : Nat) (u : Value) (s : List Int), us[j]? = some u → ss[j]? = some s → ArgI w u s.length (ints s) := by
  have hval' := hval
  obtain ⟨a0, len, cap, rfl⟩ := okWide_slice Tryz.underlying40 hval
  obtain ⟨fuel, hf⟩ := hd
  rcases DataW.trod_slice Tryz.underlying40 hf with ⟨hcs, hx⟩ | ⟨a, len', cap', elems, rest, n, _, hcs, _, _, hl, hm, hlen, hel, _, _⟩
  · simp [Value.cells] at hcs
    obtain ⟨rfl, rfl, rfl⟩ := hcs
    exact ⟨[], [], rfl, .inl ⟨rfl, rfl, rfl⟩, fun j u s q => by simp at q⟩
  · simp [Value.cells] at hcs
    obtain ⟨rfl, rfl, rfl⟩ := hcs
    obtain ⟨b, o, sp⟩ := a
    simp only [Value.okWide, Tryz.underlying40, Cell.okWide, Cell.ok] at hval'
    have hsp := hval'.2.2.2.1
    simp only at hsp
    subst hsp
    have each : ∀ i, i < len → ∃ (u : Value) (t : List Int), w.cell? ⟨b, o + i, none⟩ = some u ∧ ArgI w u t.length (ints t) := by
      intro i hi
      have hi' : i < elems.length := by omega
      have e := hel i hi
      rw [List.getElem?_eq_getElem hi', Option.bind_eq_some_iff] at e
      obtain ⟨c2, hc2, ht⟩ := e
      rw [cellsOf25, Nat.mul_one, add_none] at hc2
      obtain ⟨_, hlen2, hcell⟩ := World.cells?_some hc2
      match c2, hlen2 with
      | [u0], _ =>
        obtain ⟨t, hA⟩ := open_inner ht
        have q0 := hcell 0 (by omega)
        rw [add_none] at q0
        exact ⟨u0, t, by simpa using q0, hA⟩
    have mk : ∀ k, k ≤ len → ∃ (us : List Value) (ss : List (List Int)), us.length = k ∧ ss.length = k ∧ (∀ (i : Nat) (u : Value), us[i]? = some u → w.cell? ⟨b, o + i, none⟩ = some u) ∧ ∀ (j : Nat) (u : Value) (s : List Int), us[j]? = some u → ss[j]? = some s → ArgI w u s.length (ints s) := by
      intro k
      induction k with
      | zero => intro _; exact ⟨[], [], rfl, rfl, fun i u q => by simp at q, fun j u s q => by simp at q⟩
      | succ k ih =>
        intro hk
        obtain ⟨us, ss, h1, h2, h3, h4⟩ := ih (by omega)
        obtain ⟨u0, t, q0, hA⟩ := each k (by omega)
        refine ⟨us ++ [u0], ss ++ [t], by simp [h1], by simp [h2], fun i u q => ?_, fun j u s q q' => ?_⟩
        · by_cases hi1 : i < us.length
          · rw [List.getElem?_append_left hi1] at q; exact h3 i u q
          · have hi2 : i = k := by
              have := (List.getElem?_eq_some_iff.1 q).1
              simp at this; omega
            subst hi2
            rw [← h1, List.getElem?_append_right (Nat.le_refl _), Nat.sub_self] at q
            cases q; exact q0
        · by_cases hi1 : j < us.length
          · rw [List.getElem?_append_left hi1] at q
            rw [List.getElem?_append_left (by omega)] at q'
            exact h4 j u s q q'
          · have hi2 : j = k := by
              have := (List.getElem?_eq_some_iff.1 q).1
              simp at this; omega
            rw [hi2, ← h1, List.getElem?_append_right (Nat.le_refl _), Nat.sub_self] at q
            rw [hi2, ← h2, List.getElem?_append_right (Nat.le_refl _), Nat.sub_self] at q'
            cases q; cases q'; exact hA
    obtain ⟨us, ss, h1, h2, h3, h4⟩ := mk len (Nat.le_refl _)
    exact ⟨us, ss, by omega, .inr ⟨b, o, cap, by rw [h1], by omega, h3⟩, h4⟩
/-- A span. -/
theorem open_span {spare : Nat → Bool} {r : Reach} {b0 : Nat} {v : Value} {d : DataW H} {ps : List MemPlace} (hval : Value.okWide Tryz.prog w r b0 27 v) (hd : DataW.Trod enc Tryz.prog w base spare held 27 v d ps) : ∃ a : Int × Int, v = .agg #[.int .i64 a.1, .int .i64 a.2] := by
  simp only [Value.okWide, Tryz.underlying27] at hval
  obtain ⟨cs, rfl, hsz, _⟩ := hval
  rw [cellsOf45] at hsz
  obtain ⟨c0, c1, rfl⟩ : ∃ c0 c1, cs = #[c0, c1] := by
    obtain ⟨l⟩ := cs
    match l, hsz with
    | [a, b], _ => exact ⟨a, b, rfl⟩
  obtain ⟨fuel, hf⟩ := hd
  obtain ⟨y0, y1, m, _, _, h0, h1⟩ := trod_struct2 Tryz.underlying27 hf
  simp only [Value.cells, cellsOf3, List.drop_zero, List.take_succ_cons, List.take_zero, List.drop_succ_cons] at h0 h1
  obtain ⟨n0, e0, _, _⟩ := DataW.trod_int Tryz.underlying3 h0
  obtain ⟨n1, e1, _, _⟩ := DataW.trod_int Tryz.underlying3 h1
  simp only [List.cons.injEq, and_true] at e0 e1
  subst e0; subst e1
  exact ⟨(n0, n1), rfl⟩
end
end Go.AX.Sa

namespace Go.AX.Sa
open Go.Proofs Go.RowKit
set_option maxRecDepth 100000

/-! Arguments that lie in any number of blocks. -/
def hB (Bs : List Blk) : Heap := { n := 7 + Bs.length, bs := .ofL (Bs.reverse ++ List.replicate 7 .dead) }
theorem hB_get {Bs : List Blk} {i : Nat} (h : i < Bs.length) : (hB Bs).get? (7 + i) = Bs[i]? := by
  unfold Heap.get? hB
  dsimp only
  rw [if_pos (by omega), get_ofL', List.getElem?_append_left (by simp; omega), List.getElem?_reverse (by omega)]
  congr 1; omega
theorem hB_low {Bs : List Blk} {A : Nat} {b : Blk} (hA : A < 7) (h : (hB Bs).get? A = some b) : b = .dead := by
  unfold Heap.get? hB at h
  dsimp only at h
  rw [if_pos (by omega), get_ofL', List.getElem?_append_right (by simp; omega), List.getElem?_replicate] at h
  split at h
  · cases h; rfl
  · cases h
def rhoB (S : List Slot) : Ren := fun A => if A < 7 then some ⟨A, 0, 0⟩ else S[A - 7]?
theorem rhoB_at {S : List Slot} (i : Nat) : rhoB S (7 + i) = S[i]? := by unfold rhoB; rw [if_neg (by omega)]; congr 1; omega
/-- Blocks that are read only, each with its slot. -/
theorem R_B {w : World} {S : List Slot} {Bs : List Blk} (hl : S.length = Bs.length) (hb : ∀ (i : Nat) (s : Slot) (b : Blk), S[i]? = some s → Bs[i]? = some b → BR Tryz.prog (rhoB S) w s b ∧ own b = false) :
    R Tryz.prog (fun g => g < w.heap.size) w (rhoB S) (hB Bs) w := by
  have key : ∀ A s b, rhoB S A = some s → (hB Bs).get? A = some b → BR Tryz.prog (rhoB S) w s b ∧ own b = false := by
    intro A s b e f
    by_cases hA : A < 7
    · rw [hB_low hA f]; exact ⟨.dead, rfl⟩
    · obtain ⟨i, rfl⟩ : ∃ i, A = 7 + i := ⟨A - 7, by omega⟩
      rw [rhoB_at] at e
      have hi : i < Bs.length := by have := (List.getElem?_eq_some_iff.1 e).1; omega
      rw [hB_get hi] at f
      exact hb i s b e f
  exact {
    below := Kept.refl _ _
    size := fun g h => h
    dom := fun A s e => by
      show A < 7 + Bs.length
      unfold rhoB at e
      split at e
      · omega
      · have := (List.getElem?_eq_some_iff.1 e).1; omega
    glob := fun g h => ⟨⟨g, 0, 0⟩, by rw [gSize] at h; unfold rhoB; rw [if_pos h], rfl, rfl⟩
    blk := fun A s b e f => (key A s b e f).1
    mine := fun A s b e f ho => by rw [(key A s b e f).2] at ho; cases ho
    inj := fun A B s t b c ea eb fa fb ho hl hAB => by rw [(key A s b ea fa).2] at ho; cases ho }

theorem own_blkOf (c : List Value) (e : TypeId) : own (blkOf c e) = false := by unfold blkOf; split <;> rfl

theorem vr_sliceI {w : World} {v : Value} {n : Nat} {c : List Value} {ρ : Ren} {B : Nat} (hA : ArgI w v n c) (hρ : ρ B = some (slotOf v)) : VR ρ (.slice (absOf B v).1 n (absOf B v).2) v := by
  rcases hA with hA | ⟨rfl, rfl, a, rfl⟩
  · exact vr_slice hA hρ
  · exact .slice0 rfl (.inl rfl) (.inl rfl)
theorem blk_brI {ρ : Ren} {w : World} {v : Value} {n : Nat} {c : List Value} {e : TypeId} (hA : ArgI w v n c) (hi : ∀ u ∈ c, ∃ z, u = Value.int .i64 z) (hc : n = 0 → c = []) : BR Tryz.prog ρ w (slotOf v) (blkOf c e) := by
  rcases hA with hA | ⟨rfl, rfl, a, rfl⟩
  · exact blk_br hA hi hc
  · exact .dead
theorem rd_ofI {w : World} {v : Value} {n B : Nat} {c : List Value} {e : TypeId} {h : Heap} (hA : ArgI w v n c) (hg : h.get? B = some (blkOf c e)) : Rd h (absOf B v).1 c := by
  rcases hA with hA | ⟨rfl, rfl, a, rfl⟩
  · exact rd_of hA hg
  · exact .inl rfl

theorem XR_4 {ρ : Ren} {a a' b b' c c' d d' : Value} (h1 : VR ρ a a') (h2 : VR ρ b b') (h3 : VR ρ c c') (h4 : VR ρ d d') : XR ρ #[a, b, c, d] #[a', b', c', d'] := LR.cons h1 (LR.cons h2 (LR.cons h3 (LR.cons h4 (LR.nil ρ))))

theorem absOf_block (v : Value) (B : Nat) (a : Addr) (e : (absOf B v).1 = some a) : a.block = B := by
  unfold absOf at e
  split at e
  · cases e; rfl
  · cases e
theorem XR_6' {ρ : Ren} {a a' b b' c c' d d' e e' f f' : Value} (h1 : VR ρ a a') (h2 : VR ρ b b') (h3 : VR ρ c c') (h4 : VR ρ d d') (h5 : VR ρ e e') (h6 : VR ρ f f') : XR ρ #[a, b, c, d, e, f] #[a', b', c', d', e', f'] := LR.cons h1 (LR.cons h2 (LR.cons h3 (LR.cons h4 (LR.cons h5 (LR.cons h6 (LR.nil ρ))))))
theorem XR_2 {ρ : Ren} {a a' b b' : Value} (h1 : VR ρ a a') (h2 : VR ρ b b') : XR ρ #[a, b] #[a', b'] := LR.cons h1 (LR.cons h2 (LR.nil ρ))
/-- The same for a plan, two lists, a number, a span and a number. -/
theorem plan_list_list_span {f : FuncId} {w : World} (hg : GoodW w) {s v x : Value} {rows guard start rr : Int} {z : Int × Int} {l : List (Int × Int)} {t u : List Int}
    (h0 : Arg w s l.length (spanCells l)) (h1 : Arg w v t.length (ints t)) (h2 : Arg w x u.length (ints u))
    (H : ∀ (p q r : Option Addr) (cap cap' cap2 : Nat) (h : Heap), (∀ a, p = some a → a.block < h.n) → Rd h p (spanCells l) → Rd h q (ints t) → Rd h r (ints u) → CallW Tryz.prog KO f #[.agg #[.slice p l.length cap, .int .i64 rows, .int .i64 guard], .slice q t.length cap', .slice r u.length cap2, .int .i64 start, .agg #[.int .i64 z.1, .int .i64 z.2], .int .i64 rr] h fun v _ => v = .bool true) :
    Calls Tryz.prog f #[.agg #[s, .int .i64 rows, .int .i64 guard], v, x, .int .i64 start, .agg #[.int .i64 z.1, .int .i64 z.2], .int .i64 rr] w fun e w' => e = .returned (.bool true) ∧ Below w.heap.size w w' := by
  let Bs : List Blk := [blkOf (spanCells l) 27, blkOf (ints t) 3, blkOf (ints u) 3]
  let S : List Slot := [slotOf s, slotOf v, slotOf x]
  have g0 : (hB Bs).get? 7 = some (blkOf (spanCells l) 27) := hB_get (i := 0) (by simp [Bs])
  have g1 : (hB Bs).get? 8 = some (blkOf (ints t) 3) := hB_get (i := 1) (by simp [Bs])
  have g2 : (hB Bs).get? 9 = some (blkOf (ints u) 3) := hB_get (i := 2) (by simp [Bs])
  obtain ⟨n, r, hh, hr, rfl⟩ := H (absOf 7 s).1 (absOf 8 v).1 (absOf 9 x).1 (absOf 7 s).2 (absOf 8 v).2 (absOf 9 x).2 (hB Bs) (fun a e => by rw [absOf_block _ _ _ e]; show 7 < 7 + 3; omega) (rd_of h0 g0) (rd_of h1 g1) (rd_of h2 g2)
  have hR : R Tryz.prog (fun g => g < w.heap.size) w (rhoB S) (hB Bs) w := by
    refine R_B rfl fun i z b e f => ?_
    match i, e, f with
    | 0, e, f =>
      simp [S] at e; simp [Bs] at f; subst e; subst f
      exact ⟨blk_br h0 (spans_int l) (fun e => by cases l with | nil => rfl | cons a l => simp at e), own_blkOf _ _⟩
    | 1, e, f =>
      simp [S] at e; simp [Bs] at f; subst e; subst f
      exact ⟨blk_br h1 (ints_int t) (fun e => by cases t with | nil => rfl | cons a l => simp at e), own_blkOf _ _⟩
    | 2, e, f =>
      simp [S] at e; simp [Bs] at f; subst e; subst f
      exact ⟨blk_br h2 (ints_int u) (fun e => by cases u with | nil => rfl | cons a l => simp at e), own_blkOf _ _⟩
    | i + 3, e, f => simp [S] at e
  refine run_calls_plain hmx known_ok rfl hr hR ?_ (good_safe hg)
  exact XR_6' (VR.agg' (XR_3 (vr_slice h0 rfl) (.int _ _) (.int _ _))) (vr_slice h1 rfl) (vr_slice h2 rfl) (.int _ _) (VR.agg' (XR_2 (.int _ _) (.int _ _))) (.int _ _)
theorem XR_1 {ρ : Ren} {a a' : Value} (h1 : VR ρ a a') : XR ρ #[a] #[a'] := LR.cons h1 (LR.nil ρ)
/-- The same for a plan alone. -/
theorem plan_one {f : FuncId} {w : World} (hg : GoodW w) {s : Value} {rows guard : Int} {l : List (Int × Int)} (h0 : Arg w s l.length (spanCells l))
    (H : ∀ (p : Option Addr) (cap : Nat) (h : Heap), (∀ a, p = some a → a.block < h.n) → Rd h p (spanCells l) → CallW Tryz.prog KO f #[.agg #[.slice p l.length cap, .int .i64 rows, .int .i64 guard]] h fun v _ => v = .bool true) :
    Calls Tryz.prog f #[.agg #[s, .int .i64 rows, .int .i64 guard]] w fun e w' => e = .returned (.bool true) ∧ Below w.heap.size w w' := by
  let Bs : List Blk := [blkOf (spanCells l) 27]
  let S : List Slot := [slotOf s]
  have g0 : (hB Bs).get? 7 = some (blkOf (spanCells l) 27) := hB_get (i := 0) (by simp [Bs])
  obtain ⟨n, r, hh, hr, rfl⟩ := H (absOf 7 s).1 (absOf 7 s).2 (hB Bs) (fun a e => by rw [absOf_block _ _ _ e]; show 7 < 7 + 1; omega) (rd_of h0 g0)
  have hR : R Tryz.prog (fun g => g < w.heap.size) w (rhoB S) (hB Bs) w := by
    refine R_B rfl fun i z b e f => ?_
    match i, e, f with
    | 0, e, f =>
      simp [S] at e; simp [Bs] at f; subst e; subst f
      exact ⟨blk_br h0 (spans_int l) (fun e => by cases l with | nil => rfl | cons a l => simp at e), own_blkOf _ _⟩
    | i + 1, e, f => simp [S] at e
  refine run_calls_plain hmx known_ok rfl hr hR ?_ (good_safe hg)
  exact XR_1 (VR.agg' (XR_3 (vr_slice h0 rfl) (.int _ _) (.int _ _)))
/-- The same for a plan, two lists and a number. -/
theorem plan_list_list_int {f : FuncId} {w : World} (hg : GoodW w) {s v x : Value} {rows guard row : Int} {l : List (Int × Int)} {t u : List Int}
    (h0 : Arg w s l.length (spanCells l)) (h1 : Arg w v t.length (ints t)) (h2 : Arg w x u.length (ints u))
    (H : ∀ (p q r : Option Addr) (cap cap' cap2 : Nat) (h : Heap), (∀ a, p = some a → a.block < h.n) → Rd h p (spanCells l) → Rd h q (ints t) → Rd h r (ints u) → CallW Tryz.prog KO f #[.agg #[.slice p l.length cap, .int .i64 rows, .int .i64 guard], .slice q t.length cap', .slice r u.length cap2, .int .i64 row] h fun v _ => v = .bool true) :
    Calls Tryz.prog f #[.agg #[s, .int .i64 rows, .int .i64 guard], v, x, .int .i64 row] w fun e w' => e = .returned (.bool true) ∧ Below w.heap.size w w' := by
  let Bs : List Blk := [blkOf (spanCells l) 27, blkOf (ints t) 3, blkOf (ints u) 3]
  let S : List Slot := [slotOf s, slotOf v, slotOf x]
  have g0 : (hB Bs).get? 7 = some (blkOf (spanCells l) 27) := hB_get (i := 0) (by simp [Bs])
  have g1 : (hB Bs).get? 8 = some (blkOf (ints t) 3) := hB_get (i := 1) (by simp [Bs])
  have g2 : (hB Bs).get? 9 = some (blkOf (ints u) 3) := hB_get (i := 2) (by simp [Bs])
  obtain ⟨n, r, hh, hr, rfl⟩ := H (absOf 7 s).1 (absOf 8 v).1 (absOf 9 x).1 (absOf 7 s).2 (absOf 8 v).2 (absOf 9 x).2 (hB Bs) (fun a e => by rw [absOf_block _ _ _ e]; show 7 < 7 + 3; omega) (rd_of h0 g0) (rd_of h1 g1) (rd_of h2 g2)
  have hR : R Tryz.prog (fun g => g < w.heap.size) w (rhoB S) (hB Bs) w := by
    refine R_B rfl fun i z b e f => ?_
    match i, e, f with
    | 0, e, f =>
      simp [S] at e; simp [Bs] at f; subst e; subst f
      exact ⟨blk_br h0 (spans_int l) (fun e => by cases l with | nil => rfl | cons a l => simp at e), own_blkOf _ _⟩
    | 1, e, f =>
      simp [S] at e; simp [Bs] at f; subst e; subst f
      exact ⟨blk_br h1 (ints_int t) (fun e => by cases t with | nil => rfl | cons a l => simp at e), own_blkOf _ _⟩
    | 2, e, f =>
      simp [S] at e; simp [Bs] at f; subst e; subst f
      exact ⟨blk_br h2 (ints_int u) (fun e => by cases u with | nil => rfl | cons a l => simp at e), own_blkOf _ _⟩
    | i + 3, e, f => simp [S] at e
  refine run_calls_plain hmx known_ok rfl hr hR ?_ (good_safe hg)
  exact XR_4 (VR.agg' (XR_3 (vr_slice h0 rfl) (.int _ _) (.int _ _))) (vr_slice h1 rfl) (vr_slice h2 rfl) (.int _ _)
/-- The same for a plan and three numbers. -/
theorem plan_int3 {f : FuncId} {w : World} (hg : GoodW w) {s : Value} {rows guard a b c : Int} {l : List (Int × Int)} (h0 : Arg w s l.length (spanCells l))
    (H : ∀ (p : Option Addr) (cap : Nat) (h : Heap), (∀ a, p = some a → a.block < h.n) → Rd h p (spanCells l) → CallW Tryz.prog KO f #[.agg #[.slice p l.length cap, .int .i64 rows, .int .i64 guard], .int .i64 a, .int .i64 b, .int .i64 c] h fun v _ => v = .bool true) :
    Calls Tryz.prog f #[.agg #[s, .int .i64 rows, .int .i64 guard], .int .i64 a, .int .i64 b, .int .i64 c] w fun e w' => e = .returned (.bool true) ∧ Below w.heap.size w w' := by
  let Bs : List Blk := [blkOf (spanCells l) 27]
  let S : List Slot := [slotOf s]
  have g0 : (hB Bs).get? 7 = some (blkOf (spanCells l) 27) := hB_get (i := 0) (by simp [Bs])
  obtain ⟨n, r, hh, hr, rfl⟩ := H (absOf 7 s).1 (absOf 7 s).2 (hB Bs) (fun a e => by rw [absOf_block _ _ _ e]; show 7 < 7 + 1; omega) (rd_of h0 g0)
  have hR : R Tryz.prog (fun g => g < w.heap.size) w (rhoB S) (hB Bs) w := by
    refine R_B rfl fun i z b e f => ?_
    match i, e, f with
    | 0, e, f =>
      simp [S] at e; simp [Bs] at f; subst e; subst f
      exact ⟨blk_br h0 (spans_int l) (fun e => by cases l with | nil => rfl | cons a l => simp at e), own_blkOf _ _⟩
    | i + 1, e, f => simp [S] at e
  refine run_calls_plain hmx known_ok rfl hr hR ?_ (good_safe hg)
  exact XR_4 (VR.agg' (XR_3 (vr_slice h0 rfl) (.int _ _) (.int _ _))) (.int _ _) (.int _ _) (.int _ _)
end Go.AX.Sa
