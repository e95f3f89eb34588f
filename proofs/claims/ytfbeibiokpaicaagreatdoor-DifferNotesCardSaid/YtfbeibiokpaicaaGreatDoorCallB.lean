/- Arguments that lie in many blocks. -/
import Derived.Test.YtfbeibiokpaicaaGreatDoorCall
namespace Go.AX.Sa
open Go.Proofs Go.RowKit
set_option maxRecDepth 100000

/-! Arguments that lie in any number of blocks. -/
def hB (Bs : List Blk) : Heap := { n := 7 + Bs.length, bs := .ofL (Bs.reverse ++ List.replicate 7 .dead) }
theorem hB_get {Bs : List Blk} {i : Nat} (h : i < Bs.length) : (hB Bs).get? (7 + i) = Bs[i]? := by
  unfold Heap.get? hB
  dsimp only
  rw [if_pos (by omega), get_ofL', List.getElem?_append_left (by simp; omega), List.getElem?_reverse (by omega)]
  congr 1; omega
theorem hB_low {Bs : List Blk} {A : Nat} {b : Blk} (hA : A < 7) (h : (hB Bs).get? A = some b) : b = .dead := by
  unfold Heap.get? hB at h
  dsimp only at h
  rw [if_pos (by omega), get_ofL', List.getElem?_append_right (by simp; omega), List.getElem?_replicate] at h
  split at h
  · cases h; rfl
  · cases h
def rhoB (S : List Slot) : Ren := fun A => if A < 7 then some ⟨A, 0, 0⟩ else S[A - 7]?
theorem rhoB_at {S : List Slot} (i : Nat) : rhoB S (7 + i) = S[i]? := by unfold rhoB; rw [if_neg (by omega)]; congr 1; omega
/-- Blocks that are read only, each with its slot. -/
theorem R_B {w : World} {S : List Slot} {Bs : List Blk} (hl : S.length = Bs.length) (hb : ∀ (i : Nat) (s : Slot) (b : Blk), S[i]? = some s → Bs[i]? = some b → BR Tryz.prog (rhoB S) w s b ∧ own b = false) :
    R Tryz.prog (fun g => g < w.heap.size) w (rhoB S) (hB Bs) w := by
  have key : ∀ A s b, rhoB S A = some s → (hB Bs).get? A = some b → BR Tryz.prog (rhoB S) w s b ∧ own b = false := by
    intro A s b e f
    by_cases hA : A < 7
    · rw [hB_low hA f]; exact ⟨.dead, rfl⟩
    · obtain ⟨i, rfl⟩ : ∃ i, A = 7 + i := ⟨A - 7, by omega⟩
      rw [rhoB_at] at e
      have hi : i < Bs.length := by have := (List.getElem?_eq_some_iff.1 e).1; omega
      rw [hB_get hi] at f
      exact hb i s b e f
  exact {
    below := Kept.refl _ _
    size := fun g h => h
    dom := fun A s e => by
      show A < 7 + Bs.length
      unfold rhoB at e
      split at e
      · omega
      · have := (List.getElem?_eq_some_iff.1 e).1; omega
    glob := fun g h => ⟨⟨g, 0, 0⟩, by rw [gSize] at h; unfold rhoB; rw [if_pos h], rfl, rfl⟩
    blk := fun A s b e f => (key A s b e f).1
    mine := fun A s b e f ho => by rw [(key A s b e f).2] at ho; cases ho
    inj := fun A B s t b c ea eb fa fb ho hl hAB => by rw [(key A s b ea fa).2] at ho; cases ho }

theorem own_blkOf (c : List Value) (e : TypeId) : own (blkOf c e) = false := by unfold blkOf; split <;> rfl

theorem XR_4 {ρ : Ren} {a a' b b' c c' d d' : Value} (h1 : VR ρ a a') (h2 : VR ρ b b') (h3 : VR ρ c c') (h4 : VR ρ d d') : XR ρ #[a, b, c, d] #[a', b', c', d'] := LR.cons h1 (LR.cons h2 (LR.cons h3 (LR.cons h4 (LR.nil ρ))))

theorem absOf_at (v : Value) (B : Nat) (a : Addr) (e : (absOf B v).1 = some a) : ∃ b, a = ⟨b, 0, none⟩ := by
  unfold absOf at e
  split at e
  · cases e; exact ⟨B, rfl⟩
  · cases e
/-- A law over a plan, notes, a list and a number, in the machine. -/
theorem plan_seen_list_int {f : FuncId} {w : World} (hg : GoodW w) {s v x : Value} {rows guard row : Int} {l sn : List (Int × Int)} {t : List Int}
    (h0 : Arg w s l.length (spanCells l)) (h1 : Arg w v sn.length (spanCells sn)) (h2 : Arg w x t.length (ints t))
    (H : ∀ (p q r : Option Addr) (cap cap' cap2 : Nat) (h : Heap), (∀ a, q = some a → ∃ b, a = ⟨b, 0, none⟩) → Rd h p (spanCells l) → Rd h q (spanCells sn) → Rd h r (ints t) → CallW Tryz.prog KO f #[.agg #[.slice p l.length cap, .int .i64 rows, .int .i64 guard], .slice q sn.length cap', .slice r t.length cap2, .int .i64 row] h fun v _ => v = .bool true) :
    Calls Tryz.prog f #[.agg #[s, .int .i64 rows, .int .i64 guard], v, x, .int .i64 row] w fun e w' => e = .returned (.bool true) ∧ Below w.heap.size w w' := by
  let Bs : List Blk := [blkOf (spanCells l) 48, blkOf (spanCells sn) 50, blkOf (ints t) 3]
  let S : List Slot := [slotOf s, slotOf v, slotOf x]
  have g0 : (hB Bs).get? 7 = some (blkOf (spanCells l) 48) := hB_get (i := 0) (by simp [Bs])
  have g1 : (hB Bs).get? 8 = some (blkOf (spanCells sn) 50) := hB_get (i := 1) (by simp [Bs])
  have g2 : (hB Bs).get? 9 = some (blkOf (ints t) 3) := hB_get (i := 2) (by simp [Bs])
  obtain ⟨n, r, hh, hr, rfl⟩ := H (absOf 7 s).1 (absOf 8 v).1 (absOf 9 x).1 (absOf 7 s).2 (absOf 8 v).2 (absOf 9 x).2 (hB Bs) (absOf_at v 8) (rd_of h0 g0) (rd_of h1 g1) (rd_of h2 g2)
  have hR : R Tryz.prog (fun g => g < w.heap.size) w (rhoB S) (hB Bs) w := by
    refine R_B rfl fun i z b e f => ?_
    match i, e, f with
    | 0, e, f =>
      simp [S] at e; simp [Bs] at f; subst e; subst f
      exact ⟨blk_br h0 (spans_int l) (fun e => by cases l with | nil => rfl | cons a l => simp at e), own_blkOf _ _⟩
    | 1, e, f =>
      simp [S] at e; simp [Bs] at f; subst e; subst f
      exact ⟨blk_br h1 (spans_int sn) (fun e => by cases sn with | nil => rfl | cons a l => simp at e), own_blkOf _ _⟩
    | 2, e, f =>
      simp [S] at e; simp [Bs] at f; subst e; subst f
      exact ⟨blk_br h2 (ints_int t) (fun e => by cases t with | nil => rfl | cons a l => simp at e), own_blkOf _ _⟩
    | i + 3, e, f => simp [S] at e
  refine run_calls_plain hmx known_ok rfl hr hR ?_ (good_safe hg)
  exact XR_4 (VR.agg' (XR_3 (vr_slice h0 rfl) (.int _ _) (.int _ _))) (vr_slice h1 rfl) (vr_slice h2 rfl) (.int _ _)
end Go.AX.Sa
