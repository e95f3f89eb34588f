/- Arguments that lie in many blocks. -/
import Derived.Test.YtkemoboalaegjaaGreatDoorCall
namespace Go.AX.Sa
open Go.Proofs Go.RowKit Go.ChangeShapes Go.WideShapes
set_option maxRecDepth 100000

/-- A slice that lies in a block of the machine, or an empty one without room. -/
def ArgI (w : World) (v : Value) (len : Nat) (c : List Value) : Prop := Arg w v len c ∨ (len = 0 ∧ c = [] ∧ ∃ a, v = .slice (some a) 0 0)

section
variable {H : Type} {enc : TypeId × Value → H} {w : World} {base : Nat} {held : Bool}

end
end Go.AX.Sa

namespace Go.AX.Sa
open Go.Proofs Go.RowKit
set_option maxRecDepth 100000

/-! Arguments that lie in any number of blocks. -/
def hB (Bs : List Blk) : Heap := { n := 7 + Bs.length, bs := .ofL (Bs.reverse ++ List.replicate 7 .dead) }
theorem hB_get {Bs : List Blk} {i : Nat} (h : i < Bs.length) : (hB Bs).get? (7 + i) = Bs[i]? := by
  unfold Heap.get? hB
  dsimp only
  rw [if_pos (by omega), get_ofL', List.getElem?_append_left (by simp; omega), List.getElem?_reverse (by omega)]
  congr 1; omega
theorem hB_low {Bs : List Blk} {A : Nat} {b : Blk} (hA : A < 7) (h : (hB Bs).get? A = some b) : b = .dead := by
  unfold Heap.get? hB at h
  dsimp only at h
  rw [if_pos (by omega), get_ofL', List.getElem?_append_right (by simp; omega), List.getElem?_replicate] at h
  split at h
  · cases h; rfl
  · cases h
def rhoB (S : List Slot) : Ren := fun A => if A < 7 then some ⟨A, 0, 0⟩ else S[A - 7]?
theorem rhoB_at {S : List Slot} (i : Nat) : rhoB S (7 + i) = S[i]? := by unfold rhoB; rw [if_neg (by omega)]; congr 1; omega
/-- Blocks that are read only, each with its slot. -/
theorem R_B {w : World} {S : List Slot} {Bs : List Blk} (hl : S.length = Bs.length) (hb : ∀ (i : Nat) (s : Slot) (b : Blk), S[i]? = some s → Bs[i]? = some b → BR Tryz.prog (rhoB S) w s b ∧ own b = false) :
    R Tryz.prog (fun g => g < w.heap.size) w (rhoB S) (hB Bs) w := by
  have key : ∀ A s b, rhoB S A = some s → (hB Bs).get? A = some b → BR Tryz.prog (rhoB S) w s b ∧ own b = false := by
    intro A s b e f
    by_cases hA : A < 7
    · rw [hB_low hA f]; exact ⟨.dead, rfl⟩
    · obtain ⟨i, rfl⟩ : ∃ i, A = 7 + i := ⟨A - 7, by omega⟩
      rw [rhoB_at] at e
      have hi : i < Bs.length := by have := (List.getElem?_eq_some_iff.1 e).1; omega
      rw [hB_get hi] at f
      exact hb i s b e f
  exact {
    below := Kept.refl _ _
    size := fun g h => h
    dom := fun A s e => by
      show A < 7 + Bs.length
      unfold rhoB at e
      split at e
      · omega
      · have := (List.getElem?_eq_some_iff.1 e).1; omega
    glob := fun g h => ⟨⟨g, 0, 0⟩, by rw [gSize] at h; unfold rhoB; rw [if_pos h], rfl, rfl⟩
    blk := fun A s b e f => (key A s b e f).1
    mine := fun A s b e f ho => by rw [(key A s b e f).2] at ho; cases ho
    inj := fun A B s t b c ea eb fa fb ho hl hAB => by rw [(key A s b ea fa).2] at ho; cases ho }

theorem own_blkOf (c : List Value) (e : TypeId) : own (blkOf c e) = false := by unfold blkOf; split <;> rfl

theorem absOf_block (v : Value) (B : Nat) (a : Addr) (e : (absOf B v).1 = some a) : a.block = B := by
  unfold absOf at e
  split at e
  · cases e; rfl
  · cases e
/-- The same for a plan and two numbers. -/
theorem plan_int2 {f : FuncId} {w : World} (hg : GoodW w) {s : Value} {rows guard a b : Int} {l : List (Int × Int)} (h0 : Arg w s l.length (spanCells l))
    (H : ∀ (p : Option Addr) (cap : Nat) (h : Heap), (∀ a, p = some a → a.block < h.n) → Rd h p (spanCells l) → CallW Tryz.prog KO f #[.agg #[.slice p l.length cap, .int .i64 rows, .int .i64 guard], .int .i64 a, .int .i64 b] h fun v _ => v = .bool true) :
    Calls Tryz.prog f #[.agg #[s, .int .i64 rows, .int .i64 guard], .int .i64 a, .int .i64 b] w fun e w' => e = .returned (.bool true) ∧ Below w.heap.size w w' := by
  let Bs : List Blk := [blkOf (spanCells l) 48]
  let S : List Slot := [slotOf s]
  have g0 : (hB Bs).get? 7 = some (blkOf (spanCells l) 48) := hB_get (i := 0) (by simp [Bs])
  obtain ⟨n, r, hh, hr, rfl⟩ := H (absOf 7 s).1 (absOf 7 s).2 (hB Bs) (fun a e => by rw [absOf_block _ _ _ e]; show 7 < 7 + 1; omega) (rd_of h0 g0)
  have hR : R Tryz.prog (fun g => g < w.heap.size) w (rhoB S) (hB Bs) w := by
    refine R_B rfl fun i z b e f => ?_
    match i, e, f with
    | 0, e, f =>
      simp [S] at e; simp [Bs] at f; subst e; subst f
      exact ⟨blk_br h0 (spans_int l) (fun e => by cases l with | nil => rfl | cons a l => simp at e), own_blkOf _ _⟩
    | i + 1, e, f => simp [S] at e
  refine run_calls_plain hmx known_ok rfl hr hR ?_ (good_safe hg)
  exact XR_3 (VR.agg' (XR_3 (vr_slice h0 rfl) (.int _ _) (.int _ _))) (.int _ _) (.int _ _)
end Go.AX.Sa
