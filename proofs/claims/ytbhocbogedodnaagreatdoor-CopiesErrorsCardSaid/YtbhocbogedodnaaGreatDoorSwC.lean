/- Where a single error can have entered. -/
import Derived.Test.YtbhocbogedodnaaGreatDoorSwB
namespace Go.AX.Sa
open Go.Proofs
set_option maxRecDepth 100000
variable {K : Known}
/-! Where a single error can have entered. -/
def snI (T : Tre) (p k : Nat) : Int := (T.c.getD k cop0).r.s.getD p 0
def Comes (T : Tre) (k : Nat) (o : Int) : Prop := o ∈ pathI T.c k
def ExpP (T : Tre) (p : Nat) (right : Int) (o f : Int) (n : Nat) : Prop := ∀ i, i < n → snI T p i = -1 ∨ (Comes T i o ∧ snI T p i = f) ∨ (¬ Comes T i o ∧ snI T p i = right)
def SrcP (T : Tre) (p : Nat) (right : Int) (o : Int) : Prop := ∃ f, FigP f ∧ f ≠ right ∧ ExpP T p right o f T.c.length
def SrcInv (T : Tre) (p : Nat) (right o : Int) (k : Nat) (w : Int) : Prop :=
  (w = -1 ∧ ∀ i, i < k → snI T p i = -1 ∨ (snI T p i = right ∧ ¬ Comes T i o)) ∨ (FigP w ∧ w ≠ right ∧ (∃ j, j < k ∧ snI T p j = w ∧ Comes T j o) ∧ ExpP T p right o w k)
section
variable {T : Tre} {p k : Nat} {right o w : Int}
end
end Go.AX.Sa

namespace Go.AX.Sa
open Go.Proofs
set_option maxRecDepth 100000
variable {K : Known}
open Classical in
noncomputable def srcTo (T : Tre) (p : Nat) (right : Int) : Nat → List Int
  | 0 => []
  | k + 1 => srcTo T p right k ++ (if 1 ≤ k ∧ SrcP T p right (k : Nat) then [(k : Int)] else [])
def IsS' (l : List Int) (h : Heap) (v : Value) (h1 : Heap) : Prop := (l = [] ∧ v = .tuple #[.slice none 0 0, .int .i64 5] ∧ Ext h h1) ∨ (l ≠ [] ∧ IsE l h v h1)
end Go.AX.Sa

namespace Go.AX.Sa
open Go.Proofs
set_option maxRecDepth 100000
variable {K : Known}
def AnyF (T : Tre) (p : Nat) (right o : Int) (n : Nat) : Prop := ∃ f : Nat, f < n ∧ (f : Int) ≠ right ∧ ExpP T p right o f T.c.length
end Go.AX.Sa
