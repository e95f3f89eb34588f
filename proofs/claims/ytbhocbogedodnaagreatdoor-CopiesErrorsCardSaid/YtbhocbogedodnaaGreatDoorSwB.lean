/- Paths, and what two of them share. -/
import Derived.Test.YtbhocbogedodnaaGreatDoorSwA
namespace Go.AX.Sa
open Go.Proofs
set_option maxRecDepth 100000
variable {K : Known}
/-! Paths. -/
def parN (c : List Cop) (k : Nat) : Nat := (c.getD k cop0).par.toNat
def pathI (c : List Cop) : Nat → List Int
  | 0 => [0]
  | k + 1 => ((k + 1 : Nat) : Int) :: pathI c (min (parN c (k + 1)) k)
termination_by k => k
decreasing_by omega
theorem par_of {T : Tre} (hP : TreeP T) {k : Nat} (hk : k < T.c.length) : (T.c.getD k cop0).par = (parN T.c k : Nat) ∧ parN T.c k ≤ k - 1 := by
  have := (hP.2.2 k hk).1
  unfold parN
  omega
def PathV (T : Tre) (a : Nat) (h : Heap) (v : Value) (h1 : Heap) : Prop := ∃ b1 b2, v = .func (.func 103) #[] #[.pointer (some ⟨b1, 0, none⟩), .pointer (some ⟨b2, 0, none⟩)] ∧
  h1.get? b1 = some (.cells [.int .i64 (a : Nat)] 3 true) ∧ h1.get? b2 = some (.cells [.int .i64 T.places, .slice T.p T.c.length T.k] 24 true) ∧ h.n ≤ b1 ∧ h.n ≤ b2 ∧ Ext h h1
end Go.AX.Sa

namespace Go.AX.Sa
open Go.Proofs
set_option maxRecDepth 100000
variable {K : Known}
/-- Answers with an error code. -/
def IsE (l : List Int) (h : Heap) (v : Value) (h1 : Heap) : Prop := ∃ p cap, v = .tuple #[.slice p l.length cap, .int .i64 0] ∧ Rd h1 p (ints l) ∧ Ext h h1
def NoE (vs : List Value) (h : Heap) (v : Value) (h1 : Heap) : Prop := v = .tuple vs.toArray ∧ Ext h h1
def CopP' (T : Tre) (n : Int) : Prop := 0 ≤ n ∧ n ≤ (T.c.length : Int) - 1
end Go.AX.Sa

namespace Go.AX.Sa
open Go.Proofs
set_option maxRecDepth 100000
variable {K : Known}
/-! Lists of numbers. -/
end Go.AX.Sa

namespace Go.AX.Sa
open Go.Proofs
set_option maxRecDepth 100000
variable {K : Known}
/-! The greatest number that both lists have. -/
def sharedI (m : List Int) : List Int → Int → Int
  | [], g => g
  | a :: l, g => sharedI m l (if a ∈ m then max g a else g)
end Go.AX.Sa

namespace Go.AX.Sa
open Go.Proofs
set_option maxRecDepth 100000
variable {K : Known}
/-! What paths are. -/
/-! What two paths share. -/
def shr (c : List Cop) (a b : Nat) : Int := sharedI (pathI c b) (pathI c a) 0
end Go.AX.Sa
