/- The examples answer true; from what the reading says to what the machine does. -/
import Derived.Test.YtjdopbcoaocllaaGreatDoorAxA
import Derived.Test.YtjdopbcoaocllaaGreatDoorProg
import Derived.KernelRfl
import Derived.Test.YtjdopbcoaocllaaGreatDoorKnA
import Derived.Test.YtjdopbcoaocllaaGreatDoorKnB
import Derived.Test.YtjdopbcoaocllaaGreatDoorKnC
import Derived.Test.YtjdopbcoaocllaaGreatDoorKnD
import Derived.Test.YtjdopbcoaocllaaGreatDoorKnE
import Derived.Test.YtjdopbcoaocllaaGreatDoorKnF
import Derived.Test.YtjdopbcoaocllaaGreatDoorKnG
import Derived.Test.YtjdopbcoaocllaaGreatDoorKnI
import Derived.Test.YtjdopbcoaocllaaGreatDoorAxW
import Derived.Lib.LaidU8
import Derived.Lib.LaidTab
import Derived.Test.YtjdopbcoaocllaaGreatDoorSwA
import Derived.ChangeArms
import Derived.ChangeSlices
import Derived.ChangeSame
import Derived.OpenShut
namespace Go.AX.Sa
open Go.Proofs
def KO : Known := fun f args _ => bif Nat.beq f 16 && Nat.beq args.size 0 then some (.bool true, []) else none
theorem KO_no (f : FuncId) (a : Array Value) (h : Heap) (hf : Nat.beq f 16 = false) : KO f a h = none := by unfold KO; rw [hf]; rfl
theorem KO_known (h : Heap) : KO 16 #[] h = some (.bool true, []) := rfl
end Go.AX.Sa

namespace Go.AX.Sa
open Go.Proofs Go.RowKit

theorem hmx : Tryz.prog.follows .mixedOrders = true := by kernel_rfl

set_option maxRecDepth 100000 in
set_option maxRecDepth 100000 in
theorem zd2 (N : Nat → Prop) (w0 : World) : Piece Tryz.prog N w0 ⟨16, none, false⟩ [.code kSc0] kS0 .ret kS7 := by
  have hK := KI_ok (fun _ => True)
  have hG : Safe (fun _ => True) N w0 := fun _ _ => trivial
  have hl : Piece Tryz.prog N w0 ⟨16, none, false⟩ [.code kSc6] kS6 .ret kS7 := by
    obtain ⟨m, s', h1, h2⟩ := zjR kSlast
    rw [h2]
    exact (zeJ hmx hK hG h1).keep []
  exact zbd hmx hK hG kSg0 (zbd hmx hK hG kSg1 (zbd hmx hK hG kSg2 (zbd hmx hK hG kSg3 (zbd hmx hK hG kSg4 (zbd hmx hK hG kSg5 hl)))))

theorem zg2 : ({ tm := #[] ++ Array.replicate (Tryz.f16.ntmps - (#[] : Array Value).size) undef, df := [], up := .run, h := kS0.h } : St) = kS0 := by kernel_rfl
theorem ziE : Tryz.f16.body = some kSc0 := by kernel_rfl
theorem zf7 : ∀ b, kSc0 ≠ .loop b := by
  intro b h
  have : (match kSc0 with | .loop _ => true | _ => false) = true := by rw [h]
  have h2 : (match kSc0 with | .loop _ => true | _ => false) = false := by kernel_rfl
  rw [h2] at this; cases this

theorem known_call {N : Nat → Prop} {w0 : World} : SimCall Tryz.prog N w0 16 #[] false .run kS0.h (.ret (.bool true)) kS7.up kS7.h :=
  zkg (Good := fun _ => True) Tryz.func16 ziE zf7 (fun N w0 _ => by rw [zg2]; exact zd2 N w0)
    ((zd2 N w0).2)
    (by show Option.map _ (resultsB Tryz.prog Tryz.f16 kS7.tm kS7.h) = _; kernel_rfl) (fun _ _ => trivial)

/-- What the variables hold that known reads. -/
def formsC : List Value := [strB [116, 97, 98, 108, 101], strB [118, 97, 108, 117, 101]]
def GoodW (w : World) : Prop :=
  w.var? Tryz.prog "ephemerist/step.words" = some formsC.toArray ∧
  w.var? Tryz.prog "internal/strconv.uint64pow10" = some (((List.range 20).map fun i => (10 ^ i : Int)).map fun z => Value.int .u64 z).toArray

theorem gForms : Tryz.prog.globalNamed "ephemerist/step.words" = some 0 := by kernel_rfl
theorem gPow : Tryz.prog.globalNamed "internal/strconv.uint64pow10" = some 4 := by kernel_rfl
theorem gSize : Tryz.prog.globals.size = 7 := by kernel_rfl

theorem zcD {w : World} {n : String} {g : Nat} {c : Array Value} (hg : Tryz.prog.globalNamed n = some g) (h : w.var? Tryz.prog n = some c) : ∃ t fr, w.heap[g]? = some (.cells c t fr) := by
  unfold World.var? at h
  rw [hg] at h
  simp only [Option.bind_some] at h
  split at h
  · rename_i cs t fr hw; cases h; exact ⟨t, fr, hw⟩
  · cases h

def rho0 : Ren := fun A => if A < 7 then some ⟨A, 0, 0⟩ else none

theorem kS0_n : kS0.h.n = 7 := rfl
theorem kS0_get0 : kS0.h.get? 0 = some (.cells formsC 155 false) := by kernel_rfl
theorem kS0_get4 : kS0.h.get? 4 = some (.cells (((List.range 20).map fun i => (10 ^ i : Int)).map fun z => Value.int .u64 z) 230 false) := by kernel_rfl
theorem kS0_dead : kS0.h.get? 1 = some .dead ∧ kS0.h.get? 2 = some .dead ∧ kS0.h.get? 3 = some .dead ∧ kS0.h.get? 5 = some .dead ∧ kS0.h.get? 6 = some .dead := ⟨by kernel_rfl, by kernel_rfl, by kernel_rfl, by kernel_rfl, by kernel_rfl⟩

theorem zd4 {A : Nat} {b : Blk} (h : kS0.h.get? A = some b) : b = .dead ∨ (A = 0 ∧ b = .cells formsC 155 false) ∨ (A = 4 ∧ b = .cells (((List.range 20).map fun i => (10 ^ i : Int)).map fun z => Value.int .u64 z) 230 false) := by
  have hA : A < 7 := Heap.get_lt h
  obtain ⟨d1, d2, d3, d5, d6⟩ := kS0_dead
  match A, hA, h with
  | 0, _, h => rw [kS0_get0] at h; cases h; exact .inr (.inl ⟨rfl, rfl⟩)
  | 1, _, h => rw [d1] at h; cases h; exact .inl rfl
  | 2, _, h => rw [d2] at h; cases h; exact .inl rfl
  | 3, _, h => rw [d3] at h; cases h; exact .inl rfl
  | 4, _, h => rw [kS0_get4] at h; cases h; exact .inr (.inr ⟨rfl, rfl⟩)
  | 5, _, h => rw [d5] at h; cases h; exact .inl rfl
  | 6, _, h => rw [d6] at h; cases h; exact .inl rfl

theorem zhA {ρ : Ren} {w : World} {g : Nat} {e t : TypeId} {fr : Nat × Nat} {l : List Value} (hl : ∀ v ∈ l, oneB v = true ∧ VR ρ v v) (hw : w.heap[g]? = some (.cells l.toArray t fr)) : BR Tryz.prog ρ w ⟨g, 0, 0⟩ (.cells l e false) := by
  refine .ro l.toArray t fr hw fun i v hv => ?_
  obtain ⟨h1, h2⟩ := hl v (List.mem_of_getElem? hv)
  exact ⟨h1, v, by simpa using hv, h2⟩

theorem ints_vr {ρ : Ren} (l : List Int) : ∀ v ∈ ints l, oneB v = true ∧ VR ρ v v := by
  intro v hv
  obtain ⟨z, _, rfl⟩ := List.mem_map.1 hv
  exact ⟨rfl, .int _ _⟩
theorem known_R {w : World} (hg : GoodW w) : R Tryz.prog (fun g => g < w.heap.size) w rho0 kS0.h w where
  below := Kept.refl _ _
  size := fun g h => h
  dom := fun A s e => by
    unfold rho0 at e
    split at e
    · rw [kS0_n]; assumption
    · cases e
  glob := fun g h => ⟨⟨g, 0, 0⟩, by rw [gSize] at h; unfold rho0; rw [if_pos h], rfl, rfl⟩
  blk := fun A s b e f => by
    unfold rho0 at e
    split at e
    · cases e
      rcases zd4 f with rfl | ⟨rfl, rfl⟩ | ⟨rfl, rfl⟩
      · exact .dead
      · obtain ⟨t, fr, hw⟩ := zcD gForms hg.1
        exact zhA (fun v hv => by
          simp only [formsC, List.mem_cons, List.mem_nil_iff, or_false] at hv
          rcases hv with rfl | rfl <;> first | exact ⟨rfl, .string _⟩ | exact ⟨rfl, .int _ _⟩) hw
      · obtain ⟨t, fr, hw⟩ := zcD gPow hg.2
        exact zhA (fun v hv => by
          obtain ⟨z, _, rfl⟩ := List.mem_map.1 hv
          exact ⟨rfl, .int _ _⟩) hw
    · cases e
  mine := fun A s b e f ho => by
    rcases zd4 f with rfl | ⟨_, rfl⟩ | ⟨_, rfl⟩ <;> cases ho
  inj := fun A B s t b c ea eb fa fb ho hl hAB => by
    rcases zd4 fa with rfl | ⟨_, rfl⟩ | ⟨_, rfl⟩ <;> cases ho

theorem zg3 {w : World} (hg : GoodW w) : Calls Tryz.prog 16 #[] w fun e w' => e = .returned (.bool true) ∧ Below w.heap.size w w' :=
  known_call.calls (known_R hg) ⟨rfl, by simp⟩ rfl

theorem known_ok : KOK Tryz.prog KO GoodW := by
  intro f args h v l he N w0 hG up
  unfold KO at he
  cases hf : Nat.beq f 16 with
  | false => rw [hf] at he; cases he
  | true =>
    cases ha : Nat.beq args.size 0 with
    | false => rw [hf, ha] at he; cases he
    | true =>
      rw [hf, ha] at he
      have hf' : f = 16 := Nat.eq_of_beq_eq_true hf
      have ha' : args.size = 0 := Nat.eq_of_beq_eq_true ha
      subst hf'
      have : args = #[] := by apply Array.ext'; simpa using ha'
      subst this
      cases he
      exact zjy (by simp) rfl (fun w hg => zg3 hg) hG

end Go.AX.Sa

namespace Go.AX.Sa
open Go.Proofs Go.RowKit Go.ChangeShapes Go.WideShapes
set_option maxRecDepth 100000
def Arg (w : World) (v : Value) (len : Nat) (c : List Value) : Prop :=
  (len = 0 ∧ c = [] ∧ v = .slice none 0 0) ∨
  ∃ b o cap, v = .slice (some ⟨b, o, none⟩) len cap ∧ len ≤ cap ∧ (∀ i u, c[i]? = some u → w.cell? ⟨b, o + i, none⟩ = some u)
theorem ints_app (l m : List Int) : ints (l ++ m) = ints l ++ ints m := by simp [ints]
def ArgI (w : World) (v : Value) (len : Nat) (c : List Value) : Prop := Arg w v len c ∨ (len = 0 ∧ c = [] ∧ ∃ a, v = .slice (some a) 0 0)
section
variable {H : Type} {enc : TypeId × Value → H} {w : World} {base : Nat} {held : Bool}
end
end Go.AX.Sa

namespace Go.AX.Sa
open Go.Proofs Go.RowKit
set_option maxRecDepth 100000
def blkOf (c : List Value) (e : TypeId) : Blk := if c = [] then .dead else .cells c e false
theorem zhQ : ∀ (l : List Blk) (i : Nat), (Bt.ofL l).get i = l[i]? := by
  intro l
  induction l with
  | nil => intro i; rfl
  | cons b l ih =>
    intro i
    simp only [Bt.ofL]
    cases i with
    | zero => exact (Bt.get_cons _ _).1
    | succ i => rw [(Bt.get_cons _ _).2 i, ih]; simp
def slotOf (v : Value) : Slot :=
  match v with
  | .slice (some a) _ cap => ⟨a.block, a.off, cap⟩
  | _ => ⟨0, 0, 0⟩
def absOf (B : Nat) (v : Value) : Option Addr × Nat :=
  match v with
  | .slice (some _) _ _ => (some ⟨B, 0, none⟩, anyCap)
  | _ => (none, 0)
def hB (Bs : List Blk) : Heap := { n := 7 + Bs.length, bs := .ofL (Bs.reverse ++ List.replicate 7 .dead) }
theorem hB_get {Bs : List Blk} {i : Nat} (h : i < Bs.length) : (hB Bs).get? (7 + i) = Bs[i]? := by
  unfold Heap.get? hB
  dsimp only
  rw [if_pos (by omega), zhQ, List.getElem?_append_left (by simp; omega), List.getElem?_reverse (by omega)]
  congr 1; omega
theorem hB_low {Bs : List Blk} {A : Nat} {b : Blk} (hA : A < 7) (h : (hB Bs).get? A = some b) : b = .dead := by
  unfold Heap.get? hB at h
  dsimp only at h
  rw [if_pos (by omega), zhQ, List.getElem?_append_right (by simp; omega), List.getElem?_replicate] at h
  split at h
  · cases h; rfl
  · cases h
def rhoB (S : List Slot) : Ren := fun A => if A < 7 then some ⟨A, 0, 0⟩ else S[A - 7]?
theorem rhoB_at {S : List Slot} (i : Nat) : rhoB S (7 + i) = S[i]? := by unfold rhoB; rw [if_neg (by omega)]; congr 1; omega
theorem R_B {w : World} {S : List Slot} {Bs : List Blk} (hl : S.length = Bs.length) (hb : ∀ (i : Nat) (s : Slot) (b : Blk), S[i]? = some s → Bs[i]? = some b → BR Tryz.prog (rhoB S) w s b ∧ own b = false) :
    R Tryz.prog (fun g => g < w.heap.size) w (rhoB S) (hB Bs) w := by
  have key : ∀ A s b, rhoB S A = some s → (hB Bs).get? A = some b → BR Tryz.prog (rhoB S) w s b ∧ own b = false := by
    intro A s b e f
    by_cases hA : A < 7
    · rw [hB_low hA f]; exact ⟨.dead, rfl⟩
    · obtain ⟨i, rfl⟩ : ∃ i, A = 7 + i := ⟨A - 7, by omega⟩
      rw [rhoB_at] at e
      have hi : i < Bs.length := by have := (List.getElem?_eq_some_iff.1 e).1; omega
      rw [hB_get hi] at f
      exact hb i s b e f
  exact {
    below := Kept.refl _ _
    size := fun g h => h
    dom := fun A s e => by
      show A < 7 + Bs.length
      unfold rhoB at e
      split at e
      · omega
      · have := (List.getElem?_eq_some_iff.1 e).1; omega
    glob := fun g h => ⟨⟨g, 0, 0⟩, by rw [gSize] at h; unfold rhoB; rw [if_pos h], rfl, rfl⟩
    blk := fun A s b e f => (key A s b e f).1
    mine := fun A s b e f ho => by rw [(key A s b e f).2] at ho; cases ho
    inj := fun A B s t b c ea eb fa fb ho hl hAB => by rw [(key A s b ea fa).2] at ho; cases ho }
theorem zjD (c : List Value) (e : TypeId) : own (blkOf c e) = false := by unfold blkOf; split <;> rfl
theorem zjW {w : World} (hg : GoodW w) : Safe GoodW (fun g => g < w.heap.size) w := by
  intro w' hk
  have keep : ∀ n g c, Tryz.prog.globalNamed n = some g → w.var? Tryz.prog n = some c → w'.var? Tryz.prog n = some c := by
    intro n g c hn hv
    obtain ⟨t, fr, hw⟩ := zcD hn hv
    have hlt : g < w.heap.size := (Array.getElem?_eq_some_iff.1 hw).1
    have := hk.block g hlt
    unfold World.var? at hv ⊢
    rw [hn] at hv ⊢
    simp only [Option.bind_some] at hv ⊢
    rw [this]; exact hv
  exact ⟨keep _ _ _ gForms hg.1, keep _ _ _ gPow hg.2⟩
theorem KO_noK : NoK KO := fun f a h hf => KO_no f a h hf
theorem KO_kn : Kn KO := fun h => KO_known h
structure It where
  v : Value
  n : Nat
  mc : List Value
  rc : List Value
  e : TypeId
def slots (its : List It) : List Slot := its.map fun i => slotOf i.v
def blks (its : List It) : List Blk := its.map fun i => blkOf i.rc i.e
structure ItOK (w : World) (ρ : Ren) (it : It) : Prop where
  arg : ArgI w it.v it.n it.mc
  len : it.rc.length = it.mc.length
  each : ∀ (j : Nat) (u' : Value), it.rc[j]? = some u' → ∃ u, it.mc[j]? = some u ∧ oneB u' = true ∧ VR ρ u' u
theorem it_br {w : World} {ρ : Ren} {it : It} (h : ItOK w ρ it) : BR Tryz.prog ρ w (slotOf it.v) (blkOf it.rc it.e) := by
  unfold blkOf
  split
  · exact .dead
  · rename_i hne
    obtain ⟨u0, hu0⟩ : ∃ u, it.rc[0]? = some u := by
      cases hr : it.rc with
      | nil => exact absurd hr hne
      | cons a l => exact ⟨a, rfl⟩
    obtain ⟨m0, hm0, _⟩ := h.each 0 u0 hu0
    rcases h.arg with (⟨_, q, _⟩ | ⟨b, o, cap, hv, _, hcell⟩) | ⟨_, q, _⟩
    · rw [q] at hm0; cases hm0
    · have h0 := hcell 0 m0 hm0
      obtain ⟨cur, t, fr, hw⟩ : ∃ cur t fr, w.heap[b]? = some (.cells cur t fr) := by
        unfold World.cell? at h0
        simp only at h0
        split at h0
        · rename_i cs t fr hw; exact ⟨cs, t, fr, hw⟩
        · cases h0
      rw [hv]
      refine .ro cur t fr hw fun i v hv' => ?_
      obtain ⟨u, hu, h1, h2⟩ := h.each i v hv'
      refine ⟨h1, u, ?_, h2⟩
      have h5 := hcell i u hu
      unfold World.cell? at h5
      simp only [hw] at h5
      exact h5
    · rw [q] at hm0; cases hm0
theorem zkd {f : FuncId} {w : World} {args args' : Array Value} (hg : GoodW w) (its : List It) (hok : ∀ it ∈ its, ItOK w (rhoB (slots its)) it) (hx : XR (rhoB (slots its)) args args')
    (H : CallW Tryz.prog KO f args (hB (blks its)) fun v _ => v = .bool true) : Calls Tryz.prog f args' w fun e w' => e = .returned (.bool true) ∧ Below w.heap.size w w' := by
  obtain ⟨n, r, hh, hr, rfl⟩ := H
  refine zdN hmx known_ok rfl hr (R_B (by simp [slots, blks]) fun i z b e f => ?_) hx (zjW hg)
  unfold slots at e
  unfold blks at f
  rw [List.getElem?_map, Option.map_eq_some_iff] at e f
  obtain ⟨it, h1, rfl⟩ := e
  obtain ⟨it', h2, rfl⟩ := f
  rw [h1] at h2
  cases h2
  exact ⟨it_br (hok it (List.mem_of_getElem? h1)), zjD _ _⟩
def listIt (v : Value) (l : List Int) : It := ⟨v, l.length, ints l, ints l, 3⟩
theorem lr_ints {ρ : Ren} : ∀ l : List Int, LR ρ (ints l) (ints l) := by
  intro l
  induction l with
  | nil => exact LR.nil ρ
  | cons z l ih => exact LR.cons (.int _ _) ih
abbrev Tru (f : FuncId) (args : Array Value) (h : Heap) : Prop := CallW Tryz.prog KO f args h fun v _ => v = .bool true
abbrev Done (f : FuncId) (args : Array Value) (w : World) : Prop := Calls Tryz.prog f args w fun e w' => e = .returned (.bool true) ∧ Below w.heap.size w w'
theorem zjJ {f : FuncId} {w : World} (zs : List Int) (hg : GoodW w) (H : ∀ h, Tru f (ints zs).toArray h) : Done f (ints zs).toArray w :=
  zkd hg [] (fun _ h => by cases h) (lr_ints zs) (H _)
end Go.AX.Sa
