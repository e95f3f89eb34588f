/- The examples answer true; from what the reading says to what the machine does. -/
import Derived.Test.YtjdopbcoaocllaaGreatDoorAxA
import Derived.Test.YtjdopbcoaocllaaGreatDoorKnI
import Derived.Test.YtjdopbcoaocllaaGreatDoorProg
import Derived.KernelRfl
import Derived.Test.YtjdopbcoaocllaaGreatDoorKnA
import Derived.Test.YtjdopbcoaocllaaGreatDoorKnB
import Derived.Test.YtjdopbcoaocllaaGreatDoorKnC
import Derived.Test.YtjdopbcoaocllaaGreatDoorKnD
import Derived.Test.YtjdopbcoaocllaaGreatDoorKnE
import Derived.Test.YtjdopbcoaocllaaGreatDoorKnF
import Derived.Test.YtjdopbcoaocllaaGreatDoorKnG
import Derived.Test.YtjdopbcoaocllaaGreatDoorAxW
import Derived.Lib.LaidU8
import Derived.Lib.LaidTab
import Derived.Test.YtjdopbcoaocllaaGreatDoorSwA
import Derived.ChangeArms
import Derived.ChangeSlices
import Derived.ChangeSame
import Derived.OpenShut
namespace Go.AX.Sa
open Go.Proofs
/-- What is known: the examples answer true, and slices.Insert of a number lays a new row. -/
def KO : Known := fun f args h => bif Nat.beq f 16 then (bif Nat.beq args.size 0 then some (.bool true, []) else none) else KI f args h
theorem KO_no (f : FuncId) (a : Array Value) (h : Heap) (hf : (Nat.beq f 16 || Nat.beq f 125) = false) : KO f a h = none := by
  unfold KO KI
  cases h1 : Nat.beq f 16 with
  | true => rw [h1] at hf; cases hf
  | false =>
    cases h2 : Nat.beq f 125 with
    | true => rw [h1, h2] at hf; cases hf
    | false => rfl
theorem KO_known (h : Heap) : KO 16 #[] h = some (.bool true, []) := rfl
theorem KO_ins (a : Array Value) (h : Heap) : KO 125 a h = insK 3 a h := rfl
end Go.AX.Sa

namespace Go.AX.Sa
open Go.Proofs Go.RowKit

theorem hmx : Tryz.prog.follows .mixedOrders = true := by kernel_rfl

set_option maxRecDepth 100000 in
set_option maxRecDepth 100000 in
theorem zd8 (N : Nat → Prop) (w0 : World) : Piece Tryz.prog N w0 ⟨16, none, false⟩ [.code kSc0] kS0 .ret kS7 := by
  have hK := KI_ok (fun _ => True)
  have hG : Safe (fun _ => True) N w0 := fun _ _ => trivial
  have hl : Piece Tryz.prog N w0 ⟨16, none, false⟩ [.code kSc6] kS6 .ret kS7 := by
    obtain ⟨m, s', h1, h2⟩ := zkN kSlast
    rw [h2]
    exact (zeT hmx hK hG h1).keep []
  exact zbo hmx hK hG kSg0 (zbo hmx hK hG kSg1 (zbo hmx hK hG kSg2 (zbo hmx hK hG kSg3 (zbo hmx hK hG kSg4 (zbo hmx hK hG kSg5 hl)))))

theorem zhp : ({ tm := #[] ++ Array.replicate (Tryz.f16.ntmps - (#[] : Array Value).size) undef, df := [], up := .run, h := kS0.h } : St) = kS0 := by kernel_rfl
theorem zjp : Tryz.f16.body = some kSc0 := by kernel_rfl
theorem zgk : ∀ b, kSc0 ≠ .loop b := by
  intro b h
  have : (match kSc0 with | .loop _ => true | _ => false) = true := by rw [h]
  have h2 : (match kSc0 with | .loop _ => true | _ => false) = false := by kernel_rfl
  rw [h2] at this; cases this

theorem known_call {N : Nat → Prop} {w0 : World} : SimCall Tryz.prog N w0 16 #[] false .run kS0.h (.ret (.bool true)) kS7.up kS7.h :=
  zli (Good := fun _ => True) Tryz.func16 zjp zgk (fun N w0 _ => by rw [zhp]; exact zd8 N w0)
    ((zd8 N w0).2)
    (by show Option.map _ (resultsB Tryz.prog Tryz.f16 kS7.tm kS7.h) = _; kernel_rfl) (fun _ _ => trivial)

/-- What the variables hold that known reads. -/
def formsC : List Value := [strB [116, 97, 98, 108, 101], strB [118, 97, 108, 117, 101]]
def GoodW (w : World) : Prop :=
  w.var? Tryz.prog "ephemerist/step.words" = some formsC.toArray ∧
  w.var? Tryz.prog "internal/strconv.uint64pow10" = some (((List.range 20).map fun i => (10 ^ i : Int)).map fun z => Value.int .u64 z).toArray

theorem gForms : Tryz.prog.globalNamed "ephemerist/step.words" = some 0 := by kernel_rfl
theorem gPow : Tryz.prog.globalNamed "internal/strconv.uint64pow10" = some 4 := by kernel_rfl
theorem gSize : Tryz.prog.globals.size = 7 := by kernel_rfl

theorem zcI {w : World} {n : String} {g : Nat} {c : Array Value} (hg : Tryz.prog.globalNamed n = some g) (h : w.var? Tryz.prog n = some c) : ∃ t fr, w.heap[g]? = some (.cells c t fr) := by
  unfold World.var? at h
  rw [hg] at h
  simp only [Option.bind_some] at h
  split at h
  · rename_i cs t fr hw; cases h; exact ⟨t, fr, hw⟩
  · cases h

def rho0 : Ren := fun A => if A < 7 then some ⟨A, 0, 0⟩ else none

theorem kS0_n : kS0.h.n = 7 := rfl
theorem kS0_get0 : kS0.h.get? 0 = some (.cells formsC 155 false) := by kernel_rfl
theorem kS0_get4 : kS0.h.get? 4 = some (.cells (((List.range 20).map fun i => (10 ^ i : Int)).map fun z => Value.int .u64 z) 230 false) := by kernel_rfl
theorem kS0_dead : kS0.h.get? 1 = some .dead ∧ kS0.h.get? 2 = some .dead ∧ kS0.h.get? 3 = some .dead ∧ kS0.h.get? 5 = some .dead ∧ kS0.h.get? 6 = some .dead := ⟨by kernel_rfl, by kernel_rfl, by kernel_rfl, by kernel_rfl, by kernel_rfl⟩

theorem zd9 {A : Nat} {b : Blk} (h : kS0.h.get? A = some b) : b = .dead ∨ (A = 0 ∧ b = .cells formsC 155 false) ∨ (A = 4 ∧ b = .cells (((List.range 20).map fun i => (10 ^ i : Int)).map fun z => Value.int .u64 z) 230 false) := by
  have hA : A < 7 := Heap.get_lt h
  obtain ⟨d1, d2, d3, d5, d6⟩ := kS0_dead
  match A, hA, h with
  | 0, _, h => rw [kS0_get0] at h; cases h; exact .inr (.inl ⟨rfl, rfl⟩)
  | 1, _, h => rw [d1] at h; cases h; exact .inl rfl
  | 2, _, h => rw [d2] at h; cases h; exact .inl rfl
  | 3, _, h => rw [d3] at h; cases h; exact .inl rfl
  | 4, _, h => rw [kS0_get4] at h; cases h; exact .inr (.inr ⟨rfl, rfl⟩)
  | 5, _, h => rw [d5] at h; cases h; exact .inl rfl
  | 6, _, h => rw [d6] at h; cases h; exact .inl rfl

theorem zh3 {ρ : Ren} {w : World} {g : Nat} {e t : TypeId} {fr : Nat × Nat} {l : List Value} (hl : ∀ v ∈ l, oneB v = true ∧ VR ρ v v) (hw : w.heap[g]? = some (.cells l.toArray t fr)) : BR Tryz.prog ρ w ⟨g, 0, 0⟩ (.cells l e false) := by
  refine .ro l.toArray t fr hw fun i v hv => ?_
  obtain ⟨h1, h2⟩ := hl v (List.mem_of_getElem? hv)
  exact ⟨h1, v, by simpa using hv, h2⟩

theorem ints_vr {ρ : Ren} (l : List Int) : ∀ v ∈ ints l, oneB v = true ∧ VR ρ v v := by
  intro v hv
  obtain ⟨z, _, rfl⟩ := List.mem_map.1 hv
  exact ⟨rfl, .int _ _⟩
theorem known_R {w : World} (hg : GoodW w) : R Tryz.prog (fun g => g < w.heap.size) w rho0 kS0.h w where
  below := Kept.refl _ _
  size := fun g h => h
  dom := fun A s e => by
    unfold rho0 at e
    split at e
    · rw [kS0_n]; assumption
    · cases e
  glob := fun g h => ⟨⟨g, 0, 0⟩, by rw [gSize] at h; unfold rho0; rw [if_pos h], rfl, rfl⟩
  blk := fun A s b e f => by
    unfold rho0 at e
    split at e
    · cases e
      rcases zd9 f with rfl | ⟨rfl, rfl⟩ | ⟨rfl, rfl⟩
      · exact .dead
      · obtain ⟨t, fr, hw⟩ := zcI gForms hg.1
        exact zh3 (fun v hv => by
          simp only [formsC, List.mem_cons, List.mem_nil_iff, or_false] at hv
          rcases hv with rfl | rfl <;> first | exact ⟨rfl, .string _⟩ | exact ⟨rfl, .int _ _⟩) hw
      · obtain ⟨t, fr, hw⟩ := zcI gPow hg.2
        exact zh3 (fun v hv => by
          obtain ⟨z, _, rfl⟩ := List.mem_map.1 hv
          exact ⟨rfl, .int _ _⟩) hw
    · cases e
  mine := fun A s b e f ho => by
    rcases zd9 f with rfl | ⟨_, rfl⟩ | ⟨_, rfl⟩ <;> cases ho
  inj := fun A B s t b c ea eb fa fb ho hl hAB => by
    rcases zd9 fa with rfl | ⟨_, rfl⟩ | ⟨_, rfl⟩ <;> cases ho

theorem zhq {w : World} (hg : GoodW w) : Calls Tryz.prog 16 #[] w fun e w' => e = .returned (.bool true) ∧ Below w.heap.size w w' :=
  known_call.calls (known_R hg) ⟨rfl, by simp⟩ rfl

theorem known_ok : KOK Tryz.prog KO GoodW := by
  intro f args h v l he N w0 hG up
  unfold KO at he
  cases hf : Nat.beq f 16 with
  | false =>
    rw [hf] at he
    exact KI_ok GoodW f args h v l he N w0 hG up
  | true =>
    cases ha : Nat.beq args.size 0 with
    | false => rw [hf, ha] at he; cases he
    | true =>
      rw [hf, ha] at he
      have hf' : f = 16 := Nat.eq_of_beq_eq_true hf
      have ha' : args.size = 0 := Nat.eq_of_beq_eq_true ha
      subst hf'
      have : args = #[] := by apply Array.ext'; simpa using ha'
      subst this
      cases he
      exact zkt (by simp) rfl (fun w hg => zhq hg) hG

end Go.AX.Sa

namespace Go.AX.Sa
open Go.Proofs Go.RowKit Go.ChangeShapes Go.WideShapes
set_option maxRecDepth 100000
def Arg (w : World) (v : Value) (len : Nat) (c : List Value) : Prop :=
  (len = 0 ∧ c = [] ∧ v = .slice none 0 0) ∨
  ∃ b o cap, v = .slice (some ⟨b, o, none⟩) len cap ∧ len ≤ cap ∧ (∀ i u, c[i]? = some u → w.cell? ⟨b, o + i, none⟩ = some u)
theorem ziC {b o i : Nat} : (⟨b, o, none⟩ : Addr).add i = ⟨b, o + i, none⟩ := by unfold Addr.add; split <;> simp_all
theorem ints_app (l m : List Int) : ints (l ++ m) = ints l ++ ints m := by simp [ints]
theorem zgp (l : List Int) : (ints l).length = l.length := by simp [ints]
def ArgI (w : World) (v : Value) (len : Nat) (c : List Value) : Prop := Arg w v len c ∨ (len = 0 ∧ c = [] ∧ ∃ a, v = .slice (some a) 0 0)
section
variable {H : Type} {enc : TypeId × Value → H} {w : World} {base : Nat} {held : Bool}
theorem cellsOf3 : Tryz.prog.cellsOf 3 = 1 := by kernel_rfl
theorem cellsOf22 : Tryz.prog.cellsOf 22 = 1 := by kernel_rfl
theorem cellsOf23 : Tryz.prog.cellsOf 23 = 1 := by kernel_rfl
theorem cellsOf25 : Tryz.prog.cellsOf 25 = 3 := by kernel_rfl
theorem cellsOf72 : Tryz.prog.cellsOf 72 = 2 := by kernel_rfl
theorem zht {fuel : Nat} {c : List Value} {x : DataW H × List MemPlace} (_hc : c.length = 1) (h : DataW.trod enc Tryz.prog w base (fun _ => true) held fuel 3 c = some x) : ∃ z : Int, c = [.int .i64 z] := by
  obtain ⟨n, e, _, _⟩ := DataW.trod_int Tryz.underlying3 h
  exact ⟨n, e⟩
theorem span_rec {fuel : Nat} {c : List Value} {x : DataW H × List MemPlace} (hc : c.length = 2) (h : DataW.trod enc Tryz.prog w base (fun _ => true) held fuel 72 c = some x) : ∃ zs : List Int, c = ints zs := by
  match c, hc with
  | [u0, u1], _ =>
    obtain ⟨y0, y1, m, _, _, h0, h1⟩ := trod_struct2 Tryz.underlying72 h
    simp only [cellsOf3, List.drop_zero, List.take_succ_cons, List.take_zero, List.drop_succ_cons] at h0 h1
    obtain ⟨a, ea⟩ := zht rfl h0
    obtain ⟨b, eb⟩ := zht rfl h1
    cases ea; cases eb
    exact ⟨[a, b], rfl⟩
theorem zf3 {T E k : Nat} (hT : Tryz.prog.underlying T = some (.slice E)) (hE : Tryz.prog.cellsOf E = k) (_hk : 0 < k)
    (hrec : ∀ fuel c x, c.length = k → DataW.trod enc Tryz.prog w base (fun _ => true) held fuel E c = some x → ∃ zs : List Int, c = ints zs)
    {fuel : Nat} {cs : List Value} {x : DataW H × List MemPlace} (h : DataW.trod enc Tryz.prog w base (fun _ => true) held fuel T cs = some x)
    (hsp : ∀ a n m, cs = [.slice (some a) n m] → a.spot = none) : ∃ (s : Value) (n : Nat) (l : List Int), cs = [s] ∧ l.length = n * k ∧ Arg w s n (ints l) := by
  rcases DataW.trod_slice hT h with ⟨h0, _⟩ | ⟨a, len, cap, elems, rest, n, _, rfl, _, hb, hl, hm, hlen, hel, _, _⟩
  · exact ⟨_, 0, [], h0, by simp, .inl ⟨rfl, rfl, rfl⟩⟩
  · obtain ⟨b, o, sp⟩ := a
    have hsp' := hsp _ _ _ rfl
    simp only at hsp'
    subst hsp'
    have each : ∀ i, i < len → ∃ zs : List Int, zs.length = k ∧ ∀ j u, (ints zs)[j]? = some u → w.cell? ⟨b, o + i * k + j, none⟩ = some u := by
      intro i hi
      have hi' : i < elems.length := by omega
      have e := hel i hi
      rw [List.getElem?_eq_getElem hi', Option.bind_eq_some_iff] at e
      obtain ⟨c2, hc2, ht⟩ := e
      rw [hE, ziC] at hc2
      obtain ⟨_, hlen2, hcell⟩ := World.cells?_some hc2
      obtain ⟨zs, rfl⟩ := hrec _ _ _ hlen2 ht
      rw [zgp] at hlen2
      refine ⟨zs, hlen2, fun j u q => ?_⟩
      have hj : j < zs.length := by have := (List.getElem?_eq_some_iff.1 q).1; simpa [ints] using this
      have := hcell j (by omega)
      rw [ziC] at this
      rw [this]; exact q
    have mk : ∀ m, m ≤ len → ∃ l : List Int, l.length = m * k ∧ ∀ i u, (ints l)[i]? = some u → w.cell? ⟨b, o + i, none⟩ = some u := by
      intro m
      induction m with
      | zero => intro _; exact ⟨[], by simp, fun i u q => by simp [ints] at q⟩
      | succ m ih =>
        intro hk
        obtain ⟨l, hl1, hl2⟩ := ih (by omega)
        obtain ⟨zs, hz, hq⟩ := each m (by omega)
        refine ⟨l ++ zs, by rw [List.length_append, hl1, hz, Nat.succ_mul], fun i u q => ?_⟩
        rw [ints_app] at q
        by_cases hi1 : i < (ints l).length
        · rw [List.getElem?_append_left hi1] at q; exact hl2 i u q
        · rw [List.getElem?_append_right (by omega)] at q
          have e := hq _ _ q
          rw [zgp, hl1] at e hi1
          rw [show o + m * k + (i - m * k) = o + i from by omega] at e
          exact e
    obtain ⟨l, hl1, hl2⟩ := mk len (Nat.le_refl _)
    exact ⟨_, len, l, rfl, hl1, .inr ⟨b, o, cap, rfl, by omega, hl2⟩⟩
theorem no_spot {r : Reach} {b0 T E : Nat} (hT : Tryz.prog.underlying T = some (.slice E)) {c0 : Value} (hc : Cell.okWide Tryz.prog w r b0 T c0) : ∀ a n m, [c0] = [Value.slice (some a) n m] → a.spot = none := by
  intro a n m e
  simp only [List.cons.injEq, and_true] at e
  subst e
  simp only [Cell.okWide, hT, Cell.ok] at hc
  exact hc.2.2.2.1
theorem zkA {r : Reach} {b0 : Nat} {v : Value} {d : DataW H} {ps : List MemPlace} (hval : Value.okWide Tryz.prog w r b0 26 v) (hd : DataW.Trod enc Tryz.prog w base (fun _ => true) held 26 v d ps) : ∃ t : List Int, Arg w v t.length (ints t) := by
  have hval' := hval
  obtain ⟨a0, len, cap, rfl⟩ := okWide_slice Tryz.underlying26 hval
  obtain ⟨fuel, hf⟩ := hd
  have hsp : ∀ a n m, [Value.slice a0 len cap] = [Value.slice (some a) n m] → a.spot = none := by
    intro a n m e
    simp only [List.cons.injEq, Value.slice.injEq, and_true] at e
    obtain ⟨rfl, rfl, rfl⟩ := e
    simp only [Value.okWide, Tryz.underlying26, Cell.okWide, Cell.ok] at hval'
    exact hval'.2.2.2.1
  obtain ⟨s, m, l, hs, hl, hA⟩ := zf3 (cs := [Value.slice a0 len cap]) Tryz.underlying26 cellsOf3 (by decide) (fun _ _ _ hc ht => by obtain ⟨z, rfl⟩ := zht hc ht; exact ⟨[z], rfl⟩) hf hsp
  simp only [List.cons.injEq, and_true] at hs
  subst hs
  rw [Nat.mul_one] at hl
  subst hl
  exact ⟨l, hA⟩
theorem zjl {r : Reach} {b0 : Nat} {v : Value} {d : DataW H} {ps : List MemPlace} (hval : Value.okWide Tryz.prog w r b0 25 v) (hd : DataW.Trod enc Tryz.prog w base (fun _ => true) held 25 v d ps) :
    ∃ (s : Value) (n : Nat) (z : List Int) (ru o : Int), v = .agg #[s, .int .i64 ru, .int .i64 o] ∧ z.length = n * 2 ∧ Arg w s n (ints z) := by
  simp only [Value.okWide, Tryz.underlying25] at hval
  obtain ⟨cs, rfl, hsz, ts, hts, _, hcell⟩ := hval
  rw [cellsOf25] at hsz
  obtain ⟨c0, c1, c2, rfl⟩ : ∃ c0 c1 c2, cs = #[c0, c1, c2] := by
    obtain ⟨l⟩ := cs
    match l, hsz with
    | [a, b, c], _ => exact ⟨a, b, c, rfl⟩
  obtain ⟨fuel, hf⟩ := hd
  obtain ⟨xs, m, _, _, _, hlen, hfs⟩ := DataW.trod_struct Tryz.underlying25 hf
  have hlen3 : xs.length = 3 := hlen
  have e0 : DataW.trod enc Tryz.prog w base (fun _ => true) held m 22 (List.take (Tryz.prog.cellsOf 22) (List.drop 0 [c0, c1, c2])) = xs[0]? := hfs 0 _ rfl
  have e1 : DataW.trod enc Tryz.prog w base (fun _ => true) held m 23 (List.take (Tryz.prog.cellsOf 23) (List.drop 1 [c0, c1, c2])) = xs[1]? := hfs 1 _ rfl
  have e2 : DataW.trod enc Tryz.prog w base (fun _ => true) held m 3 (List.take (Tryz.prog.cellsOf 3) (List.drop 2 [c0, c1, c2])) = xs[2]? := hfs 2 _ rfl
  rw [List.getElem?_eq_getElem (by omega)] at e0
  rw [List.getElem?_eq_getElem (by omega)] at e1
  rw [List.getElem?_eq_getElem (by omega)] at e2
  simp only [cellsOf3, cellsOf22, cellsOf23, List.drop_zero, List.take_succ_cons, List.take_zero, List.drop_succ_cons] at e0 e1 e2
  obtain ⟨n1, en1, _, _⟩ := DataW.trod_int Tryz.underlying23 e1
  obtain ⟨n2, en2, _, _⟩ := DataW.trod_int Tryz.underlying3 e2
  simp only [List.cons.injEq, and_true] at en1 en2
  subst en1
  subst en2
  have hct : Tryz.prog.cellTypes Tryz.prog.depth 25 = some [22, 23, 3] := by kernel_rfl
  rw [hct] at hts
  cases hts
  have k0 : Cell.okWide Tryz.prog w r b0 22 c0 := by
    obtain ⟨u, hu, hc⟩ := hcell 0 _ rfl
    simp at hu; subst hu; exact hc
  obtain ⟨y, n, z, q, hz, hy⟩ := zf3 Tryz.underlying22 cellsOf72 (by decide) (fun _ _ _ a b => span_rec a b) e0 (no_spot Tryz.underlying22 k0)
  cases q
  exact ⟨_, n, z, n1, n2, rfl, hz, hy⟩
end
end Go.AX.Sa

namespace Go.AX.Sa
open Go.Proofs Go.RowKit
set_option maxRecDepth 100000
def blkOf (c : List Value) (e : TypeId) : Blk := if c = [] then .dead else .cells c e false
theorem ziq : ∀ (l : List Blk) (i : Nat), (Bt.ofL l).get i = l[i]? := by
  intro l
  induction l with
  | nil => intro i; rfl
  | cons b l ih =>
    intro i
    simp only [Bt.ofL]
    cases i with
    | zero => exact (Bt.get_cons _ _).1
    | succ i => rw [(Bt.get_cons _ _).2 i, ih]; simp
def slotOf (v : Value) : Slot :=
  match v with
  | .slice (some a) _ cap => ⟨a.block, a.off, cap⟩
  | _ => ⟨0, 0, 0⟩
def absOf (B : Nat) (v : Value) : Option Addr × Nat :=
  match v with
  | .slice (some _) _ _ => (some ⟨B, 0, none⟩, anyCap)
  | _ => (none, 0)
def hB (Bs : List Blk) : Heap := { n := 7 + Bs.length, bs := .ofL (Bs.reverse ++ List.replicate 7 .dead) }
theorem hB_get {Bs : List Blk} {i : Nat} (h : i < Bs.length) : (hB Bs).get? (7 + i) = Bs[i]? := by
  unfold Heap.get? hB
  dsimp only
  rw [if_pos (by omega), ziq, List.getElem?_append_left (by simp; omega), List.getElem?_reverse (by omega)]
  congr 1; omega
theorem hB_low {Bs : List Blk} {A : Nat} {b : Blk} (hA : A < 7) (h : (hB Bs).get? A = some b) : b = .dead := by
  unfold Heap.get? hB at h
  dsimp only at h
  rw [if_pos (by omega), ziq, List.getElem?_append_right (by simp; omega), List.getElem?_replicate] at h
  split at h
  · cases h; rfl
  · cases h
def rhoB (S : List Slot) : Ren := fun A => if A < 7 then some ⟨A, 0, 0⟩ else S[A - 7]?
theorem zkm {S : List Slot} (i : Nat) : rhoB S (7 + i) = S[i]? := by unfold rhoB; rw [if_neg (by omega)]; congr 1; omega
theorem R_B {w : World} {S : List Slot} {Bs : List Blk} (hl : S.length = Bs.length) (hb : ∀ (i : Nat) (s : Slot) (b : Blk), S[i]? = some s → Bs[i]? = some b → BR Tryz.prog (rhoB S) w s b ∧ own b = false) :
    R Tryz.prog (fun g => g < w.heap.size) w (rhoB S) (hB Bs) w := by
  have key : ∀ A s b, rhoB S A = some s → (hB Bs).get? A = some b → BR Tryz.prog (rhoB S) w s b ∧ own b = false := by
    intro A s b e f
    by_cases hA : A < 7
    · rw [hB_low hA f]; exact ⟨.dead, rfl⟩
    · obtain ⟨i, rfl⟩ : ∃ i, A = 7 + i := ⟨A - 7, by omega⟩
      rw [zkm] at e
      have hi : i < Bs.length := by have := (List.getElem?_eq_some_iff.1 e).1; omega
      rw [hB_get hi] at f
      exact hb i s b e f
  exact {
    below := Kept.refl _ _
    size := fun g h => h
    dom := fun A s e => by
      show A < 7 + Bs.length
      unfold rhoB at e
      split at e
      · omega
      · have := (List.getElem?_eq_some_iff.1 e).1; omega
    glob := fun g h => ⟨⟨g, 0, 0⟩, by rw [gSize] at h; unfold rhoB; rw [if_pos h], rfl, rfl⟩
    blk := fun A s b e f => (key A s b e f).1
    mine := fun A s b e f ho => by rw [(key A s b e f).2] at ho; cases ho
    inj := fun A B s t b c ea eb fa fb ho hl hAB => by rw [(key A s b ea fa).2] at ho; cases ho }
theorem zky (c : List Value) (e : TypeId) : own (blkOf c e) = false := by unfold blkOf; split <;> rfl
theorem zkZ {w : World} (hg : GoodW w) : Safe GoodW (fun g => g < w.heap.size) w := by
  intro w' hk
  have keep : ∀ n g c, Tryz.prog.globalNamed n = some g → w.var? Tryz.prog n = some c → w'.var? Tryz.prog n = some c := by
    intro n g c hn hv
    obtain ⟨t, fr, hw⟩ := zcI hn hv
    have hlt : g < w.heap.size := (Array.getElem?_eq_some_iff.1 hw).1
    have := hk.block g hlt
    unfold World.var? at hv ⊢
    rw [hn] at hv ⊢
    simp only [Option.bind_some] at hv ⊢
    rw [this]; exact hv
  exact ⟨keep _ _ _ gForms hg.1, keep _ _ _ gPow hg.2⟩
theorem vr_slice {w : World} {v : Value} {n : Nat} {c : List Value} {ρ : Ren} {B : Nat} (hA : Arg w v n c) (hρ : ρ B = some (slotOf v)) : VR ρ (.slice (absOf B v).1 n (absOf B v).2) v := by
  rcases hA with ⟨rfl, _, rfl⟩ | ⟨b, o, cap, rfl, hle, _⟩
  · exact .nilSlice 0 0
  · exact .slice ⟨b, o, cap⟩ hρ rfl (by simp) (.inr (.inr ⟨Nat.le_refl _, by simp [absOf], hle⟩))
theorem zfF {w : World} {v : Value} {n : Nat} {c : List Value} {ρ : Ren} {B : Nat} (hA : ArgI w v n c) (hρ : ρ B = some (slotOf v)) : VR ρ (.slice (absOf B v).1 n (absOf B v).2) v := by
  rcases hA with hA | ⟨rfl, rfl, a, rfl⟩
  · exact vr_slice hA hρ
  · exact .slice0 rfl (.inl rfl) (.inl rfl)
theorem zhL (v : Value) (B : Nat) (a : Addr) (e : (absOf B v).1 = some a) : a.block = B := by
  unfold absOf at e
  split at e
  · cases e; rfl
  · cases e
theorem KO_noK : NoK KO := fun f a h hf => KO_no f a h hf
theorem KO_kn : Kn KO := fun h => KO_known h
theorem KO_in : KIn KO := fun a h => KO_ins a h
structure It where
  v : Value
  n : Nat
  mc : List Value
  rc : List Value
  e : TypeId
def slots (its : List It) : List Slot := its.map fun i => slotOf i.v
def blks (its : List It) : List Blk := its.map fun i => blkOf i.rc i.e
structure ItOK (w : World) (ρ : Ren) (it : It) : Prop where
  arg : ArgI w it.v it.n it.mc
  len : it.rc.length = it.mc.length
  each : ∀ (j : Nat) (u' : Value), it.rc[j]? = some u' → ∃ u, it.mc[j]? = some u ∧ oneB u' = true ∧ VR ρ u' u
theorem it_br {w : World} {ρ : Ren} {it : It} (h : ItOK w ρ it) : BR Tryz.prog ρ w (slotOf it.v) (blkOf it.rc it.e) := by
  unfold blkOf
  split
  · exact .dead
  · rename_i hne
    obtain ⟨u0, hu0⟩ : ∃ u, it.rc[0]? = some u := by
      cases hr : it.rc with
      | nil => exact absurd hr hne
      | cons a l => exact ⟨a, rfl⟩
    obtain ⟨m0, hm0, _⟩ := h.each 0 u0 hu0
    rcases h.arg with (⟨_, q, _⟩ | ⟨b, o, cap, hv, _, hcell⟩) | ⟨_, q, _⟩
    · rw [q] at hm0; cases hm0
    · have h0 := hcell 0 m0 hm0
      obtain ⟨cur, t, fr, hw⟩ : ∃ cur t fr, w.heap[b]? = some (.cells cur t fr) := by
        unfold World.cell? at h0
        simp only at h0
        split at h0
        · rename_i cs t fr hw; exact ⟨cs, t, fr, hw⟩
        · cases h0
      rw [hv]
      refine .ro cur t fr hw fun i v hv' => ?_
      obtain ⟨u, hu, h1, h2⟩ := h.each i v hv'
      refine ⟨h1, u, ?_, h2⟩
      have h5 := hcell i u hu
      unfold World.cell? at h5
      simp only [hw] at h5
      exact h5
    · rw [q] at hm0; cases hm0
theorem zlf {f : FuncId} {w : World} {args args' : Array Value} (hg : GoodW w) (its : List It) (hok : ∀ it ∈ its, ItOK w (rhoB (slots its)) it) (hx : XR (rhoB (slots its)) args args')
    (H : CallW Tryz.prog KO f args (hB (blks its)) fun v _ => v = .bool true) : Calls Tryz.prog f args' w fun e w' => e = .returned (.bool true) ∧ Below w.heap.size w w' := by
  obtain ⟨n, r, hh, hr, rfl⟩ := H
  refine zdT hmx known_ok rfl hr (R_B (by simp [slots, blks]) fun i z b e f => ?_) hx (zkZ hg)
  unfold slots at e
  unfold blks at f
  rw [List.getElem?_map, Option.map_eq_some_iff] at e f
  obtain ⟨it, h1, rfl⟩ := e
  obtain ⟨it', h2, rfl⟩ := f
  rw [h1] at h2
  cases h2
  exact ⟨it_br (hok it (List.mem_of_getElem? h1)), zky _ _⟩
theorem rho_it {its : List It} {i : Nat} {it : It} (h : its[i]? = some it) : rhoB (slots its) (7 + i) = some (slotOf it.v) := by
  rw [zkm]; simp [slots, h]
theorem get_it {its : List It} {i : Nat} {it : It} (h : its[i]? = some it) : (hB (blks its)).get? (7 + i) = some (blkOf it.rc it.e) := by
  have hi := (List.getElem?_eq_some_iff.1 h).1
  rw [hB_get (by simpa [blks] using hi)]
  simp [blks, h]
theorem blk_it {its : List It} {i : Nat} {v : Value} (h : i < its.length) : ∀ a, (absOf (7 + i) v).1 = some a → a.block < (hB (blks its)).n := by
  intro a e
  rw [zhL _ _ _ e]
  show 7 + i < 7 + (blks its).length
  simp [blks]; omega
theorem rd_it {w : World} {ρ : Ren} {its : List It} {i : Nat} {it : It} (h : its[i]? = some it) (ok : ItOK w ρ it) : Rd (hB (blks its)) (absOf (7 + i) it.v).1 it.rc := by
  by_cases hc : it.rc = []
  · exact .inl hc
  · have hg := get_it h
    unfold blkOf at hg
    rw [if_neg hc] at hg
    have hl := ok.len
    have hne : it.mc ≠ [] := fun q => hc (List.length_eq_zero_iff.1 (by rw [hl, q]; rfl))
    rcases ok.arg with (⟨_, q, _⟩ | ⟨b, o, cap, hv, _, _⟩) | ⟨_, q, _⟩
    · exact absurd q hne
    · exact .inr ⟨7 + i, it.e, false, by rw [hv]; rfl, hg⟩
    · exact absurd q hne
def listIt (v : Value) (l : List Int) : It := ⟨v, l.length, ints l, ints l, 3⟩
theorem zgi {w : World} {ρ : Ren} {v : Value} {l : List Int} (h : ArgI w v l.length (ints l)) : ItOK w ρ (listIt v l) :=
  ⟨h, rfl, fun j u' e => ⟨u', e, by obtain ⟨z, _, rfl⟩ := List.mem_map.1 (List.mem_of_getElem? e); exact ⟨rfl, .int _ _⟩⟩⟩
theorem lr_ints {ρ : Ren} : ∀ l : List Int, LR ρ (ints l) (ints l) := by
  intro l
  induction l with
  | nil => exact LR.nil ρ
  | cons z l ih => exact LR.cons (.int _ _) ih
theorem abs_cap {w : World} {v : Value} {n B : Nat} {c : List Value} (h : ArgI w v n c) (hn : n ≤ 1000000) : n ≤ (absOf B v).2 := by
  rcases h with (⟨rfl, _, _⟩ | ⟨b, o, cap, rfl, _, _⟩) | ⟨rfl, _, _⟩
  · exact Nat.zero_le _
  · show n ≤ anyCap
    unfold anyCap; omega
  · exact Nat.zero_le _
abbrev Tru (f : FuncId) (args : Array Value) (h : Heap) : Prop := CallW Tryz.prog KO f args h fun v _ => v = .bool true
abbrev Done (f : FuncId) (args : Array Value) (w : World) : Prop := Calls Tryz.prog f args w fun e w' => e = .returned (.bool true) ∧ Below w.heap.size w w'
end Go.AX.Sa
