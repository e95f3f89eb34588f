/- The examples answer true; from what the reading says to what the machine does. -/
import Derived.Test.YtliligceejfakaaGreatDoorAxA
import Derived.Test.YtliligceejfakaaGreatDoorProg
import Derived.KernelRfl
import Derived.Test.YtliligceejfakaaGreatDoorKnA
import Derived.Test.YtliligceejfakaaGreatDoorKnB
import Derived.Test.YtliligceejfakaaGreatDoorAxW
import Derived.Lib.LaidU8
import Derived.Lib.LaidTab
import Derived.Test.YtliligceejfakaaGreatDoorSwA
import Derived.ChangeArms
import Derived.ChangeSlices
import Derived.ChangeSame
import Derived.OpenShut
import Derived.Test.YtliligceejfakaaGreatDoorProofReadersTextA
namespace Go.AX.Sa
open Go.Proofs
def KO : Known := fun f args _ => bif Nat.beq f 16 && Nat.beq args.size 0 then some (.bool true, []) else none
theorem KO_no (f : FuncId) (a : Array Value) (h : Heap) (hf : Nat.beq f 16 = false) : KO f a h = none := by unfold KO; rw [hf]; rfl
theorem KO_known (h : Heap) : KO 16 #[] h = some (.bool true, []) := rfl
end Go.AX.Sa

namespace Go.AX.Sa
open Go.Proofs Go.RowKit

theorem hmx : Tryz.prog.follows .mixedOrders = true := by kernel_rfl

set_option maxRecDepth 100000 in
theorem zeg (N : Nat → Prop) (w0 : World) : Piece Tryz.prog N w0 ⟨16, none, false⟩ [.code kSc0] kS0 .ret kS2 := by
  have hK := no_known Tryz.prog (fun _ => True)
  have hG : Safe (fun _ => True) N w0 := fun _ _ => trivial
  have hl : Piece Tryz.prog N w0 ⟨16, none, false⟩ [.code kSc1] kS1 .ret kS2 := by
    obtain ⟨m, s', h1, h2⟩ := zkG kSlast
    rw [h2]
    exact (ze3 hmx hK hG h1).keep []
  exact zgp hmx hK hG kSg0 hl

theorem zho : ({ tm := #[] ++ Array.replicate (Tryz.f16.ntmps - (#[] : Array Value).size) undef, df := [], up := .run, h := kS0.h } : St) = kS0 := by kernel_rfl
theorem zi8 : Tryz.f16.body = some kSc0 := by kernel_rfl
theorem zgk : ∀ b, kSc0 ≠ .loop b := by
  intro b h
  have : (match kSc0 with | .loop _ => true | _ => false) = true := by rw [h]
  have h2 : (match kSc0 with | .loop _ => true | _ => false) = false := by kernel_rfl
  rw [h2] at this; cases this

theorem known_call {N : Nat → Prop} {w0 : World} : SimCall Tryz.prog N w0 16 #[] false .run kS0.h (.ret (.bool true)) kS2.up kS2.h :=
  zk9 (Good := fun _ => True) Tryz.func16 zi8 zgk (fun N w0 _ => by rw [zho]; exact zeg N w0)
    ((zeg N w0).2)
    (by show Option.map _ (resultsB Tryz.prog Tryz.f16 kS2.tm kS2.h) = _; kernel_rfl) (fun _ _ => trivial)

/-- What the variables hold that known reads. -/
def formsC : List Value := [strB [112, 97, 103, 101], .int .i64 1, .int .i64 0, strB [108, 105, 110, 101], .int .i64 1, .int .i64 2, strB [114, 101, 97, 100], .int .i64 4, .int .i64 0, strB [109, 101, 110, 100], .int .i64 2, .int .i64 1, strB [102, 97, 108, 108], .int .i64 1, .int .i64 0]
def GoodW (w : World) : Prop :=
  w.var? Tryz.prog "ephemerist/proof.forms" = some formsC.toArray ∧
  w.var? Tryz.prog "internal/strconv.uint64pow10" = some (((List.range 20).map fun i => (10 ^ i : Int)).map fun z => Value.int .u64 z).toArray

theorem gForms : Tryz.prog.globalNamed "ephemerist/proof.forms" = some 0 := by kernel_rfl
theorem gPow : Tryz.prog.globalNamed "internal/strconv.uint64pow10" = some 4 := by kernel_rfl
theorem gSize : Tryz.prog.globals.size = 7 := by kernel_rfl

theorem zcE {w : World} {n : String} {g : Nat} {c : Array Value} (hg : Tryz.prog.globalNamed n = some g) (h : w.var? Tryz.prog n = some c) : ∃ t fr, w.heap[g]? = some (.cells c t fr) := by
  unfold World.var? at h
  rw [hg] at h
  simp only [Option.bind_some] at h
  split at h
  · rename_i cs t fr hw; cases h; exact ⟨t, fr, hw⟩
  · cases h

def rho0 : Ren := fun A => if A < 7 then some ⟨A, 0, 0⟩ else none

theorem kS0_n : kS0.h.n = 7 := rfl
theorem kS0_get0 : kS0.h.get? 0 = some (.cells formsC 166 false) := by kernel_rfl
theorem kS0_get4 : kS0.h.get? 4 = some (.cells (((List.range 20).map fun i => (10 ^ i : Int)).map fun z => Value.int .u64 z) 249 false) := by kernel_rfl
theorem kS0_dead : kS0.h.get? 1 = some .dead ∧ kS0.h.get? 2 = some .dead ∧ kS0.h.get? 3 = some .dead ∧ kS0.h.get? 5 = some .dead ∧ kS0.h.get? 6 = some .dead := ⟨by kernel_rfl, by kernel_rfl, by kernel_rfl, by kernel_rfl, by kernel_rfl⟩

theorem zeh {A : Nat} {b : Blk} (h : kS0.h.get? A = some b) : b = .dead ∨ (A = 0 ∧ b = .cells formsC 166 false) ∨ (A = 4 ∧ b = .cells (((List.range 20).map fun i => (10 ^ i : Int)).map fun z => Value.int .u64 z) 249 false) := by
  have hA : A < 7 := Heap.get_lt h
  obtain ⟨d1, d2, d3, d5, d6⟩ := kS0_dead
  match A, hA, h with
  | 0, _, h => rw [kS0_get0] at h; cases h; exact .inr (.inl ⟨rfl, rfl⟩)
  | 1, _, h => rw [d1] at h; cases h; exact .inl rfl
  | 2, _, h => rw [d2] at h; cases h; exact .inl rfl
  | 3, _, h => rw [d3] at h; cases h; exact .inl rfl
  | 4, _, h => rw [kS0_get4] at h; cases h; exact .inr (.inr ⟨rfl, rfl⟩)
  | 5, _, h => rw [d5] at h; cases h; exact .inl rfl
  | 6, _, h => rw [d6] at h; cases h; exact .inl rfl

theorem zh3 {ρ : Ren} {w : World} {g : Nat} {e t : TypeId} {fr : Nat × Nat} {l : List Value} (hl : ∀ v ∈ l, oneB v = true ∧ VR ρ v v) (hw : w.heap[g]? = some (.cells l.toArray t fr)) : BR Tryz.prog ρ w ⟨g, 0, 0⟩ (.cells l e false) := by
  refine .ro l.toArray t fr hw fun i v hv => ?_
  obtain ⟨h1, h2⟩ := hl v (List.mem_of_getElem? hv)
  exact ⟨h1, v, by simpa using hv, h2⟩

theorem ints_vr {ρ : Ren} (l : List Int) : ∀ v ∈ ints l, oneB v = true ∧ VR ρ v v := by
  intro v hv
  obtain ⟨z, _, rfl⟩ := List.mem_map.1 hv
  exact ⟨rfl, .int _ _⟩
theorem known_R {w : World} (hg : GoodW w) : R Tryz.prog (fun g => g < w.heap.size) w rho0 kS0.h w where
  below := Kept.refl _ _
  size := fun g h => h
  dom := fun A s e => by
    unfold rho0 at e
    split at e
    · rw [kS0_n]; assumption
    · cases e
  glob := fun g h => ⟨⟨g, 0, 0⟩, by rw [gSize] at h; unfold rho0; rw [if_pos h], rfl, rfl⟩
  blk := fun A s b e f => by
    unfold rho0 at e
    split at e
    · cases e
      rcases zeh f with rfl | ⟨rfl, rfl⟩ | ⟨rfl, rfl⟩
      · exact .dead
      · obtain ⟨t, fr, hw⟩ := zcE gForms hg.1
        exact zh3 (fun v hv => by
          simp only [formsC, List.mem_cons, List.mem_nil_iff, or_false] at hv
          rcases hv with rfl | rfl | rfl | rfl | rfl | rfl | rfl | rfl | rfl | rfl | rfl | rfl | rfl | rfl | rfl <;> first | exact ⟨rfl, .string _⟩ | exact ⟨rfl, .int _ _⟩) hw
      · obtain ⟨t, fr, hw⟩ := zcE gPow hg.2
        exact zh3 (fun v hv => by
          obtain ⟨z, _, rfl⟩ := List.mem_map.1 hv
          exact ⟨rfl, .int _ _⟩) hw
    · cases e
  mine := fun A s b e f ho => by
    rcases zeh f with rfl | ⟨_, rfl⟩ | ⟨_, rfl⟩ <;> cases ho
  inj := fun A B s t b c ea eb fa fb ho hl hAB => by
    rcases zeh fa with rfl | ⟨_, rfl⟩ | ⟨_, rfl⟩ <;> cases ho

theorem zhp {w : World} (hg : GoodW w) : Calls Tryz.prog 16 #[] w fun e w' => e = .returned (.bool true) ∧ Below w.heap.size w w' :=
  known_call.calls (known_R hg) ⟨rfl, by simp⟩ rfl

theorem known_ok : KOK Tryz.prog KO GoodW := by
  intro f args h v l he N w0 hG up
  unfold KO at he
  cases hf : Nat.beq f 16 with
  | false => rw [hf] at he; cases he
  | true =>
    cases ha : Nat.beq args.size 0 with
    | false => rw [hf, ha] at he; cases he
    | true =>
      rw [hf, ha] at he
      have hf' : f = 16 := Nat.eq_of_beq_eq_true hf
      have ha' : args.size = 0 := Nat.eq_of_beq_eq_true ha
      subst hf'
      have : args = #[] := by apply Array.ext'; simpa using ha'
      subst this
      cases he
      exact zkh (by simp) rfl (fun w hg => zhp hg) hG

end Go.AX.Sa

namespace Go.AX.Sa
open Go.Proofs Go.RowKit Go.ChangeShapes Go.WideShapes
set_option maxRecDepth 100000
def Arg (w : World) (v : Value) (len : Nat) (c : List Value) : Prop :=
  (len = 0 ∧ c = [] ∧ v = .slice none 0 0) ∨
  ∃ b o cap, v = .slice (some ⟨b, o, none⟩) len cap ∧ len ≤ cap ∧ (∀ i u, c[i]? = some u → w.cell? ⟨b, o + i, none⟩ = some u)
theorem zc6 {b o i : Nat} : (⟨b, o, none⟩ : Addr).add i = ⟨b, o + i, none⟩ := by unfold Addr.add; split <;> simp_all
theorem ints_app (l m : List Int) : ints (l ++ m) = ints l ++ ints m := by simp [ints]
theorem zgm (l : List Int) : (ints l).length = l.length := by simp [ints]
def ArgI (w : World) (v : Value) (len : Nat) (c : List Value) : Prop := Arg w v len c ∨ (len = 0 ∧ c = [] ∧ ∃ a, v = .slice (some a) 0 0)
section
variable {H : Type} {enc : TypeId × Value → H} {w : World} {base : Nat} {held : Bool}
theorem cellsOf3 : Tryz.prog.cellsOf 3 = 1 := by kernel_rfl
theorem cellsOf22 : Tryz.prog.cellsOf 22 = 1 := by kernel_rfl
theorem cellsOf23 : Tryz.prog.cellsOf 23 = 1 := by kernel_rfl
theorem cellsOf25 : Tryz.prog.cellsOf 25 = 3 := by kernel_rfl
theorem cellsOf30 : Tryz.prog.cellsOf 30 = 1 := by kernel_rfl
theorem cellsOf35 : Tryz.prog.cellsOf 35 = 1 := by kernel_rfl
theorem cellsOf37 : Tryz.prog.cellsOf 37 = 2 := by kernel_rfl
theorem cellsOf92 : Tryz.prog.cellsOf 92 = 3 := by kernel_rfl
theorem zjI {b o : Nat} {sp : Option Nat} {u : Value} (h : w.cell? ((⟨b, o, sp⟩ : Addr).add 0) = some u) : sp = none := by
  rw [show (⟨b, o, sp⟩ : Addr).add 0 = ⟨b, o, sp⟩ from rfl] at h
  unfold World.cell? at h
  cases sp with
  | none => rfl
  | some s => dsimp only at h; split at h <;> simp at h
theorem zi3 {fuel : Nat} {c : Value} {x : DataW H × List MemPlace} (h : DataW.trod enc Tryz.prog w base (fun _ => true) held fuel 30 [c] = some x) : ∃ t : List Int, ArgI w c t.length (ints t) := by
  rcases open_ints Tryz.underlying30 Tryz.underlying3 cellsOf3 h with ⟨hcs, _⟩ | ⟨a, len, cap, zs, hcs, _, hl, hm, hz, _, hcell, _⟩
  · simp at hcs; subst hcs; exact ⟨[], .inl (.inl ⟨rfl, rfl, rfl⟩)⟩
  · simp at hcs; subst hcs
    simp at hz
    by_cases hc : cap = 0
    · subst hc
      obtain rfl : len = 0 := by omega
      exact ⟨[], .inr ⟨rfl, rfl, a, rfl⟩⟩
    · obtain ⟨b, o, sp⟩ := a
      have hsp : sp = none := zjI (hcell 0 (by omega))
      subst hsp
      have hzl : len ≤ zs.length := by omega
      refine ⟨zs.take len, .inl (.inr ⟨b, o, cap, by simp [Nat.min_eq_left hzl], by simp; omega, fun i u q => ?_⟩)⟩
      have hi : i < (zs.take len).length := by have := (List.getElem?_eq_some_iff.1 q).1; simpa [ints] using this
      have hi2 : i < zs.length := by simp at hi; omega
      have := hcell i hi2
      rw [zc6] at this
      rw [this]
      have hi3 : i < len := by simp at hi; omega
      simp [ints, hi3, List.getElem?_eq_getElem hi2] at q
      rw [← q]
      simp [List.getD_eq_getElem?_getD, hi2]
theorem zht {fuel : Nat} {c : List Value} {x : DataW H × List MemPlace} (_hc : c.length = 1) (h : DataW.trod enc Tryz.prog w base (fun _ => true) held fuel 3 c = some x) : ∃ z : Int, c = [.int .i64 z] := by
  obtain ⟨n, e, _, _⟩ := DataW.trod_int Tryz.underlying3 h
  exact ⟨n, e⟩
theorem line_rec {fuel : Nat} {c : List Value} {x : DataW H × List MemPlace} (hc : c.length = 3) (h : DataW.trod enc Tryz.prog w base (fun _ => true) held fuel 92 c = some x) : ∃ zs : List Int, c = ints zs := by
  match c, hc with
  | [u0, u1, u2], _ =>
    obtain ⟨xs, n, _, _, _, hlen, hfs⟩ := DataW.trod_struct Tryz.underlying92 h
    have hlen3 : xs.length = 3 := hlen
    have e0 : DataW.trod enc Tryz.prog w base (fun _ => true) held n 3 (List.take (Tryz.prog.cellsOf 3) (List.drop 0 [u0, u1, u2])) = xs[0]? := hfs 0 _ rfl
    have e1 : DataW.trod enc Tryz.prog w base (fun _ => true) held n 3 (List.take (Tryz.prog.cellsOf 3) (List.drop 1 [u0, u1, u2])) = xs[1]? := hfs 1 _ rfl
    have e2 : DataW.trod enc Tryz.prog w base (fun _ => true) held n 3 (List.take (Tryz.prog.cellsOf 3) (List.drop 2 [u0, u1, u2])) = xs[2]? := hfs 2 _ rfl
    rw [List.getElem?_eq_getElem (by omega)] at e0
    rw [List.getElem?_eq_getElem (by omega)] at e1
    rw [List.getElem?_eq_getElem (by omega)] at e2
    simp only [cellsOf3, List.drop_zero, List.take_succ_cons, List.take_zero, List.drop_succ_cons] at e0 e1 e2
    obtain ⟨a, ea⟩ := zht rfl e0
    obtain ⟨b, eb⟩ := zht rfl e1
    obtain ⟨d, ed⟩ := zht rfl e2
    cases ea; cases eb; cases ed
    exact ⟨[a, b, d], rfl⟩
theorem zko {T E k : Nat} (hT : Tryz.prog.underlying T = some (.slice E)) (hE : Tryz.prog.cellsOf E = k) (_hk : 0 < k)
    (hrec : ∀ fuel c x, c.length = k → DataW.trod enc Tryz.prog w base (fun _ => true) held fuel E c = some x → ∃ zs : List Int, c = ints zs)
    {fuel : Nat} {cs : List Value} {x : DataW H × List MemPlace} (h : DataW.trod enc Tryz.prog w base (fun _ => true) held fuel T cs = some x)
    (hsp : ∀ a n m, cs = [.slice (some a) n m] → a.spot = none) : ∃ (s : Value) (n : Nat) (l : List Int), cs = [s] ∧ l.length = n * k ∧ Arg w s n (ints l) := by
  rcases DataW.trod_slice hT h with ⟨h0, _⟩ | ⟨a, len, cap, elems, rest, n, _, rfl, _, hb, hl, hm, hlen, hel, _, _⟩
  · exact ⟨_, 0, [], h0, by simp, .inl ⟨rfl, rfl, rfl⟩⟩
  · obtain ⟨b, o, sp⟩ := a
    have hsp' := hsp _ _ _ rfl
    simp only at hsp'
    subst hsp'
    have each : ∀ i, i < len → ∃ zs : List Int, zs.length = k ∧ ∀ j u, (ints zs)[j]? = some u → w.cell? ⟨b, o + i * k + j, none⟩ = some u := by
      intro i hi
      have hi' : i < elems.length := by omega
      have e := hel i hi
      rw [List.getElem?_eq_getElem hi', Option.bind_eq_some_iff] at e
      obtain ⟨c2, hc2, ht⟩ := e
      rw [hE, zc6] at hc2
      obtain ⟨_, hlen2, hcell⟩ := World.cells?_some hc2
      obtain ⟨zs, rfl⟩ := hrec _ _ _ hlen2 ht
      rw [zgm] at hlen2
      refine ⟨zs, hlen2, fun j u q => ?_⟩
      have hj : j < zs.length := by have := (List.getElem?_eq_some_iff.1 q).1; simpa [ints] using this
      have := hcell j (by omega)
      rw [zc6] at this
      rw [this]; exact q
    have mk : ∀ m, m ≤ len → ∃ l : List Int, l.length = m * k ∧ ∀ i u, (ints l)[i]? = some u → w.cell? ⟨b, o + i, none⟩ = some u := by
      intro m
      induction m with
      | zero => intro _; exact ⟨[], by simp, fun i u q => by simp [ints] at q⟩
      | succ m ih =>
        intro hk
        obtain ⟨l, hl1, hl2⟩ := ih (by omega)
        obtain ⟨zs, hz, hq⟩ := each m (by omega)
        refine ⟨l ++ zs, by rw [List.length_append, hl1, hz, Nat.succ_mul], fun i u q => ?_⟩
        rw [ints_app] at q
        by_cases hi1 : i < (ints l).length
        · rw [List.getElem?_append_left hi1] at q; exact hl2 i u q
        · rw [List.getElem?_append_right (by omega)] at q
          have e := hq _ _ q
          rw [zgm, hl1] at e hi1
          rw [show o + m * k + (i - m * k) = o + i from by omega] at e
          exact e
    obtain ⟨l, hl1, hl2⟩ := mk len (Nat.le_refl _)
    exact ⟨_, len, l, rfl, hl1, .inr ⟨b, o, cap, rfl, by omega, hl2⟩⟩
def mcop : List (Int × Value × List Int) → List Value
  | [] => []
  | q :: l => .int .i64 q.1 :: q.2.1 :: mcop l
theorem mcop_app (l m : List (Int × Value × List Int)) : mcop (l ++ m) = mcop l ++ mcop m := by
  induction l with
  | nil => rfl
  | cons q l ih => simp only [List.cons_append, mcop, ih]
theorem zh7 (l : List (Int × Value × List Int)) : (mcop l).length = 2 * l.length := by
  induction l with
  | nil => rfl
  | cons p l ih => simp only [mcop, List.length_cons, ih]; omega
theorem zkq {fuel : Nat} {cs : List Value} {x : DataW H × List MemPlace} (h : DataW.trod enc Tryz.prog w base (fun _ => true) held fuel 23 cs = some x)
    (hsp : ∀ a n m, cs = [.slice (some a) n m] → a.spot = none) : ∃ (s : Value) (l : List (Int × Value × List Int)), cs = [s] ∧ Arg w s l.length (mcop l) ∧ ∀ q ∈ l, ArgI w q.2.1 q.2.2.length (ints q.2.2) := by
  rcases DataW.trod_slice Tryz.underlying23 h with ⟨h0, _⟩ | ⟨a, len, cap, elems, rest, n, _, rfl, _, hb, hl, hm, hlen, hel, _, _⟩
  · exact ⟨_, [], h0, .inl ⟨rfl, rfl, rfl⟩, fun q hq => by cases hq⟩
  · obtain ⟨b, o, sp⟩ := a
    have hsp' := hsp _ _ _ rfl
    simp only at hsp'
    subst hsp'
    have each : ∀ i, i < len → ∃ q : Int × Value × List Int, ArgI w q.2.1 q.2.2.length (ints q.2.2) ∧ w.cell? ⟨b, o + i * 2, none⟩ = some (.int .i64 q.1) ∧ w.cell? ⟨b, o + i * 2 + 1, none⟩ = some q.2.1 := by
      intro i hi
      have hi' : i < elems.length := by omega
      have e := hel i hi
      rw [List.getElem?_eq_getElem hi', Option.bind_eq_some_iff] at e
      obtain ⟨c2, hc2, ht⟩ := e
      rw [cellsOf37, zc6] at hc2
      obtain ⟨_, hlen2, hcell⟩ := World.cells?_some hc2
      match c2, hlen2 with
      | [u0, u1], _ =>
        obtain ⟨y0, y1, m, _, _, h0, h1⟩ := trod_struct2 Tryz.underlying37 ht
        simp only [cellsOf35, cellsOf30, List.drop_zero, List.take_succ_cons, List.take_zero, List.drop_succ_cons] at h0 h1
        obtain ⟨z, e0, _, _⟩ := DataW.trod_int Tryz.underlying35 h0
        simp only [List.cons.injEq, and_true] at e0
        subst e0
        obtain ⟨t, hA⟩ := zi3 h1
        have q0 := hcell 0 (by omega)
        have q1 := hcell 1 (by omega)
        rw [zc6] at q0 q1
        exact ⟨(z, u1, t), hA, by simpa using q0, by simpa using q1⟩
    have mk : ∀ m, m ≤ len → ∃ l : List (Int × Value × List Int), l.length = m ∧ (∀ i u, (mcop l)[i]? = some u → w.cell? ⟨b, o + i, none⟩ = some u) ∧ ∀ q ∈ l, ArgI w q.2.1 q.2.2.length (ints q.2.2) := by
      intro m
      induction m with
      | zero => intro _; exact ⟨[], rfl, fun i u q => by simp [mcop] at q, fun q hq => by cases hq⟩
      | succ m ih =>
        intro hk
        obtain ⟨l, hl1, hl2, hl3⟩ := ih (by omega)
        obtain ⟨q, hq, c0, c1⟩ := each m (by omega)
        refine ⟨l ++ [q], by rw [List.length_append, hl1]; rfl, fun i u e => ?_, fun q' hq' => ?_⟩
        · rw [mcop_app] at e
          have hml := zh7 l
          by_cases hi1 : i < (mcop l).length
          · rw [List.getElem?_append_left hi1] at e; exact hl2 i u e
          · rw [List.getElem?_append_right (by omega)] at e
            obtain ⟨j, rfl⟩ : ∃ j, i = m * 2 + j := ⟨i - m * 2, by omega⟩
            rw [hml, hl1, show m * 2 + j - 2 * m = j from by omega] at e
            match j, e with
            | 0, e => cases e; exact c0
            | 1, e => cases e; rw [← Nat.add_assoc]; exact c1
            | k + 2, e => simp [mcop] at e
        · rcases List.mem_append.1 hq' with r | r
          · exact hl3 q' r
          · rw [List.mem_singleton.1 r]; exact hq
    obtain ⟨l, hl1, hl2, hl3⟩ := mk len (Nat.le_refl _)
    exact ⟨_, l, rfl, .inr ⟨b, o, cap, by rw [hl1], by omega, hl2⟩, hl3⟩
theorem zkA {r : Reach} {b0 T E : Nat} (hT : Tryz.prog.underlying T = some (.slice E)) {c0 : Value} (hc : Cell.okWide Tryz.prog w r b0 T c0) : ∀ a n m, [c0] = [Value.slice (some a) n m] → a.spot = none := by
  intro a n m e
  simp only [List.cons.injEq, and_true] at e
  subst e
  simp only [Cell.okWide, hT, Cell.ok] at hc
  exact hc.2.2.2.1
theorem zkp {r : Reach} {b0 : Nat} {v : Value} {d : DataW H} {ps : List MemPlace} (hval : Value.okWide Tryz.prog w r b0 25 v) (hd : DataW.Trod enc Tryz.prog w base (fun _ => true) held 25 v d ps) :
    ∃ (m : Int) (y : Value) (n : Nat) (z : List Int) (s : Value) (l : List (Int × Value × List Int)), v = .agg #[.int .i64 m, y, s] ∧ z.length = n * 3 ∧ Arg w y n (ints z) ∧ Arg w s l.length (mcop l) ∧ ∀ q ∈ l, ArgI w q.2.1 q.2.2.length (ints q.2.2) := by
  simp only [Value.okWide, Tryz.underlying25] at hval
  obtain ⟨cs, rfl, hsz, ts, hts, _, hcell⟩ := hval
  rw [cellsOf25] at hsz
  obtain ⟨c0, c1, c2, rfl⟩ : ∃ c0 c1 c2, cs = #[c0, c1, c2] := by
    obtain ⟨l⟩ := cs
    match l, hsz with
    | [a, b, c], _ => exact ⟨a, b, c, rfl⟩
  obtain ⟨fuel, hf⟩ := hd
  obtain ⟨xs, m, _, _, _, hlen, hfs⟩ := DataW.trod_struct Tryz.underlying25 hf
  have hlen3 : xs.length = 3 := hlen
  have e0 : DataW.trod enc Tryz.prog w base (fun _ => true) held m 3 (List.take (Tryz.prog.cellsOf 3) (List.drop 0 [c0, c1, c2])) = xs[0]? := hfs 0 _ rfl
  have e1 : DataW.trod enc Tryz.prog w base (fun _ => true) held m 22 (List.take (Tryz.prog.cellsOf 22) (List.drop 1 [c0, c1, c2])) = xs[1]? := hfs 1 _ rfl
  have e2 : DataW.trod enc Tryz.prog w base (fun _ => true) held m 23 (List.take (Tryz.prog.cellsOf 23) (List.drop 2 [c0, c1, c2])) = xs[2]? := hfs 2 _ rfl
  rw [List.getElem?_eq_getElem (by omega)] at e0
  rw [List.getElem?_eq_getElem (by omega)] at e1
  rw [List.getElem?_eq_getElem (by omega)] at e2
  simp only [cellsOf3, cellsOf22, cellsOf23, List.drop_zero, List.take_succ_cons, List.take_zero, List.drop_succ_cons] at e0 e1 e2
  obtain ⟨n0, en, _, _⟩ := DataW.trod_int Tryz.underlying3 e0
  simp only [List.cons.injEq, and_true] at en
  subst en
  have hct : Tryz.prog.cellTypes Tryz.prog.depth 25 = some [3, 22, 23] := by kernel_rfl
  rw [hct] at hts
  cases hts
  have k1 : Cell.okWide Tryz.prog w r b0 22 c1 := by
    obtain ⟨u, hu, hc⟩ := hcell 1 _ rfl
    simp at hu; subst hu; exact hc
  have k2 : Cell.okWide Tryz.prog w r b0 23 c2 := by
    obtain ⟨u, hu, hc⟩ := hcell 2 _ rfl
    simp at hu; subst hu; exact hc
  obtain ⟨y, n, z, q, hz, hy⟩ := zko Tryz.underlying22 cellsOf92 (by decide) (fun _ _ _ a b => line_rec a b) e1 (zkA Tryz.underlying22 k1)
  cases q
  obtain ⟨s, l, q, hA, hI⟩ := zkq e2 (zkA Tryz.underlying23 k2)
  cases q
  exact ⟨n0, _, n, z, _, l, rfl, hz, hy, hA, hI⟩
end
end Go.AX.Sa

namespace Go.AX.Sa
open Go.Proofs Go.RowKit
set_option maxRecDepth 100000
def blkOf (c : List Value) (e : TypeId) : Blk := if c = [] then .dead else .cells c e false
theorem zij : ∀ (l : List Blk) (i : Nat), (Bt.ofL l).get i = l[i]? := by
  intro l
  induction l with
  | nil => intro i; rfl
  | cons b l ih =>
    intro i
    simp only [Bt.ofL]
    cases i with
    | zero => exact (Bt.get_cons _ _).1
    | succ i => rw [(Bt.get_cons _ _).2 i, ih]; simp
def slotOf (v : Value) : Slot :=
  match v with
  | .slice (some a) _ cap => ⟨a.block, a.off, cap⟩
  | _ => ⟨0, 0, 0⟩
def absOf (B : Nat) (v : Value) : Option Addr × Nat :=
  match v with
  | .slice (some _) _ _ => (some ⟨B, 0, none⟩, anyCap)
  | _ => (none, 0)
def hB (Bs : List Blk) : Heap := { n := 7 + Bs.length, bs := .ofL (Bs.reverse ++ List.replicate 7 .dead) }
theorem hB_get {Bs : List Blk} {i : Nat} (h : i < Bs.length) : (hB Bs).get? (7 + i) = Bs[i]? := by
  unfold Heap.get? hB
  dsimp only
  rw [if_pos (by omega), zij, List.getElem?_append_left (by simp; omega), List.getElem?_reverse (by omega)]
  congr 1; omega
theorem hB_low {Bs : List Blk} {A : Nat} {b : Blk} (hA : A < 7) (h : (hB Bs).get? A = some b) : b = .dead := by
  unfold Heap.get? hB at h
  dsimp only at h
  rw [if_pos (by omega), zij, List.getElem?_append_right (by simp; omega), List.getElem?_replicate] at h
  split at h
  · cases h; rfl
  · cases h
def rhoB (S : List Slot) : Ren := fun A => if A < 7 then some ⟨A, 0, 0⟩ else S[A - 7]?
theorem zkb {S : List Slot} (i : Nat) : rhoB S (7 + i) = S[i]? := by unfold rhoB; rw [if_neg (by omega)]; congr 1; omega
theorem R_B {w : World} {S : List Slot} {Bs : List Blk} (hl : S.length = Bs.length) (hb : ∀ (i : Nat) (s : Slot) (b : Blk), S[i]? = some s → Bs[i]? = some b → BR Tryz.prog (rhoB S) w s b ∧ own b = false) :
    R Tryz.prog (fun g => g < w.heap.size) w (rhoB S) (hB Bs) w := by
  have key : ∀ A s b, rhoB S A = some s → (hB Bs).get? A = some b → BR Tryz.prog (rhoB S) w s b ∧ own b = false := by
    intro A s b e f
    by_cases hA : A < 7
    · rw [hB_low hA f]; exact ⟨.dead, rfl⟩
    · obtain ⟨i, rfl⟩ : ∃ i, A = 7 + i := ⟨A - 7, by omega⟩
      rw [zkb] at e
      have hi : i < Bs.length := by have := (List.getElem?_eq_some_iff.1 e).1; omega
      rw [hB_get hi] at f
      exact hb i s b e f
  exact {
    below := Kept.refl _ _
    size := fun g h => h
    dom := fun A s e => by
      show A < 7 + Bs.length
      unfold rhoB at e
      split at e
      · omega
      · have := (List.getElem?_eq_some_iff.1 e).1; omega
    glob := fun g h => ⟨⟨g, 0, 0⟩, by rw [gSize] at h; unfold rhoB; rw [if_pos h], rfl, rfl⟩
    blk := fun A s b e f => (key A s b e f).1
    mine := fun A s b e f ho => by rw [(key A s b e f).2] at ho; cases ho
    inj := fun A B s t b c ea eb fa fb ho hl hAB => by rw [(key A s b ea fa).2] at ho; cases ho }
theorem zkm (c : List Value) (e : TypeId) : own (blkOf c e) = false := by unfold blkOf; split <;> rfl
theorem zkM {w : World} (hg : GoodW w) : Safe GoodW (fun g => g < w.heap.size) w := by
  intro w' hk
  have keep : ∀ n g c, Tryz.prog.globalNamed n = some g → w.var? Tryz.prog n = some c → w'.var? Tryz.prog n = some c := by
    intro n g c hn hv
    obtain ⟨t, fr, hw⟩ := zcE hn hv
    have hlt : g < w.heap.size := (Array.getElem?_eq_some_iff.1 hw).1
    have := hk.block g hlt
    unfold World.var? at hv ⊢
    rw [hn] at hv ⊢
    simp only [Option.bind_some] at hv ⊢
    rw [this]; exact hv
  exact ⟨keep _ _ _ gForms hg.1, keep _ _ _ gPow hg.2⟩
theorem vr_slice {w : World} {v : Value} {n : Nat} {c : List Value} {ρ : Ren} {B : Nat} (hA : Arg w v n c) (hρ : ρ B = some (slotOf v)) : VR ρ (.slice (absOf B v).1 n (absOf B v).2) v := by
  rcases hA with ⟨rfl, _, rfl⟩ | ⟨b, o, cap, rfl, hle, _⟩
  · exact .nilSlice 0 0
  · exact .slice ⟨b, o, cap⟩ hρ rfl (by simp) (.inr (.inr ⟨Nat.le_refl _, by simp [absOf], hle⟩))
theorem zdP {w : World} {v : Value} {n : Nat} {c : List Value} {ρ : Ren} {B : Nat} (hA : ArgI w v n c) (hρ : ρ B = some (slotOf v)) : VR ρ (.slice (absOf B v).1 n (absOf B v).2) v := by
  rcases hA with hA | ⟨rfl, rfl, a, rfl⟩
  · exact vr_slice hA hρ
  · exact .slice0 rfl (.inl rfl) (.inl rfl)
theorem zhK (v : Value) (B : Nat) (a : Addr) (e : (absOf B v).1 = some a) : a.block = B := by
  unfold absOf at e
  split at e
  · cases e; rfl
  · cases e
theorem KO_noK : NoK KO := fun f a h hf => KO_no f a h hf
theorem KO_kn : Kn KO := fun h => KO_known h
structure It where
  v : Value
  n : Nat
  mc : List Value
  rc : List Value
  e : TypeId
def slots (its : List It) : List Slot := its.map fun i => slotOf i.v
def blks (its : List It) : List Blk := its.map fun i => blkOf i.rc i.e
structure ItOK (w : World) (ρ : Ren) (it : It) : Prop where
  arg : ArgI w it.v it.n it.mc
  len : it.rc.length = it.mc.length
  each : ∀ (j : Nat) (u' : Value), it.rc[j]? = some u' → ∃ u, it.mc[j]? = some u ∧ oneB u' = true ∧ VR ρ u' u
theorem it_br {w : World} {ρ : Ren} {it : It} (h : ItOK w ρ it) : BR Tryz.prog ρ w (slotOf it.v) (blkOf it.rc it.e) := by
  unfold blkOf
  split
  · exact .dead
  · rename_i hne
    obtain ⟨u0, hu0⟩ : ∃ u, it.rc[0]? = some u := by
      cases hr : it.rc with
      | nil => exact absurd hr hne
      | cons a l => exact ⟨a, rfl⟩
    obtain ⟨m0, hm0, _⟩ := h.each 0 u0 hu0
    rcases h.arg with (⟨_, q, _⟩ | ⟨b, o, cap, hv, _, hcell⟩) | ⟨_, q, _⟩
    · rw [q] at hm0; cases hm0
    · have h0 := hcell 0 m0 hm0
      obtain ⟨cur, t, fr, hw⟩ : ∃ cur t fr, w.heap[b]? = some (.cells cur t fr) := by
        unfold World.cell? at h0
        simp only at h0
        split at h0
        · rename_i cs t fr hw; exact ⟨cs, t, fr, hw⟩
        · cases h0
      rw [hv]
      refine .ro cur t fr hw fun i v hv' => ?_
      obtain ⟨u, hu, h1, h2⟩ := h.each i v hv'
      refine ⟨h1, u, ?_, h2⟩
      have h5 := hcell i u hu
      unfold World.cell? at h5
      simp only [hw] at h5
      exact h5
    · rw [q] at hm0; cases hm0
theorem zk6 {f : FuncId} {w : World} {args args' : Array Value} (hg : GoodW w) (its : List It) (hok : ∀ it ∈ its, ItOK w (rhoB (slots its)) it) (hx : XR (rhoB (slots its)) args args')
    (H : CallW Tryz.prog KO f args (hB (blks its)) fun v _ => v = .bool true) : Calls Tryz.prog f args' w fun e w' => e = .returned (.bool true) ∧ Below w.heap.size w w' := by
  obtain ⟨n, r, hh, hr, rfl⟩ := H
  refine zdX hmx known_ok rfl hr (R_B (by simp [slots, blks]) fun i z b e f => ?_) hx (zkM hg)
  unfold slots at e
  unfold blks at f
  rw [List.getElem?_map, Option.map_eq_some_iff] at e f
  obtain ⟨it, h1, rfl⟩ := e
  obtain ⟨it', h2, rfl⟩ := f
  rw [h1] at h2
  cases h2
  exact ⟨it_br (hok it (List.mem_of_getElem? h1)), zkm _ _⟩
theorem zka {its : List It} {i : Nat} {it : It} (h : its[i]? = some it) : rhoB (slots its) (7 + i) = some (slotOf it.v) := by
  rw [zkb]; simp [slots, h]
theorem get_it {its : List It} {i : Nat} {it : It} (h : its[i]? = some it) : (hB (blks its)).get? (7 + i) = some (blkOf it.rc it.e) := by
  have hi := (List.getElem?_eq_some_iff.1 h).1
  rw [hB_get (by simpa [blks] using hi)]
  simp [blks, h]
theorem zla {its : List It} {i : Nat} {v : Value} (h : i < its.length) : ∀ a, (absOf (7 + i) v).1 = some a → a.block < (hB (blks its)).n := by
  intro a e
  rw [zhK _ _ _ e]
  show 7 + i < 7 + (blks its).length
  simp [blks]; omega
theorem rd_it {w : World} {ρ : Ren} {its : List It} {i : Nat} {it : It} (h : its[i]? = some it) (ok : ItOK w ρ it) : Rd (hB (blks its)) (absOf (7 + i) it.v).1 it.rc := by
  by_cases hc : it.rc = []
  · exact .inl hc
  · have hg := get_it h
    unfold blkOf at hg
    rw [if_neg hc] at hg
    have hl := ok.len
    have hne : it.mc ≠ [] := fun q => hc (List.length_eq_zero_iff.1 (by rw [hl, q]; rfl))
    rcases ok.arg with (⟨_, q, _⟩ | ⟨b, o, cap, hv, _, _⟩) | ⟨_, q, _⟩
    · exact absurd q hne
    · exact .inr ⟨7 + i, it.e, false, by rw [hv]; rfl, hg⟩
    · exact absurd q hne
def listIt (v : Value) (l : List Int) : It := ⟨v, l.length, ints l, ints l, 3⟩
theorem zgi {w : World} {ρ : Ren} {v : Value} {l : List Int} (h : ArgI w v l.length (ints l)) : ItOK w ρ (listIt v l) :=
  ⟨h, rfl, fun j u' e => ⟨u', e, by obtain ⟨z, _, rfl⟩ := List.mem_map.1 (List.mem_of_getElem? e); exact ⟨rfl, .int _ _⟩⟩⟩
def copsOf (k : Nat) : List (Int × Value × List Int) → List Cop
  | [] => []
  | q :: l => ⟨q.1, (absOf k q.2.1).1, (absOf k q.2.1).2, q.2.2⟩ :: copsOf (k + 1) l
theorem zdg : ∀ (l : List (Int × Value × List Int)) (k : Nat), (copsOf k l).length = l.length := by
  intro l
  induction l with
  | nil => intro k; rfl
  | cons q l ih => intro k; simp only [copsOf, List.length_cons, ih]
theorem zji : ∀ (l : List (Int × Value × List Int)) (k j : Nat) (q : Int × Value × List Int), l[j]? = some q → (copsOf k l)[j]? = some ⟨q.1, (absOf (k + j) q.2.1).1, (absOf (k + j) q.2.1).2, q.2.2⟩ := by
  intro l
  induction l with
  | nil => intro k j q h; cases h
  | cons p l ih =>
    intro k j q h
    cases j with
    | zero => cases h; rfl
    | succ j =>
      have := ih (k + 1) j q (by simpa using h)
      rw [show k + 1 + j = k + (j + 1) from by omega] at this
      simpa [copsOf] using this
theorem zk0 {ρ : Ren} {w : World} : ∀ (l : List (Int × Value × List Int)) (k : Nat), (∀ q ∈ l, ArgI w q.2.1 q.2.2.length (ints q.2.2)) → (∀ (i : Nat) (q : Int × Value × List Int), l[i]? = some q → ρ (k + i) = some (slotOf q.2.1)) →
    ∀ (j : Nat) (u' : Value), (copCells (copsOf k l))[j]? = some u' → ∃ u, (mcop l)[j]? = some u ∧ oneB u' = true ∧ VR ρ u' u := by
  intro l
  induction l with
  | nil => intro k _ _ j u' e; simp [copsOf, copCells] at e
  | cons q l ih =>
    intro k hA hρ j u' e
    match j, e with
    | 0, e => cases e; exact ⟨_, rfl, rfl, .int _ _⟩
    | 1, e =>
      cases e
      exact ⟨_, rfl, rfl, zdP (hA q (List.mem_cons_self ..)) (by have := hρ 0 q rfl; simpa using this)⟩
    | j + 2, e =>
      exact ih (k + 1) (fun p hp => hA p (List.mem_cons_of_mem _ hp)) (fun i p hi => by
        have := hρ (i + 1) p (by simpa using hi)
        rw [show k + 1 + i = k + (i + 1) from by omega]; exact this) j u' e
theorem lr_ints {ρ : Ren} : ∀ l : List Int, LR ρ (ints l) (ints l) := by
  intro l
  induction l with
  | nil => exact LR.nil ρ
  | cons z l ih => exact LR.cons (.int _ _) ih
theorem abs_cap {w : World} {v : Value} {n B : Nat} {c : List Value} (h : ArgI w v n c) (hn : n ≤ 1000000) : n ≤ (absOf B v).2 := by
  rcases h with (⟨rfl, _, _⟩ | ⟨b, o, cap, rfl, _, _⟩) | ⟨rfl, _, _⟩
  · exact Nat.zero_le _
  · show n ≤ anyCap
    unfold anyCap; omega
  · exact Nat.zero_le _
def pgIts (k : Nat) (y : Value) (n : Nat) (z : List Int) (s : Value) (l : List (Int × Value × List Int)) : List It :=
  ⟨y, n, ints z, ints z, 92⟩ :: ⟨s, l.length, mcop l, copCells (copsOf (7 + k + 2) l), 37⟩ :: l.map fun q => listIt q.2.1 q.2.2
def pgOf (k : Nat) (m : Int) (y : Value) (n : Nat) (z : List Int) (s : Value) (l : List (Int × Value × List Int)) : Pg :=
  ⟨m, (absOf (7 + k) y).1, (absOf (7 + k) y).2, n, z, (absOf (7 + k + 1) s).1, (absOf (7 + k + 1) s).2, copsOf (7 + k + 2) l⟩
section
variable {w : World} {its : List It} {k n : Nat} {m : Int} {y s : Value} {z : List Int} {l : List (Int × Value × List Int)}
theorem pg_pos (hp : ∀ i it, (pgIts k y n z s l)[i]? = some it → its[k + i]? = some it) {i : Nat} {q : Int × Value × List Int} (h : l[i]? = some q) : its[k + (i + 2)]? = some (listIt q.2.1 q.2.2) :=
  hp (i + 2) _ (by simp [pgIts, h])
theorem pg_ok (hp : ∀ i it, (pgIts k y n z s l)[i]? = some it → its[k + i]? = some it) (hy : Arg w y n (ints z)) (hA : Arg w s l.length (mcop l)) (hI : ∀ q ∈ l, ArgI w q.2.1 q.2.2.length (ints q.2.2)) : ∀ it ∈ pgIts k y n z s l, ItOK w (rhoB (slots its)) it := by
  intro it hit
  rcases List.mem_cons.1 hit with rfl | hit
  · exact ⟨.inl hy, rfl, fun j u' e => ⟨u', e, by obtain ⟨x, _, rfl⟩ := List.mem_map.1 (List.mem_of_getElem? e); exact ⟨rfl, .int _ _⟩⟩⟩
  rcases List.mem_cons.1 hit with rfl | hit
  · refine ⟨.inl hA, ?_, zk0 l (7 + k + 2) hI fun i q h => ?_⟩
    · dsimp only; rw [zat, zdg, zh7]
    · have := zka (pg_pos hp h)
      rw [show 7 + (k + (i + 2)) = 7 + k + 2 + i from by omega] at this
      exact this
  · obtain ⟨q, hq, rfl⟩ := List.mem_map.1 hit
    exact zgi (hI q hq)
theorem pg_at (hp : ∀ i it, (pgIts k y n z s l)[i]? = some it → its[k + i]? = some it) (hz : z.length = n * 3) (hy : Arg w y n (ints z)) (hA : Arg w s l.length (mcop l)) (hI : ∀ q ∈ l, ArgI w q.2.1 q.2.2.length (ints q.2.2)) : PgAt (pgOf k m y n z s l) (hB (blks its)) := by
  have h0 := hp 0 _ rfl
  have h1 := hp 1 _ rfl
  have hlt : k < its.length := (List.getElem?_eq_some_iff.1 h0).1
  have hlt1 : k + 1 < its.length := (List.getElem?_eq_some_iff.1 h1).1
  have hall := pg_ok hp hy hA hI
  refine ⟨hz, rd_it h0 (hall _ (List.mem_cons_self ..)), rd_it h1 (hall _ (List.mem_cons_of_mem _ (List.mem_cons_self ..))), fun j hj => ?_, zla hlt, zla hlt1⟩
  have hj' : j < l.length := by rw [← zdg l (7 + k + 2)]; exact hj
  have hq : l[j]? = some l[j] := List.getElem?_eq_getElem hj'
  have hg := zji l (7 + k + 2) j _ hq
  have hit := pg_pos hp hq
  have hr := rd_it hit (zgi (ρ := rhoB (slots its)) (hI _ (List.getElem_mem hj')))
  have hb := zla (v := (l[j]).2.1) (List.getElem?_eq_some_iff.1 hit).1
  rw [show 7 + (k + (j + 2)) = 7 + k + 2 + j from by omega] at hr hb
  have e : (pgOf k m y n z s l).c.getD j cop0 = ⟨(l[j]).1, (absOf (7 + k + 2 + j) (l[j]).2.1).1, (absOf (7 + k + 2 + j) (l[j]).2.1).2, (l[j]).2.2⟩ := by
    simp [pgOf, List.getD_eq_getElem?_getD, hg]
  rw [e]
  exact ⟨hr, hb, fun w => abs_cap (hI _ (List.getElem_mem hj')) w⟩
theorem pg_vr (hp : ∀ i it, (pgIts k y n z s l)[i]? = some it → its[k + i]? = some it) (hy : Arg w y n (ints z)) (hA : Arg w s l.length (mcop l)) : VR (rhoB (slots its)) (pgV (pgOf k m y n z s l)) (.agg #[.int .i64 m, y, s]) := by
  have h0 := hp 0 _ rfl
  have h1 := hp 1 _ rfl
  have q0 : VR (rhoB (slots its)) (.slice (absOf (7 + k) y).1 n (absOf (7 + k) y).2) y := zdP (.inl hy) (zka h0)
  have q1 : VR (rhoB (slots its)) (.slice (absOf (7 + k + 1) s).1 l.length (absOf (7 + k + 1) s).2) s := zdP (.inl hA) (zka h1)
  have : pgV (pgOf k m y n z s l) = .agg #[.int .i64 m, .slice (absOf (7 + k) y).1 n (absOf (7 + k) y).2, .slice (absOf (7 + k + 1) s).1 l.length (absOf (7 + k + 1) s).2] := by
    simp only [pgV, pgOf, zdg]
  rw [this]
  exact VR.agg' (LR.cons (.int _ _) (LR.cons q0 (LR.cons q1 (LR.nil _))))
end
abbrev Tru (f : FuncId) (args : Array Value) (h : Heap) : Prop := CallW Tryz.prog KO f args h fun v _ => v = .bool true
abbrev Done (f : FuncId) (args : Array Value) (w : World) : Prop := Calls Tryz.prog f args w fun e w' => e = .returned (.bool true) ∧ Below w.heap.size w w'
section
variable {f : FuncId} {w : World} {m : Int} {y s : Value} {n : Nat} {z : List Int} {l : List (Int × Value × List Int)}
theorem zkl (zs : List Int) (hg : GoodW w) (hz : z.length = n * 3) (hy : Arg w y n (ints z)) (hA : Arg w s l.length (mcop l)) (hI : ∀ q ∈ l, ArgI w q.2.1 q.2.2.length (ints q.2.2))
    (H : ∀ G h, PgAt G h → Tru f (pgV G :: ints zs).toArray h) : Done f (.agg #[.int .i64 m, y, s] :: ints zs).toArray w := by
  have hp : ∀ i it, (pgIts 0 y n z s l)[i]? = some it → (pgIts 0 y n z s l)[0 + i]? = some it := fun i it h => by rw [Nat.zero_add]; exact h
  exact zk6 hg (pgIts 0 y n z s l) (pg_ok hp hy hA hI) (LR.cons (pg_vr (m := m) hp hy hA) (lr_ints zs)) (H _ _ (pg_at hp hz hy hA hI))
end
end Go.AX.Sa
