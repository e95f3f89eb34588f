/- The examples answer true; from what the reading says to what the machine does. -/
import Derived.Test.YtaacmckmkcfcgaaGreatDoorAxA
import Derived.Test.YtaacmckmkcfcgaaGreatDoorProg
import Derived.KernelRfl
import Derived.Test.YtaacmckmkcfcgaaGreatDoorKnA
import Derived.Test.YtaacmckmkcfcgaaGreatDoorKnB
import Derived.Test.YtaacmckmkcfcgaaGreatDoorKnC
import Derived.Test.YtaacmckmkcfcgaaGreatDoorKnD
import Derived.Lib.LaidU8
import Derived.Lib.LaidTab
import Derived.Test.YtaacmckmkcfcgaaGreatDoorSwA
import Derived.ChangeArms
import Derived.ChangeSlices
import Derived.ChangeSame
import Derived.OpenShut
import Derived.Test.YtaacmckmkcfcgaaGreatDoorSwD
namespace Go.AX.Sa
open Go.Proofs
def KO : Known := fun f args _ => bif Nat.beq f 10 && Nat.beq args.size 0 then some (.bool true, []) else none
theorem KO_no (f : FuncId) (a : Array Value) (h : Heap) (hf : Nat.beq f 10 = false) : KO f a h = none := by unfold KO; rw [hf]; rfl
theorem KO_known (h : Heap) : KO 10 #[] h = some (.bool true, []) := rfl
end Go.AX.Sa

namespace Go.AX.Sa
open Go.Proofs Go.RowKit

theorem hmx : Tryz.prog.follows .mixedOrders = true := by kernel_rfl

set_option maxRecDepth 100000 in
theorem known_piece (N : Nat → Prop) (w0 : World) : Piece Tryz.prog N w0 ⟨10, none, false⟩ [.code kSc0] kS0 .ret kS5 := by
  have hK := no_known Tryz.prog (fun _ => True)
  have hG : Safe (fun _ => True) N w0 := fun _ _ => trivial
  have hl : Piece Tryz.prog N w0 ⟨10, none, false⟩ [.code kSc4] kS4 .ret kS5 := by
    obtain ⟨m, s', h1, h2⟩ := lastW_run kSlast
    rw [h2]
    exact (code_piece hmx hK hG h1).keep []
  exact groupW_piece hmx hK hG kSg0 (groupW_piece hmx hK hG kSg1 (groupW_piece hmx hK hG kSg2 (groupW_piece hmx hK hG kSg3 hl)))

theorem known_start : ({ tm := #[] ++ Array.replicate (Tryz.f10.ntmps - (#[] : Array Value).size) undef, df := [], up := .run, h := kS0.h } : St) = kS0 := by kernel_rfl
theorem known_body : Tryz.f10.body = some kSc0 := by kernel_rfl
theorem known_noloop : ∀ b, kSc0 ≠ .loop b := by
  intro b h
  have : (match kSc0 with | .loop _ => true | _ => false) = true := by rw [h]
  have h2 : (match kSc0 with | .loop _ => true | _ => false) = false := by kernel_rfl
  rw [h2] at this; cases this

theorem known_call {N : Nat → Prop} {w0 : World} : SimCall Tryz.prog N w0 10 #[] false .run kS0.h (.ret (.bool true)) kS5.up kS5.h :=
  body_call (Good := fun _ => True) Tryz.func10 known_body known_noloop (fun N w0 _ => by rw [known_start]; exact known_piece N w0)
    ((known_piece N w0).2)
    (by show Option.map _ (resultsB Tryz.prog Tryz.f10 kS5.tm kS5.h) = _; kernel_rfl) (fun _ _ => trivial)

/-- What the variables hold that known reads. -/
def GoodW (w : World) : Prop :=
  w.var? Tryz.prog "ephemerist/give.words" = some #[strB [103, 105, 118, 101], strB [99, 111, 109, 112, 117, 116, 101, 114], strB [116, 97, 98, 108, 101], strB [115, 104, 101, 101, 116]] ∧
  w.var? Tryz.prog "internal/strconv.uint64pow10" = some (((List.range 20).map fun i => (10 ^ i : Int)).map fun z => Value.int .u64 z).toArray

theorem gWords : Tryz.prog.globalNamed "ephemerist/give.words" = some 0 := by kernel_rfl
theorem gPow : Tryz.prog.globalNamed "internal/strconv.uint64pow10" = some 4 := by kernel_rfl
theorem gSize : Tryz.prog.globals.size = 7 := by kernel_rfl

theorem heap_of_var {w : World} {n : String} {g : Nat} {c : Array Value} (hg : Tryz.prog.globalNamed n = some g) (h : w.var? Tryz.prog n = some c) : ∃ t fr, w.heap[g]? = some (.cells c t fr) := by
  unfold World.var? at h
  rw [hg] at h
  simp only [Option.bind_some] at h
  split at h
  · rename_i cs t fr hw; cases h; exact ⟨t, fr, hw⟩
  · cases h

def rho0 : Ren := fun A => if A < 7 then some ⟨A, 0, 0⟩ else none

theorem kS0_n : kS0.h.n = 7 := rfl
theorem kS0_get0 : kS0.h.get? 0 = some (.cells [strB [103, 105, 118, 101], strB [99, 111, 109, 112, 117, 116, 101, 114], strB [116, 97, 98, 108, 101], strB [115, 104, 101, 101, 116]] 150 false) := by kernel_rfl
theorem kS0_get4 : kS0.h.get? 4 = some (.cells (((List.range 20).map fun i => (10 ^ i : Int)).map fun z => Value.int .u64 z) 234 false) := by kernel_rfl
theorem kS0_dead : kS0.h.get? 1 = some .dead ∧ kS0.h.get? 2 = some .dead ∧ kS0.h.get? 3 = some .dead ∧ kS0.h.get? 5 = some .dead ∧ kS0.h.get? 6 = some .dead := ⟨by kernel_rfl, by kernel_rfl, by kernel_rfl, by kernel_rfl, by kernel_rfl⟩

theorem kS0_cases {A : Nat} {b : Blk} (h : kS0.h.get? A = some b) : b = .dead ∨ (A = 0 ∧ b = .cells [strB [103, 105, 118, 101], strB [99, 111, 109, 112, 117, 116, 101, 114], strB [116, 97, 98, 108, 101], strB [115, 104, 101, 101, 116]] 150 false) ∨ (A = 4 ∧ b = .cells (((List.range 20).map fun i => (10 ^ i : Int)).map fun z => Value.int .u64 z) 234 false) := by
  have hA : A < 7 := Heap.get_lt h
  obtain ⟨d1, d2, d3, d5, d6⟩ := kS0_dead
  match A, hA, h with
  | 0, _, h => rw [kS0_get0] at h; cases h; exact .inr (.inl ⟨rfl, rfl⟩)
  | 1, _, h => rw [d1] at h; cases h; exact .inl rfl
  | 2, _, h => rw [d2] at h; cases h; exact .inl rfl
  | 3, _, h => rw [d3] at h; cases h; exact .inl rfl
  | 4, _, h => rw [kS0_get4] at h; cases h; exact .inr (.inr ⟨rfl, rfl⟩)
  | 5, _, h => rw [d5] at h; cases h; exact .inl rfl
  | 6, _, h => rw [d6] at h; cases h; exact .inl rfl

theorem ro_block {ρ : Ren} {w : World} {g : Nat} {e t : TypeId} {fr : Nat × Nat} {l : List Value} (hl : ∀ v ∈ l, oneB v = true ∧ VR ρ v v) (hw : w.heap[g]? = some (.cells l.toArray t fr)) : BR Tryz.prog ρ w ⟨g, 0, 0⟩ (.cells l e false) := by
  refine .ro l.toArray t fr hw fun i v hv => ?_
  obtain ⟨h1, h2⟩ := hl v (List.mem_of_getElem? hv)
  exact ⟨h1, v, by simpa using hv, h2⟩

theorem known_R {w : World} (hg : GoodW w) : R Tryz.prog (fun g => g < w.heap.size) w rho0 kS0.h w where
  below := Kept.refl _ _
  size := fun g h => h
  dom := fun A s e => by
    unfold rho0 at e
    split at e
    · rw [kS0_n]; assumption
    · cases e
  glob := fun g h => ⟨⟨g, 0, 0⟩, by rw [gSize] at h; unfold rho0; rw [if_pos h], rfl, rfl⟩
  blk := fun A s b e f => by
    unfold rho0 at e
    split at e
    · cases e
      rcases kS0_cases f with rfl | ⟨rfl, rfl⟩ | ⟨rfl, rfl⟩
      · exact .dead
      · obtain ⟨t, fr, hw⟩ := heap_of_var gWords hg.1
        exact ro_block (fun v hv => by
          simp only [List.mem_cons, List.mem_nil_iff, or_false] at hv
          rcases hv with rfl | rfl | rfl | rfl <;> exact ⟨rfl, .string _⟩) hw
      · obtain ⟨t, fr, hw⟩ := heap_of_var gPow hg.2
        exact ro_block (fun v hv => by
          obtain ⟨z, _, rfl⟩ := List.mem_map.1 hv
          exact ⟨rfl, .int _ _⟩) hw
    · cases e
  mine := fun A s b e f ho => by
    rcases kS0_cases f with rfl | ⟨_, rfl⟩ | ⟨_, rfl⟩ <;> cases ho
  inj := fun A B s t b c ea eb fa fb ho hl hAB => by
    rcases kS0_cases fa with rfl | ⟨_, rfl⟩ | ⟨_, rfl⟩ <;> cases ho

theorem known_calls {w : World} (hg : GoodW w) : Calls Tryz.prog 10 #[] w fun e w' => e = .returned (.bool true) ∧ Below w.heap.size w w' :=
  known_call.calls (known_R hg) ⟨rfl, by simp⟩ rfl

theorem known_ok : KOK Tryz.prog KO GoodW := by
  intro f args h v l he N w0 hG up
  unfold KO at he
  cases hf : Nat.beq f 10 with
  | false => rw [hf] at he; cases he
  | true =>
    cases ha : Nat.beq args.size 0 with
    | false => rw [hf, ha] at he; cases he
    | true =>
      rw [hf, ha] at he
      have hf' : f = 10 := Nat.eq_of_beq_eq_true hf
      have ha' : args.size = 0 := Nat.eq_of_beq_eq_true ha
      subst hf'
      have : args = #[] := by apply Array.ext'; simpa using ha'
      subst this
      cases he
      exact plain_sim (by simp) rfl (fun w hg => known_calls hg) hG

end Go.AX.Sa

namespace Go.AX.Sa
open Go.Proofs Go.RowKit Go.ChangeShapes Go.WideShapes
set_option maxRecDepth 100000

/-- A slice of the machine that reads as these cells, and is so long. -/
def Arg (w : World) (v : Value) (len : Nat) (c : List Value) : Prop :=
  (len = 0 ∧ c = [] ∧ v = .slice none 0 0) ∨
  ∃ b o cap, v = .slice (some ⟨b, o, none⟩) len cap ∧ len ≤ cap ∧ (∀ i u, c[i]? = some u → w.cell? ⟨b, o + i, none⟩ = some u)

theorem add_none {b o i : Nat} : (⟨b, o, none⟩ : Addr).add i = ⟨b, o + i, none⟩ := by unfold Addr.add; split <;> simp_all
theorem ints_app (l m : List Int) : ints (l ++ m) = ints l ++ ints m := by simp [ints]
theorem ints_lenA (l : List Int) : (ints l).length = l.length := by simp [ints]

section
variable {H : Type} {enc : TypeId × Value → H} {w : World} {base : Nat} {spare : Nat → Bool} {held : Bool}

theorem cellsOf3 : Tryz.prog.cellsOf 3 = 1 := by kernel_rfl
theorem cellsOf22 : Tryz.prog.cellsOf 22 = 1 := by kernel_rfl
theorem cellsOf23 : Tryz.prog.cellsOf 23 = 1 := by kernel_rfl
theorem cellsOf25 : Tryz.prog.cellsOf 25 = 3 := by kernel_rfl
theorem cellsOf39 : Tryz.prog.cellsOf 39 = 3 := by kernel_rfl
theorem cellsOf41 : Tryz.prog.cellsOf 41 = 2 := by kernel_rfl
theorem cellsOf43 : Tryz.prog.cellsOf 43 = 7 := by kernel_rfl

theorem int_rec {fuel : Nat} {c : List Value} {x : DataW H × List MemPlace} (_hc : c.length = 1) (h : DataW.trod enc Tryz.prog w base spare held fuel 3 c = some x) : ∃ z : Int, c = [.int .i64 z] := by
  obtain ⟨n, e, _, _⟩ := DataW.trod_int Tryz.underlying3 h
  exact ⟨n, e⟩
theorem span_rec {fuel : Nat} {c : List Value} {x : DataW H × List MemPlace} (hc : c.length = 2) (h : DataW.trod enc Tryz.prog w base spare held fuel 41 c = some x) : ∃ a b : Int, c = [.int .i64 a, .int .i64 b] := by
  match c, hc with
  | [u0, u1], _ =>
    obtain ⟨y0, y1, m, _, _, h0, h1⟩ := trod_struct2 Tryz.underlying41 h
    simp only [cellsOf3, List.drop_zero, List.take_succ_cons, List.take_zero, List.drop_succ_cons] at h0 h1
    obtain ⟨a, ea⟩ := int_rec rfl h0
    obtain ⟨b, eb⟩ := int_rec rfl h1
    cases ea; cases eb
    exact ⟨a, b, rfl⟩
theorem task_rec {fuel : Nat} {c : List Value} {x : DataW H × List MemPlace} (hc : c.length = 3) (h : DataW.trod enc Tryz.prog w base spare held fuel 39 c = some x) : ∃ zs : List Int, c = ints zs := by
  match c, hc with
  | [u0, u1, u2], _ =>
    obtain ⟨xs, n, _, _, _, hlen, hfs⟩ := DataW.trod_struct Tryz.underlying39 h
    have hlen3 : xs.length = 3 := hlen
    have e0 : DataW.trod enc Tryz.prog w base spare held n 3 (List.take (Tryz.prog.cellsOf 3) (List.drop 0 [u0, u1, u2])) = xs[0]? := hfs 0 _ rfl
    have e1 : DataW.trod enc Tryz.prog w base spare held n 3 (List.take (Tryz.prog.cellsOf 3) (List.drop 1 [u0, u1, u2])) = xs[1]? := hfs 1 _ rfl
    have e2 : DataW.trod enc Tryz.prog w base spare held n 3 (List.take (Tryz.prog.cellsOf 3) (List.drop 2 [u0, u1, u2])) = xs[2]? := hfs 2 _ rfl
    rw [List.getElem?_eq_getElem (by omega)] at e0
    rw [List.getElem?_eq_getElem (by omega)] at e1
    rw [List.getElem?_eq_getElem (by omega)] at e2
    simp only [cellsOf3, List.drop_zero, List.take_succ_cons, List.take_zero, List.drop_succ_cons] at e0 e1 e2
    obtain ⟨a, ea⟩ := int_rec rfl e0
    obtain ⟨b, eb⟩ := int_rec rfl e1
    obtain ⟨c, ec⟩ := int_rec rfl e2
    cases ea; cases eb; cases ec
    exact ⟨[a, b, c], rfl⟩
theorem comp_rec {fuel : Nat} {c : List Value} {x : DataW H × List MemPlace} (hc : c.length = 7) (h : DataW.trod enc Tryz.prog w base spare held fuel 43 c = some x) : ∃ zs : List Int, c = ints zs := by
  match c, hc with
  | [u0, u1, u2, u3, u4, u5, u6], _ =>
    obtain ⟨xs, n, _, _, _, hlen, hfs⟩ := DataW.trod_struct Tryz.underlying43 h
    have hlen3 : xs.length = 4 := hlen
    have e0 : DataW.trod enc Tryz.prog w base spare held n 3 (List.take (Tryz.prog.cellsOf 3) (List.drop 0 [u0, u1, u2, u3, u4, u5, u6])) = xs[0]? := hfs 0 _ rfl
    have e1 : DataW.trod enc Tryz.prog w base spare held n 41 (List.take (Tryz.prog.cellsOf 41) (List.drop 1 [u0, u1, u2, u3, u4, u5, u6])) = xs[1]? := hfs 1 _ rfl
    have e2 : DataW.trod enc Tryz.prog w base spare held n 41 (List.take (Tryz.prog.cellsOf 41) (List.drop 3 [u0, u1, u2, u3, u4, u5, u6])) = xs[2]? := hfs 2 _ rfl
    have e3 : DataW.trod enc Tryz.prog w base spare held n 41 (List.take (Tryz.prog.cellsOf 41) (List.drop 5 [u0, u1, u2, u3, u4, u5, u6])) = xs[3]? := hfs 3 _ rfl
    rw [List.getElem?_eq_getElem (by omega)] at e0
    rw [List.getElem?_eq_getElem (by omega)] at e1
    rw [List.getElem?_eq_getElem (by omega)] at e2
    rw [List.getElem?_eq_getElem (by omega)] at e3
    simp only [cellsOf3, cellsOf41, List.drop_zero, List.take_succ_cons, List.take_zero, List.drop_succ_cons] at e0 e1 e2 e3
    obtain ⟨a, ea⟩ := int_rec rfl e0
    obtain ⟨b1, b2, eb⟩ := span_rec rfl e1
    obtain ⟨c1, c2, ec⟩ := span_rec rfl e2
    obtain ⟨d1, d2, ed⟩ := span_rec rfl e3
    cases ea; cases eb; cases ec; cases ed
    exact ⟨[a, b1, b2, c1, c2, d1, d2], rfl⟩
/-- A list of records of numbers. -/
theorem open_recs {T E k : Nat} (hT : Tryz.prog.underlying T = some (.slice E)) (hE : Tryz.prog.cellsOf E = k) (_hk : 0 < k)
    (hrec : ∀ fuel c x, c.length = k → DataW.trod enc Tryz.prog w base spare held fuel E c = some x → ∃ zs : List Int, c = ints zs)
    {fuel : Nat} {cs : List Value} {x : DataW H × List MemPlace} (h : DataW.trod enc Tryz.prog w base spare held fuel T cs = some x)
    (hsp : ∀ a n m, cs = [.slice (some a) n m] → a.spot = none) : ∃ (s : Value) (n : Nat) (l : List Int), cs = [s] ∧ l.length = n * k ∧ Arg w s n (ints l) := by
  rcases DataW.trod_slice hT h with ⟨h0, _⟩ | ⟨a, len, cap, elems, rest, n, _, rfl, _, hb, hl, hm, hlen, hel, _, _⟩
  · exact ⟨_, 0, [], h0, by simp, .inl ⟨rfl, rfl, rfl⟩⟩
  · obtain ⟨b, o, sp⟩ := a
    have hsp' := hsp _ _ _ rfl
    simp only at hsp'
    subst hsp'
    have each : ∀ i, i < len → ∃ zs : List Int, zs.length = k ∧ ∀ j u, (ints zs)[j]? = some u → w.cell? ⟨b, o + i * k + j, none⟩ = some u := by
      intro i hi
      have hi' : i < elems.length := by omega
      have e := hel i hi
      rw [List.getElem?_eq_getElem hi', Option.bind_eq_some_iff] at e
      obtain ⟨c2, hc2, ht⟩ := e
      rw [hE, add_none] at hc2
      obtain ⟨_, hlen2, hcell⟩ := World.cells?_some hc2
      obtain ⟨zs, rfl⟩ := hrec _ _ _ hlen2 ht
      rw [ints_lenA] at hlen2
      refine ⟨zs, hlen2, fun j u q => ?_⟩
      have hj : j < zs.length := by have := (List.getElem?_eq_some_iff.1 q).1; simpa [ints] using this
      have := hcell j (by omega)
      rw [add_none] at this
      rw [this]; exact q
    have mk : ∀ m, m ≤ len → ∃ l : List Int, l.length = m * k ∧ ∀ i u, (ints l)[i]? = some u → w.cell? ⟨b, o + i, none⟩ = some u := by
      intro m
      induction m with
      | zero => intro _; exact ⟨[], by simp, fun i u q => by simp [ints] at q⟩
      | succ m ih =>
        intro hk
        obtain ⟨l, hl1, hl2⟩ := ih (by omega)
        obtain ⟨zs, hz, hq⟩ := each m (by omega)
        refine ⟨l ++ zs, by rw [List.length_append, hl1, hz, Nat.succ_mul], fun i u q => ?_⟩
        rw [ints_app] at q
        by_cases hi1 : i < (ints l).length
        · rw [List.getElem?_append_left hi1] at q; exact hl2 i u q
        · rw [List.getElem?_append_right (by omega)] at q
          have e := hq _ _ q
          rw [ints_lenA, hl1] at e hi1
          rw [show o + m * k + (i - m * k) = o + i from by omega] at e
          exact e
    obtain ⟨l, hl1, hl2⟩ := mk len (Nat.le_refl _)
    exact ⟨_, len, l, rfl, hl1, .inr ⟨b, o, cap, rfl, by omega, hl2⟩⟩

theorem no_spot {r : Reach} {b0 T E : Nat} (hT : Tryz.prog.underlying T = some (.slice E)) {c0 : Value} (hc : Cell.okWide Tryz.prog w r b0 T c0) : ∀ a n m, [c0] = [Value.slice (some a) n m] → a.spot = none := by
  intro a n m e
  simp only [List.cons.injEq, and_true] at e
  subst e
  simp only [Cell.okWide, hT, Cell.ok] at hc
  exact hc.2.2.2.1
/-- A book. -/
theorem open_book {r : Reach} {b0 : Nat} {v : Value} {d : DataW H} {ps : List MemPlace} (hval : Value.okWide Tryz.prog w r b0 25 v) (hd : DataW.Trod enc Tryz.prog w base spare held 25 v d ps) :
    ∃ (s1 s2 s3 : Value) (n : Nat) (c l s : List Int), v = .agg #[s1, s2, s3] ∧ c.length = n * 7 ∧ Arg w s1 n (ints c) ∧ Arg w s2 l.length (ints l) ∧ Arg w s3 s.length (ints s) := by
  simp only [Value.okWide, Tryz.underlying25] at hval
  obtain ⟨cs, rfl, hsz, ts, hts, _, hcell⟩ := hval
  rw [cellsOf25] at hsz
  obtain ⟨c0, c1, c2, rfl⟩ : ∃ c0 c1 c2, cs = #[c0, c1, c2] := by
    obtain ⟨l⟩ := cs
    match l, hsz with
    | [a, b, c], _ => exact ⟨a, b, c, rfl⟩
  obtain ⟨fuel, hf⟩ := hd
  obtain ⟨xs, n, _, _, _, hlen, hfs⟩ := DataW.trod_struct Tryz.underlying25 hf
  have e0 : DataW.trod enc Tryz.prog w base spare held n 22 (List.take (Tryz.prog.cellsOf 22) (List.drop 0 (Value.agg #[c0, c1, c2]).cells.toList)) = xs[0]? := hfs 0 _ rfl
  have e1 : DataW.trod enc Tryz.prog w base spare held n 23 (List.take (Tryz.prog.cellsOf 23) (List.drop 1 (Value.agg #[c0, c1, c2]).cells.toList)) = xs[1]? := hfs 1 _ rfl
  have e2 : DataW.trod enc Tryz.prog w base spare held n 23 (List.take (Tryz.prog.cellsOf 23) (List.drop 2 (Value.agg #[c0, c1, c2]).cells.toList)) = xs[2]? := hfs 2 _ rfl
  have hlen3 : xs.length = 3 := hlen
  rw [List.getElem?_eq_getElem (by omega)] at e0
  rw [List.getElem?_eq_getElem (by omega)] at e1
  rw [List.getElem?_eq_getElem (by omega)] at e2
  simp only [cellsOf22, cellsOf23, Value.cells, List.drop_zero, List.take_succ_cons, List.take_zero, List.drop_succ_cons] at e0 e1 e2
  have hct : Tryz.prog.cellTypes Tryz.prog.depth 25 = some [22, 23, 23] := by kernel_rfl
  rw [hct] at hts
  cases hts
  have k0 : Cell.okWide Tryz.prog w r b0 22 c0 := by
    obtain ⟨u, hu, hc⟩ := hcell 0 _ rfl
    simp at hu; subst hu; exact hc
  have k1 : Cell.okWide Tryz.prog w r b0 23 c1 := by
    obtain ⟨u, hu, hc⟩ := hcell 1 _ rfl
    simp at hu; subst hu; exact hc
  have k2 : Cell.okWide Tryz.prog w r b0 23 c2 := by
    obtain ⟨u, hu, hc⟩ := hcell 2 _ rfl
    simp at hu; subst hu; exact hc
  obtain ⟨s1, m1, l1, q1, n1, A1⟩ := open_recs Tryz.underlying22 cellsOf43 (by decide) (fun _ _ _ hc ht => comp_rec hc ht) e0 (no_spot Tryz.underlying22 k0)
  obtain ⟨s2, m2, l2, q2, n2, A2⟩ := open_recs Tryz.underlying23 cellsOf3 (by decide) (fun _ _ _ hc ht => by obtain ⟨z, rfl⟩ := int_rec hc ht; exact ⟨[z], rfl⟩) e1 (no_spot Tryz.underlying23 k1)
  obtain ⟨s3, m3, l3, q3, n3, A3⟩ := open_recs Tryz.underlying23 cellsOf3 (by decide) (fun _ _ _ hc ht => by obtain ⟨z, rfl⟩ := int_rec hc ht; exact ⟨[z], rfl⟩) e2 (no_spot Tryz.underlying23 k2)
  rw [Nat.mul_one] at n2 n3
  subst n2 n3
  cases q1; cases q2; cases q3
  exact ⟨_, _, _, m1, l1, l2, l3, rfl, n1, A1, A2, A3⟩
/-- A plan. -/
theorem open_tasks {r : Reach} {b0 : Nat} {v : Value} {d : DataW H} {ps : List MemPlace} (hval : Value.okWide Tryz.prog w r b0 26 v) (hd : DataW.Trod enc Tryz.prog w base spare held 26 v d ps) :
    ∃ (m : Nat) (t : List Int), t.length = m * 3 ∧ Arg w v m (ints t) := by
  have hval' := hval
  obtain ⟨a0, len, cap, rfl⟩ := okWide_slice Tryz.underlying26 hval
  obtain ⟨fuel, hf⟩ := hd
  have hsp : ∀ a n m, [Value.slice a0 len cap] = [Value.slice (some a) n m] → a.spot = none := by
    intro a n m e
    simp only [List.cons.injEq, Value.slice.injEq, and_true] at e
    obtain ⟨rfl, rfl, rfl⟩ := e
    simp only [Value.okWide, Tryz.underlying26, Cell.okWide, Cell.ok] at hval'
    exact hval'.2.2.2.1
  obtain ⟨s, m, l, hs, hl, hA⟩ := open_recs (cs := [Value.slice a0 len cap]) Tryz.underlying26 cellsOf39 (by decide) (fun _ _ _ hc ht => task_rec hc ht) hf hsp
  simp only [List.cons.injEq, and_true] at hs
  subst hs
  exact ⟨m, l, hl, hA⟩
end
end Go.AX.Sa

namespace Go.AX.Sa
open Go.Proofs Go.RowKit
set_option maxRecDepth 100000

/-! A law over a plan, a list and a number, in the machine. -/
def blkOf (c : List Value) (e : TypeId) : Blk := if c = [] then .dead else .cells c e false
def hA (B7 B8 B9 Ba : Blk) : Heap := { n := 11, bs := .ofL (Ba :: B9 :: B8 :: B7 :: List.replicate 7 .dead) }
theorem get_ofL' : ∀ (l : List Blk) (i : Nat), (Bt.ofL l).get i = l[i]? := by
  intro l
  induction l with
  | nil => intro i; rfl
  | cons b l ih =>
    intro i
    simp only [Bt.ofL]
    cases i with
    | zero => exact (Bt.get_cons _ _).1
    | succ i => rw [(Bt.get_cons _ _).2 i, ih]; simp
theorem hA_get {B7 B8 B9 Ba : Blk} {A : Nat} {b : Blk} (h : (hA B7 B8 B9 Ba).get? A = some b) : (A = 7 ∧ b = B7) ∨ (A = 8 ∧ b = B8) ∨ (A = 9 ∧ b = B9) ∨ (A = 10 ∧ b = Ba) ∨ b = .dead := by
  unfold Heap.get? hA at h
  dsimp only at h
  split at h
  · rename_i hA
    rw [get_ofL'] at h
    match A, hA, h with
    | 0, _, h | 1, _, h | 2, _, h | 3, _, h | 4, _, h | 5, _, h | 6, _, h => simp at h; exact .inr (.inr (.inr (.inr h.symm)))
    | 7, _, h => simp at h; exact .inl ⟨rfl, h.symm⟩
    | 8, _, h => simp at h; exact .inr (.inl ⟨rfl, h.symm⟩)
    | 9, _, h => simp at h; exact .inr (.inr (.inl ⟨rfl, h.symm⟩))
    | 10, _, h => simp at h; exact .inr (.inr (.inr (.inl ⟨rfl, h.symm⟩)))
  · cases h
theorem hA_7 (B7 B8 B9 Ba : Blk) : (hA B7 B8 B9 Ba).get? 7 = some B7 := by unfold Heap.get? hA; dsimp only; rw [if_pos (by omega), get_ofL']; rfl
theorem hA_8 (B7 B8 B9 Ba : Blk) : (hA B7 B8 B9 Ba).get? 8 = some B8 := by unfold Heap.get? hA; dsimp only; rw [if_pos (by omega), get_ofL']; rfl
theorem hA_9 (B7 B8 B9 Ba : Blk) : (hA B7 B8 B9 Ba).get? 9 = some B9 := by unfold Heap.get? hA; dsimp only; rw [if_pos (by omega), get_ofL']; rfl
theorem hA_a (B7 B8 B9 Ba : Blk) : (hA B7 B8 B9 Ba).get? 10 = some Ba := by unfold Heap.get? hA; dsimp only; rw [if_pos (by omega), get_ofL']; rfl
def rhoA (s7 s8 s9 sa : Slot) : Ren := fun A => if A < 7 then some ⟨A, 0, 0⟩ else if A = 7 then some s7 else if A = 8 then some s8 else if A = 9 then some s9 else if A = 10 then some sa else none
theorem rhoA_lt {s7 s8 s9 sa : Slot} {A : Nat} {s : Slot} (h : rhoA s7 s8 s9 sa A = some s) : A < 11 := by
  unfold rhoA at h
  split at h
  · omega
  · split at h
    · omega
    · split at h
      · omega
      · split at h
        · omega
        · split at h
          · omega
          · cases h

def slotOf (v : Value) : Slot :=
  match v with
  | .slice (some a) _ cap => ⟨a.block, a.off, cap⟩
  | _ => ⟨0, 0, 0⟩
def absOf (B : Nat) (v : Value) : Option Addr × Nat :=
  match v with
  | .slice (some _) _ _ => (some ⟨B, 0, none⟩, anyCap)
  | _ => (none, 0)

theorem blk_br {ρ : Ren} {w : World} {v : Value} {n : Nat} {c : List Value} {e : TypeId} (hA : Arg w v n c) (hi : ∀ u ∈ c, ∃ z, u = Value.int .i64 z) (hc : n = 0 → c = []) : BR Tryz.prog ρ w (slotOf v) (blkOf c e) := by
  unfold blkOf
  split
  · exact .dead
  · rename_i hne
    rcases hA with ⟨_, h, _⟩ | ⟨b, o, cap, rfl, _, hcell⟩
    · exact absurd h hne
    · obtain ⟨u0, hu0⟩ : ∃ u, c[0]? = some u := by cases c with
        | nil => exact absurd rfl hne
        | cons a l => exact ⟨a, rfl⟩
      have h0 := hcell 0 u0 hu0
      obtain ⟨cur, t, fr, hw⟩ : ∃ cur t fr, w.heap[b]? = some (.cells cur t fr) := by
        unfold World.cell? at h0
        simp only at h0
        split at h0
        · rename_i cs t fr hw; exact ⟨cs, t, fr, hw⟩
        · cases h0
      refine .ro cur t fr hw fun i v hv => ?_
      obtain ⟨z, rfl⟩ := hi v (List.mem_of_getElem? hv)
      refine ⟨rfl, .int .i64 z, ?_, .int _ _⟩
      have h1 := hcell i _ hv
      unfold World.cell? at h1
      simp only [hw] at h1
      exact h1

theorem R_A {w : World} {v7 v8 v9 va : Value} {B7 B8 B9 Ba : Blk} (h7 : ∀ ρ, BR Tryz.prog ρ w (slotOf v7) B7) (h8 : ∀ ρ, BR Tryz.prog ρ w (slotOf v8) B8) (h9 : ∀ ρ, BR Tryz.prog ρ w (slotOf v9) B9) (ha : ∀ ρ, BR Tryz.prog ρ w (slotOf va) Ba)
    (o7 : B7 = .dead ∨ ∃ c e, B7 = .cells c e false) (o8 : B8 = .dead ∨ ∃ c e, B8 = .cells c e false) (o9 : B9 = .dead ∨ ∃ c e, B9 = .cells c e false) (oa : Ba = .dead ∨ ∃ c e, Ba = .cells c e false) :
    R Tryz.prog (fun g => g < w.heap.size) w (rhoA (slotOf v7) (slotOf v8) (slotOf v9) (slotOf va)) (hA B7 B8 B9 Ba) w where
  below := Kept.refl _ _
  size := fun g h => h
  dom := fun A s e => rhoA_lt e
  glob := fun g h => ⟨⟨g, 0, 0⟩, by rw [gSize] at h; unfold rhoA; rw [if_pos h], rfl, rfl⟩
  blk := fun A s b e f => by
    rcases hA_get f with ⟨rfl, rfl⟩ | ⟨rfl, rfl⟩ | ⟨rfl, rfl⟩ | ⟨rfl, rfl⟩ | rfl
    · cases e; exact h7 _
    · cases e; exact h8 _
    · cases e; exact h9 _
    · cases e; exact ha _
    · exact .dead
  mine := fun A s b e f ho => by
    rcases hA_get f with ⟨_, rfl⟩ | ⟨_, rfl⟩ | ⟨_, rfl⟩ | ⟨_, rfl⟩ | rfl
    · rcases o7 with rfl | ⟨_, _, rfl⟩ <;> cases ho
    · rcases o8 with rfl | ⟨_, _, rfl⟩ <;> cases ho
    · rcases o9 with rfl | ⟨_, _, rfl⟩ <;> cases ho
    · rcases oa with rfl | ⟨_, _, rfl⟩ <;> cases ho
    · cases ho
  inj := fun A B s t b c ea eb fa fb ho hl hAB => by
    rcases hA_get fa with ⟨_, rfl⟩ | ⟨_, rfl⟩ | ⟨_, rfl⟩ | ⟨_, rfl⟩ | rfl
    · rcases o7 with rfl | ⟨_, _, rfl⟩ <;> cases ho
    · rcases o8 with rfl | ⟨_, _, rfl⟩ <;> cases ho
    · rcases o9 with rfl | ⟨_, _, rfl⟩ <;> cases ho
    · rcases oa with rfl | ⟨_, _, rfl⟩ <;> cases ho
    · cases ho

theorem blkOf_ro (c : List Value) (e : TypeId) : blkOf c e = .dead ∨ ∃ c' e', blkOf c e = .cells c' e' false := by
  unfold blkOf; split
  · exact .inl rfl
  · exact .inr ⟨_, _, rfl⟩

theorem good_safe {w : World} (hg : GoodW w) : Safe GoodW (fun g => g < w.heap.size) w := by
  intro w' hk
  have keep : ∀ n g c, Tryz.prog.globalNamed n = some g → w.var? Tryz.prog n = some c → w'.var? Tryz.prog n = some c := by
    intro n g c hn hv
    obtain ⟨t, fr, hw⟩ := heap_of_var hn hv
    have hlt : g < w.heap.size := (Array.getElem?_eq_some_iff.1 hw).1
    have := hk.block g hlt
    unfold World.var? at hv ⊢
    rw [hn] at hv ⊢
    simp only [Option.bind_some] at hv ⊢
    rw [this]; exact hv
  exact ⟨keep _ _ _ gWords hg.1, keep _ _ _ gPow hg.2⟩

theorem vr_slice {w : World} {v : Value} {n : Nat} {c : List Value} {ρ : Ren} {B : Nat} (hA : Arg w v n c) (hρ : ρ B = some (slotOf v)) : VR ρ (.slice (absOf B v).1 n (absOf B v).2) v := by
  rcases hA with ⟨rfl, _, rfl⟩ | ⟨b, o, cap, rfl, hle, _⟩
  · exact .nilSlice 0 0
  · exact .slice ⟨b, o, cap⟩ hρ rfl (by simp) (.inr (.inr ⟨Nat.le_refl _, by simp [absOf], hle⟩))

theorem rd_of {w : World} {v : Value} {n B : Nat} {c : List Value} {e : TypeId} {h : Heap} (hA : Arg w v n c) (hg : h.get? B = some (blkOf c e)) : Rd h (absOf B v).1 c := by
  by_cases hc : c = []
  · exact .inl hc
  · rcases hA with ⟨_, h, _⟩ | ⟨b, o, cap, rfl, _, _⟩
    · exact absurd h hc
    · refine .inr ⟨B, e, false, rfl, ?_⟩
      rw [hg]; unfold blkOf; rw [if_neg hc]

theorem ints_int (l : List Int) : ∀ u ∈ ints l, ∃ z, u = Value.int .i64 z := by
  intro u h
  obtain ⟨z, _, rfl⟩ := List.mem_map.1 h
  exact ⟨z, rfl⟩

theorem KO_noK : NoK KO := fun f a h hf => KO_no f a h hf
theorem KO_kn : Kn KO := fun h => KO_known h

theorem XR_3 {ρ : Ren} {a a' b b' c c' : Value} (h1 : VR ρ a a') (h2 : VR ρ b b') (h3 : VR ρ c c') : XR ρ #[a, b, c] #[a', b', c'] := LR.cons h1 (LR.cons h2 (LR.cons h3 (LR.nil ρ)))

theorem XR_2 {ρ : Ren} {a a' b b' : Value} (h1 : VR ρ a a') (h2 : VR ρ b b') : XR ρ #[a, b] #[a', b'] := LR.cons h1 (LR.cons h2 (LR.nil ρ))
theorem abs_lt {B : Nat} {v : Value} {n : Nat} (hB : B < n) : ∀ a, (absOf B v).1 = some a → a.block < n := by
  intro a e
  unfold absOf at e
  split at e
  · cases e; exact hB
  · cases e
theorem nil_of {l : List Int} {n k : Nat} (h : l.length = n * k) (e : n = 0) : ints l = [] := by
  subst e
  rw [Nat.zero_mul] at h
  rw [List.length_eq_zero_iff.1 h]; rfl
/-- From what the reading says to what the machine does: a book and a plan. -/
theorem book_plan {f : FuncId} {w : World} (hg : GoodW w) {s1 s2 s3 v : Value} {n m : Nat} {c l s t : List Int} (hc : c.length = n * 7) (ht : t.length = m * 3) (h1 : Arg w s1 n (ints c)) (h2 : Arg w s2 l.length (ints l)) (h3 : Arg w s3 s.length (ints s)) (h4 : Arg w v m (ints t))
    (H : ∀ (p q r u : Option Addr) (k1 k2 k3 kt : Nat) (h : Heap), Rd h p (ints c) → Rd h q (ints l) → Rd h r (ints s) → Rd h u (ints t) → (∀ a, p = some a → a.block < h.n) → (∀ a, q = some a → a.block < h.n) → (∀ a, r = some a → a.block < h.n) → (∀ a, u = some a → a.block < h.n) → CallW Tryz.prog KO f #[.agg #[.slice p n k1, .slice q l.length k2, .slice r s.length k3], .slice u m kt] h fun v _ => v = .bool true) :
    Calls Tryz.prog f #[.agg #[s1, s2, s3], v] w fun e w' => e = .returned (.bool true) ∧ Below w.heap.size w w' := by
  obtain ⟨_, r, hh, hr, rfl⟩ := H (absOf 7 s1).1 (absOf 8 s2).1 (absOf 9 s3).1 (absOf 10 v).1 (absOf 7 s1).2 (absOf 8 s2).2 (absOf 9 s3).2 (absOf 10 v).2 (hA (blkOf (ints c) 43) (blkOf (ints l) 3) (blkOf (ints s) 3) (blkOf (ints t) 39))
    (rd_of h1 (hA_7 _ _ _ _)) (rd_of h2 (hA_8 _ _ _ _)) (rd_of h3 (hA_9 _ _ _ _)) (rd_of h4 (hA_a _ _ _ _)) (abs_lt (by show 7 < 11; decide)) (abs_lt (by show 8 < 11; decide)) (abs_lt (by show 9 < 11; decide)) (abs_lt (by show 10 < 11; decide))
  refine run_calls_plain hmx known_ok rfl hr (R_A (v7 := s1) (v8 := s2) (v9 := s3) (va := v) (fun ρ => blk_br h1 (ints_int c) (nil_of hc)) (fun ρ => blk_br h2 (ints_int l) (nil_of (k := 1) (Nat.mul_one _).symm)) (fun ρ => blk_br h3 (ints_int s) (nil_of (k := 1) (Nat.mul_one _).symm)) (fun ρ => blk_br h4 (ints_int t) (nil_of ht)) (blkOf_ro _ _) (blkOf_ro _ _) (blkOf_ro _ _) (blkOf_ro _ _)) ?_ (good_safe hg)
  exact XR_2 (VR.agg' (XR_3 (vr_slice h1 rfl) (vr_slice h2 rfl) (vr_slice h3 rfl))) (vr_slice h4 rfl)
theorem giveWhysLaw_calls {w : World} (hg : GoodW w) {s1 s2 s3 v : Value} {n m : Nat} {c l s t : List Int} (hc : c.length = n * 7) (ht : t.length = m * 3) (h1 : Arg w s1 n (ints c)) (h2 : Arg w s2 l.length (ints l)) (h3 : Arg w s3 s.length (ints s)) (h4 : Arg w v m (ints t)) :
    Calls Tryz.prog 3 #[.agg #[s1, s2, s3], v] w fun e w' => e = .returned (.bool true) ∧ Below w.heap.size w w' :=
  book_plan hg hc ht h1 h2 h3 h4 fun p q r u k1 k2 k3 kt h rp rq rr ru bp bq br bu => by
    by_cases hn : (n ≤ 6 ∧ l.length ≤ 4 ∧ s.length ≤ 5) ∧ m ≤ 5
    · exact giveWhys_ok (B := ⟨p, q, r, n, k1, k2, k3, c, l, s⟩) KO_noK KO_kn hn.1 hn.2 ⟨by show n ≤ 1000; omega, by show l.length ≤ 1000; omega, by show s.length ≤ 1000; omega, hc, rp, rq, rr, bp, bq, br⟩ ht ru bu
    · exact giveWhys_long KO_noK KO_kn hn
end Go.AX.Sa
