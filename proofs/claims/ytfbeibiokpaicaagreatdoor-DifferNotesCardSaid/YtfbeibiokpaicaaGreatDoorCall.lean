/- The examples answer true; from what the reading says to what the machine does. -/
import Derived.Test.YtfbeibiokpaicaaGreatDoorAxA
import Derived.Test.YtfbeibiokpaicaaGreatDoorProg
import Derived.KernelRfl
import Derived.Test.YtfbeibiokpaicaaGreatDoorKnA
import Derived.Test.YtfbeibiokpaicaaGreatDoorKnB
import Derived.Test.YtfbeibiokpaicaaGreatDoorKnC
import Derived.Test.YtfbeibiokpaicaaGreatDoorKnD
import Derived.Lib.LaidU8
import Derived.Lib.LaidTab
import Derived.Test.YtfbeibiokpaicaaGreatDoorSwA
import Derived.ChangeArms
import Derived.ChangeSlices
import Derived.ChangeSame
import Derived.OpenShut
import Derived.Test.YtfbeibiokpaicaaGreatDoorSwB
namespace Go.AX.Sa
open Go.Proofs
def KO : Known := fun f args _ => bif Nat.beq f 10 && Nat.beq args.size 0 then some (.bool true, []) else none
theorem KO_no (f : FuncId) (a : Array Value) (h : Heap) (hf : Nat.beq f 10 = false) : KO f a h = none := by unfold KO; rw [hf]; rfl
theorem KO_known (h : Heap) : KO 10 #[] h = some (.bool true, []) := rfl
end Go.AX.Sa

namespace Go.AX.Sa
open Go.Proofs Go.RowKit

theorem hmx : Tryz.prog.follows .mixedOrders = true := by kernel_rfl

theorem last_split : ∃ s', (runF Tryz.prog (fun _ _ _ => none) 20000).code ⟨10, none, false⟩ kSc9 kS9 = some (.ret, s') ∧ kS10 = s'.keep [] := by
  have h := kSlast
  generalize (runF Tryz.prog (fun _ _ _ => none) 20000).code ⟨10, none, false⟩ kSc9 kS9 = r at h ⊢
  cases r with
  | none => cases h
  | some p =>
    obtain ⟨e, s'⟩ := p
    simp only [Option.some.injEq, Prod.mk.injEq] at h
    exact ⟨s', by rw [h.1], h.2.symm⟩

set_option maxRecDepth 100000 in
theorem known_piece (N : Nat → Prop) (w0 : World) : Piece Tryz.prog N w0 ⟨10, none, false⟩ [.code kSc0] kS0 .ret kS10 := by
  have hK := no_known Tryz.prog (fun _ => True)
  have hG : Safe (fun _ => True) N w0 := fun _ _ => trivial
  have hl : Piece Tryz.prog N w0 ⟨10, none, false⟩ [.code kSc9] kS9 .ret kS10 := by
    obtain ⟨s', h1, h2⟩ := last_split
    rw [h2]
    exact (code_piece hmx hK hG h1).keep []
  exact group_piece hmx hK hG kSg0 (group_piece hmx hK hG kSg1 (group_piece hmx hK hG kSg2 (group_piece hmx hK hG kSg3 (group_piece hmx hK hG kSg4 (group_piece hmx hK hG kSg5 (group_piece hmx hK hG kSg6 (group_piece hmx hK hG kSg7 (group_piece hmx hK hG kSg8 hl))))))))

theorem known_start : ({ tm := #[] ++ Array.replicate (Tryz.f10.ntmps - (#[] : Array Value).size) undef, df := [], up := .run, h := kS0.h } : St) = kS0 := by kernel_rfl
theorem known_body : Tryz.f10.body = some kSc0 := by kernel_rfl
theorem known_noloop : ∀ b, kSc0 ≠ .loop b := by
  intro b h
  have : (match kSc0 with | .loop _ => true | _ => false) = true := by rw [h]
  have h2 : (match kSc0 with | .loop _ => true | _ => false) = false := by kernel_rfl
  rw [h2] at this; cases this

theorem known_call {N : Nat → Prop} {w0 : World} : SimCall Tryz.prog N w0 10 #[] false .run kS0.h (.ret (.bool true)) kS10.up kS10.h :=
  body_call (Good := fun _ => True) Tryz.func10 known_body known_noloop (fun N w0 _ => by rw [known_start]; exact known_piece N w0)
    ((known_piece N w0).2)
    (by show Option.map _ (resultsB Tryz.prog Tryz.f10 kS10.tm kS10.h) = _; kernel_rfl) (fun _ _ => trivial)

/-- What the variables hold that known reads. -/
def GoodW (w : World) : Prop :=
  w.var? Tryz.prog "ephemerist/differ.words" = some #[strB [112, 108, 97, 110], strB [115, 116, 97, 114, 116]] ∧
  w.var? Tryz.prog "internal/strconv.uint64pow10" = some (((List.range 20).map fun i => (10 ^ i : Int)).map fun z => Value.int .u64 z).toArray

theorem gWords : Tryz.prog.globalNamed "ephemerist/differ.words" = some 0 := by kernel_rfl
theorem gPow : Tryz.prog.globalNamed "internal/strconv.uint64pow10" = some 2 := by kernel_rfl
theorem gSize : Tryz.prog.globals.size = 7 := by kernel_rfl

theorem heap_of_var {w : World} {n : String} {g : Nat} {c : Array Value} (hg : Tryz.prog.globalNamed n = some g) (h : w.var? Tryz.prog n = some c) : ∃ t fr, w.heap[g]? = some (.cells c t fr) := by
  unfold World.var? at h
  rw [hg] at h
  simp only [Option.bind_some] at h
  split at h
  · rename_i cs t fr hw; cases h; exact ⟨t, fr, hw⟩
  · cases h

def rho0 : Ren := fun A => if A < 7 then some ⟨A, 0, 0⟩ else none

theorem kS0_n : kS0.h.n = 7 := rfl
theorem kS0_get0 : kS0.h.get? 0 = some (.cells [strB [112, 108, 97, 110], strB [115, 116, 97, 114, 116]] 143 false) := by kernel_rfl
theorem kS0_get4 : kS0.h.get? 2 = some (.cells (((List.range 20).map fun i => (10 ^ i : Int)).map fun z => Value.int .u64 z) 207 false) := by kernel_rfl
theorem kS0_dead : kS0.h.get? 1 = some .dead ∧ kS0.h.get? 4 = some .dead ∧ kS0.h.get? 3 = some .dead ∧ kS0.h.get? 5 = some .dead ∧ kS0.h.get? 6 = some .dead := ⟨by kernel_rfl, by kernel_rfl, by kernel_rfl, by kernel_rfl, by kernel_rfl⟩

theorem kS0_cases {A : Nat} {b : Blk} (h : kS0.h.get? A = some b) : b = .dead ∨ (A = 0 ∧ b = .cells [strB [112, 108, 97, 110], strB [115, 116, 97, 114, 116]] 143 false) ∨ (A = 2 ∧ b = .cells (((List.range 20).map fun i => (10 ^ i : Int)).map fun z => Value.int .u64 z) 207 false) := by
  have hA : A < 7 := Heap.get_lt h
  obtain ⟨d1, d2, d3, d5, d6⟩ := kS0_dead
  match A, hA, h with
  | 0, _, h => rw [kS0_get0] at h; cases h; exact .inr (.inl ⟨rfl, rfl⟩)
  | 1, _, h => rw [d1] at h; cases h; exact .inl rfl
  | 2, _, h => rw [kS0_get4] at h; cases h; exact .inr (.inr ⟨rfl, rfl⟩)
  | 3, _, h => rw [d3] at h; cases h; exact .inl rfl
  | 4, _, h => rw [d2] at h; cases h; exact .inl rfl
  | 5, _, h => rw [d5] at h; cases h; exact .inl rfl
  | 6, _, h => rw [d6] at h; cases h; exact .inl rfl

theorem ro_block {ρ : Ren} {w : World} {g : Nat} {e t : TypeId} {fr : Nat × Nat} {l : List Value} (hl : ∀ v ∈ l, oneB v = true ∧ VR ρ v v) (hw : w.heap[g]? = some (.cells l.toArray t fr)) : BR Tryz.prog ρ w ⟨g, 0, 0⟩ (.cells l e false) := by
  refine .ro l.toArray t fr hw fun i v hv => ?_
  obtain ⟨h1, h2⟩ := hl v (List.mem_of_getElem? hv)
  exact ⟨h1, v, by simpa using hv, h2⟩

theorem known_R {w : World} (hg : GoodW w) : R Tryz.prog (fun g => g < w.heap.size) w rho0 kS0.h w where
  below := Kept.refl _ _
  size := fun g h => h
  dom := fun A s e => by
    unfold rho0 at e
    split at e
    · rw [kS0_n]; assumption
    · cases e
  glob := fun g h => ⟨⟨g, 0, 0⟩, by rw [gSize] at h; unfold rho0; rw [if_pos h], rfl, rfl⟩
  blk := fun A s b e f => by
    unfold rho0 at e
    split at e
    · cases e
      rcases kS0_cases f with rfl | ⟨rfl, rfl⟩ | ⟨rfl, rfl⟩
      · exact .dead
      · obtain ⟨t, fr, hw⟩ := heap_of_var gWords hg.1
        exact ro_block (fun v hv => by
          simp only [List.mem_cons, List.mem_nil_iff, or_false] at hv
          rcases hv with rfl | rfl <;> exact ⟨rfl, .string _⟩) hw
      · obtain ⟨t, fr, hw⟩ := heap_of_var gPow hg.2
        exact ro_block (fun v hv => by
          obtain ⟨z, _, rfl⟩ := List.mem_map.1 hv
          exact ⟨rfl, .int _ _⟩) hw
    · cases e
  mine := fun A s b e f ho => by
    rcases kS0_cases f with rfl | ⟨_, rfl⟩ | ⟨_, rfl⟩ <;> cases ho
  inj := fun A B s t b c ea eb fa fb ho hl hAB => by
    rcases kS0_cases fa with rfl | ⟨_, rfl⟩ | ⟨_, rfl⟩ <;> cases ho

theorem known_calls {w : World} (hg : GoodW w) : Calls Tryz.prog 10 #[] w fun e w' => e = .returned (.bool true) ∧ Below w.heap.size w w' :=
  known_call.calls (known_R hg) ⟨rfl, by simp⟩ rfl

theorem known_ok : KOK Tryz.prog KO GoodW := by
  intro f args h v l he N w0 hG up
  unfold KO at he
  cases hf : Nat.beq f 10 with
  | false => rw [hf] at he; cases he
  | true =>
    cases ha : Nat.beq args.size 0 with
    | false => rw [hf, ha] at he; cases he
    | true =>
      rw [hf, ha] at he
      have hf' : f = 10 := Nat.eq_of_beq_eq_true hf
      have ha' : args.size = 0 := Nat.eq_of_beq_eq_true ha
      subst hf'
      have : args = #[] := by apply Array.ext'; simpa using ha'
      subst this
      cases he
      exact plain_sim (by simp) rfl (fun w hg => known_calls hg) hG

end Go.AX.Sa

namespace Go.AX.Sa
open Go.Proofs Go.RowKit Go.ChangeShapes Go.WideShapes
set_option maxRecDepth 100000

/-- A slice of the machine that reads as these cells, and is so long. -/
def Arg (w : World) (v : Value) (len : Nat) (c : List Value) : Prop :=
  (len = 0 ∧ c = [] ∧ v = .slice none 0 0) ∨
  ∃ b o cap, v = .slice (some ⟨b, o, none⟩) len cap ∧ len ≤ cap ∧ (∀ i u, c[i]? = some u → w.cell? ⟨b, o + i, none⟩ = some u)

theorem add_none {b o i : Nat} : (⟨b, o, none⟩ : Addr).add i = ⟨b, o + i, none⟩ := by unfold Addr.add; split <;> simp_all

section
variable {H : Type} {enc : TypeId × Value → H} {w : World} {base : Nat} {spare : Nat → Bool} {held : Bool}

theorem cellsOf3 : Tryz.prog.cellsOf 3 = 1 := by kernel_rfl
theorem cellsOf22 : Tryz.prog.cellsOf 22 = 1 := by kernel_rfl
theorem cellsOf24 : Tryz.prog.cellsOf 24 = 3 := by kernel_rfl
theorem cellsOf45 : Tryz.prog.cellsOf 48 = 2 := by kernel_rfl
theorem cellsOf50 : Tryz.prog.cellsOf 50 = 2 := by kernel_rfl

/-- A list of starts. -/
theorem open_spans {fuel : Nat} {cs : List Value} {x : DataW H × List MemPlace} (h : DataW.trod enc Tryz.prog w base spare held fuel 22 cs = some x)
    (hsp : ∀ a n m, cs = [.slice (some a) n m] → a.spot = none) : ∃ (s : Value) (l : List (Int × Int)), cs = [s] ∧ Arg w s l.length (spanCells l) := by
  rcases DataW.trod_slice Tryz.underlying22 h with ⟨h0, _⟩ | ⟨a, len, cap, elems, rest, n, _, rfl, _, hb, hl, hm, hlen, hel, _, _⟩
  · exact ⟨_, [], h0, .inl ⟨rfl, rfl, rfl⟩⟩
  · obtain ⟨b, o, sp⟩ := a
    have hsp' := hsp _ _ _ rfl
    simp only at hsp'
    subst hsp'
    have each : ∀ i, i < len → ∃ lo hi : Int, w.cell? ⟨b, o + i * 2, none⟩ = some (.int .i64 lo) ∧ w.cell? ⟨b, o + i * 2 + 1, none⟩ = some (.int .i64 hi) := by
      intro i hi
      have hi' : i < elems.length := by omega
      have e := hel i hi
      rw [List.getElem?_eq_getElem hi', Option.bind_eq_some_iff] at e
      obtain ⟨c2, hc2, ht⟩ := e
      rw [cellsOf45, add_none] at hc2
      obtain ⟨_, hlen2, hcell⟩ := World.cells?_some hc2
      obtain ⟨y0, y1, m, _, _, h0, h1⟩ := trod_struct2 Tryz.underlying48 ht
      match c2, hlen2 with
      | [u0, u1], _ =>
        simp only [cellsOf3, List.drop_zero, List.take_succ_cons, List.take_zero, List.drop_succ_cons] at h0 h1
        obtain ⟨n0, e0, _, _⟩ := DataW.trod_int Tryz.underlying3 h0
        obtain ⟨n1, e1, _, _⟩ := DataW.trod_int Tryz.underlying3 h1
        simp only [List.cons.injEq, and_true] at e0 e1
        subst e0; subst e1
        have q0 := hcell 0 (by omega)
        have q1 := hcell 1 (by omega)
        rw [add_none] at q0 q1
        exact ⟨n0, n1, by simpa using q0, by simpa using q1⟩
    have mk : ∀ k, k ≤ len → ∃ l : List (Int × Int), l.length = k ∧ ∀ i u, (spanCells l)[i]? = some u → w.cell? ⟨b, o + i, none⟩ = some u := by
      intro k
      induction k with
      | zero => intro _; exact ⟨[], rfl, fun i u q => by simp [spanCells] at q⟩
      | succ k ih =>
        intro hk
        obtain ⟨l, hl1, hl2⟩ := ih (by omega)
        obtain ⟨lo, hi, q0, q1⟩ := each k (by omega)
        refine ⟨l ++ [(lo, hi)], by simp [hl1], fun i u q => ?_⟩
        have e : spanCells (l ++ [(lo, hi)]) = spanCells l ++ [.int .i64 lo, .int .i64 hi] := by
          clear hl1 hl2 q
          induction l with
          | nil => rfl
          | cons p l ih => simp only [List.cons_append, spanCells, ih]
        rw [e] at q
        have hlen3 := spanCells_len l
        by_cases hi1 : i < (spanCells l).length
        · rw [List.getElem?_append_left hi1] at q; exact hl2 i u q
        · rw [List.getElem?_append_right (by omega)] at q
          have : i = k * 2 ∨ i = k * 2 + 1 := by
            have := (List.getElem?_eq_some_iff.1 q).1
            simp at this; omega
          rcases this with rfl | rfl
          · rw [show k * 2 - (spanCells l).length = 0 from by omega] at q; cases q; exact q0
          · rw [show k * 2 + 1 - (spanCells l).length = 1 from by omega] at q; cases q; rw [← Nat.add_assoc]; exact q1
    obtain ⟨l, hl1, hl2⟩ := mk len (Nat.le_refl _)
    exact ⟨_, l, rfl, .inr ⟨b, o, cap, by rw [hl1], by omega, hl2⟩⟩

/-- A list of notes. -/
theorem open_seens {fuel : Nat} {cs : List Value} {x : DataW H × List MemPlace} (h : DataW.trod enc Tryz.prog w base spare held fuel 34 cs = some x)
    (hsp : ∀ a n m, cs = [.slice (some a) n m] → a.spot = none) : ∃ (s : Value) (l : List (Int × Int)), cs = [s] ∧ Arg w s l.length (spanCells l) := by
  rcases DataW.trod_slice Tryz.underlying34 h with ⟨h0, _⟩ | ⟨a, len, cap, elems, rest, n, _, rfl, _, hb, hl, hm, hlen, hel, _, _⟩
  · exact ⟨_, [], h0, .inl ⟨rfl, rfl, rfl⟩⟩
  · obtain ⟨b, o, sp⟩ := a
    have hsp' := hsp _ _ _ rfl
    simp only at hsp'
    subst hsp'
    have each : ∀ i, i < len → ∃ lo hi : Int, w.cell? ⟨b, o + i * 2, none⟩ = some (.int .i64 lo) ∧ w.cell? ⟨b, o + i * 2 + 1, none⟩ = some (.int .i64 hi) := by
      intro i hi
      have hi' : i < elems.length := by omega
      have e := hel i hi
      rw [List.getElem?_eq_getElem hi', Option.bind_eq_some_iff] at e
      obtain ⟨c2, hc2, ht⟩ := e
      rw [cellsOf50, add_none] at hc2
      obtain ⟨_, hlen2, hcell⟩ := World.cells?_some hc2
      obtain ⟨y0, y1, m, _, _, h0, h1⟩ := trod_struct2 Tryz.underlying50 ht
      match c2, hlen2 with
      | [u0, u1], _ =>
        simp only [cellsOf3, List.drop_zero, List.take_succ_cons, List.take_zero, List.drop_succ_cons] at h0 h1
        obtain ⟨n0, e0, _, _⟩ := DataW.trod_int Tryz.underlying3 h0
        obtain ⟨n1, e1, _, _⟩ := DataW.trod_int Tryz.underlying3 h1
        simp only [List.cons.injEq, and_true] at e0 e1
        subst e0; subst e1
        have q0 := hcell 0 (by omega)
        have q1 := hcell 1 (by omega)
        rw [add_none] at q0 q1
        exact ⟨n0, n1, by simpa using q0, by simpa using q1⟩
    have mk : ∀ k, k ≤ len → ∃ l : List (Int × Int), l.length = k ∧ ∀ i u, (spanCells l)[i]? = some u → w.cell? ⟨b, o + i, none⟩ = some u := by
      intro k
      induction k with
      | zero => intro _; exact ⟨[], rfl, fun i u q => by simp [spanCells] at q⟩
      | succ k ih =>
        intro hk
        obtain ⟨l, hl1, hl2⟩ := ih (by omega)
        obtain ⟨lo, hi, q0, q1⟩ := each k (by omega)
        refine ⟨l ++ [(lo, hi)], by simp [hl1], fun i u q => ?_⟩
        have e : spanCells (l ++ [(lo, hi)]) = spanCells l ++ [.int .i64 lo, .int .i64 hi] := by
          clear hl1 hl2 q
          induction l with
          | nil => rfl
          | cons p l ih => simp only [List.cons_append, spanCells, ih]
        rw [e] at q
        have hlen3 := spanCells_len l
        by_cases hi1 : i < (spanCells l).length
        · rw [List.getElem?_append_left hi1] at q; exact hl2 i u q
        · rw [List.getElem?_append_right (by omega)] at q
          have : i = k * 2 ∨ i = k * 2 + 1 := by
            have := (List.getElem?_eq_some_iff.1 q).1
            simp at this; omega
          rcases this with rfl | rfl
          · rw [show k * 2 - (spanCells l).length = 0 from by omega] at q; cases q; exact q0
          · rw [show k * 2 + 1 - (spanCells l).length = 1 from by omega] at q; cases q; rw [← Nat.add_assoc]; exact q1
    obtain ⟨l, hl1, hl2⟩ := mk len (Nat.le_refl _)
    exact ⟨_, l, rfl, .inr ⟨b, o, cap, by rw [hl1], by omega, hl2⟩⟩

theorem open_seen {r : Reach} {b0 : Nat} {v : Value} {d : DataW H} {ps : List MemPlace} (hval : Value.okWide Tryz.prog w r b0 34 v) (hd : DataW.Trod enc Tryz.prog w base spare held 34 v d ps) :
    ∃ l : List (Int × Int), Arg w v l.length (spanCells l) := by
  have hval' := hval
  obtain ⟨a0, len, cap, rfl⟩ := okWide_slice Tryz.underlying34 hval
  obtain ⟨fuel, hf⟩ := hd
  have hsp : ∀ a n m, [Value.slice a0 len cap] = [Value.slice (some a) n m] → a.spot = none := by
    intro a n m e
    simp only [List.cons.injEq, Value.slice.injEq, and_true] at e
    obtain ⟨rfl, rfl, rfl⟩ := e
    simp only [Value.okWide, Tryz.underlying34, Cell.okWide, Cell.ok] at hval'
    exact hval'.2.2.2.1
  obtain ⟨s, l, hs, hA⟩ := open_seens (cs := [Value.slice a0 len cap]) hf hsp
  simp only [List.cons.injEq, and_true] at hs
  subst hs
  exact ⟨l, hA⟩

/-- A plan. -/
theorem open_plan {r : Reach} {b0 : Nat} {v : Value} {d : DataW H} {ps : List MemPlace} (hval : Value.okWide Tryz.prog w r b0 24 v) (hd : DataW.Trod enc Tryz.prog w base spare held 24 v d ps) :
    ∃ (s : Value) (rows guard : Int) (l : List (Int × Int)), v = .agg #[s, .int .i64 rows, .int .i64 guard] ∧ Arg w s l.length (spanCells l) := by
  simp only [Value.okWide, Tryz.underlying24] at hval
  obtain ⟨cs, rfl, hsz, ts, hts, _, hcell⟩ := hval
  rw [cellsOf24] at hsz
  obtain ⟨c0, c1, c2, rfl⟩ : ∃ c0 c1 c2, cs = #[c0, c1, c2] := by
    obtain ⟨l⟩ := cs
    match l, hsz with
    | [a, b, c], _ => exact ⟨a, b, c, rfl⟩
  obtain ⟨fuel, hf⟩ := hd
  obtain ⟨xs, n, _, _, _, hlen, hfs⟩ := DataW.trod_struct Tryz.underlying24 hf
  have e0 : DataW.trod enc Tryz.prog w base spare held n 22 (List.take (Tryz.prog.cellsOf 22) (List.drop 0 (Value.agg #[c0, c1, c2]).cells.toList)) = xs[0]? := hfs 0 _ rfl
  have e1 : DataW.trod enc Tryz.prog w base spare held n 3 (List.take (Tryz.prog.cellsOf 3) (List.drop 1 (Value.agg #[c0, c1, c2]).cells.toList)) = xs[1]? := hfs 1 _ rfl
  have e2 : DataW.trod enc Tryz.prog w base spare held n 3 (List.take (Tryz.prog.cellsOf 3) (List.drop 2 (Value.agg #[c0, c1, c2]).cells.toList)) = xs[2]? := hfs 2 _ rfl
  have hlen3 : xs.length = 3 := hlen
  rw [List.getElem?_eq_getElem (by omega)] at e0
  rw [List.getElem?_eq_getElem (by omega)] at e1
  rw [List.getElem?_eq_getElem (by omega)] at e2
  simp only [cellsOf22, cellsOf3, Value.cells, List.drop_zero, List.take_succ_cons, List.take_zero, List.drop_succ_cons] at e0 e1 e2
  obtain ⟨n1, q1, _, _⟩ := DataW.trod_int Tryz.underlying3 e1
  obtain ⟨n2, q2, _, _⟩ := DataW.trod_int Tryz.underlying3 e2
  simp only [List.cons.injEq, and_true] at q1 q2
  subst q1; subst q2
  have hct : Tryz.prog.cellTypes Tryz.prog.depth 24 = some [22, 3, 3] := by kernel_rfl
  rw [hct] at hts
  cases hts
  have hsp : ∀ a n m, [c0] = [Value.slice (some a) n m] → a.spot = none := by
    intro a n m e
    simp only [List.cons.injEq, and_true] at e
    subst e
    obtain ⟨u, hu, hc⟩ := hcell 0 _ rfl
    simp at hu
    subst hu
    simp only [Cell.okWide, Tryz.underlying22, Cell.ok] at hc
    exact hc.2.2.2.1
  obtain ⟨s, l, hs, hA⟩ := open_spans e0 hsp
  simp only [List.cons.injEq, and_true] at hs
  subst hs
  exact ⟨_, n1, n2, l, rfl, hA⟩

/-- A list of numbers. -/
theorem open_list {r : Reach} {b0 : Nat} {v : Value} {d : DataW H} {ps : List MemPlace} (hval : Value.okWide Tryz.prog w r b0 43 v) (hd : DataW.Trod enc Tryz.prog w base spare held 43 v d ps) :
    ∃ t : List Int, Arg w v t.length (ints t) := by
  have hval' := hval
  obtain ⟨a0, len, cap, rfl⟩ := okWide_slice Tryz.underlying43 hval
  obtain ⟨fuel, hf⟩ := hd
  rcases open_ints Tryz.underlying43 Tryz.underlying3 cellsOf3 hf with ⟨hcs, hx⟩ | ⟨a, len', cap', zs, hcs, _, hl, hm, hz, hx, hcell, hwz⟩
  · simp [Value.cells] at hcs
    obtain ⟨rfl, rfl, rfl⟩ := hcs
    exact ⟨[], .inl ⟨rfl, rfl, rfl⟩⟩
  · simp [Value.cells] at hcs
    obtain ⟨rfl, rfl, rfl⟩ := hcs
    obtain ⟨b, o, sp⟩ := a
    simp only [Value.okWide, Tryz.underlying43, Cell.okWide, Cell.ok] at hval'
    have hsp := hval'.2.2.2.1
    simp only at hsp
    subst hsp
    have hzl : len ≤ zs.length := by rw [hz]; split <;> omega
    refine ⟨zs.take len, .inr ⟨b, o, cap, by simp [Nat.min_eq_left hzl], by simp; omega, fun i u q => ?_⟩⟩
    have hi : i < (zs.take len).length := by have := (List.getElem?_eq_some_iff.1 q).1; simpa [ints] using this
    have hi2 : i < zs.length := by simp at hi; omega
    have := hcell i hi2
    rw [add_none] at this
    rw [this]
    have hi3 : i < len := by simp at hi; omega
    simp [ints, hi3, List.getElem?_eq_getElem hi2] at q
    rw [← q]
    simp [List.getD_eq_getElem?_getD, hi2]
end
end Go.AX.Sa

namespace Go.AX.Sa
open Go.Proofs Go.RowKit
set_option maxRecDepth 100000

/-! A law over a plan, a list and a number, in the machine. -/
def blkOf (c : List Value) (e : TypeId) : Blk := if c = [] then .dead else .cells c e false
def hA (B7 B8 : Blk) : Heap := { n := 9, bs := .ofL (B8 :: B7 :: List.replicate 7 .dead) }
theorem get_ofL' : ∀ (l : List Blk) (i : Nat), (Bt.ofL l).get i = l[i]? := by
  intro l
  induction l with
  | nil => intro i; rfl
  | cons b l ih =>
    intro i
    simp only [Bt.ofL]
    cases i with
    | zero => exact (Bt.get_cons _ _).1
    | succ i => rw [(Bt.get_cons _ _).2 i, ih]; simp
def rhoA (s7 s8 : Slot) : Ren := fun A => if A < 7 then some ⟨A, 0, 0⟩ else if A = 7 then some s7 else if A = 8 then some s8 else none
def slotOf (v : Value) : Slot :=
  match v with
  | .slice (some a) _ cap => ⟨a.block, a.off, cap⟩
  | _ => ⟨0, 0, 0⟩
def absOf (B : Nat) (v : Value) : Option Addr × Nat :=
  match v with
  | .slice (some _) _ _ => (some ⟨B, 0, none⟩, anyCap)
  | _ => (none, 0)

theorem blk_br {ρ : Ren} {w : World} {v : Value} {n : Nat} {c : List Value} {e : TypeId} (hA : Arg w v n c) (hi : ∀ u ∈ c, ∃ z, u = Value.int .i64 z) (hc : n = 0 → c = []) : BR Tryz.prog ρ w (slotOf v) (blkOf c e) := by
  unfold blkOf
  split
  · exact .dead
  · rename_i hne
    rcases hA with ⟨_, h, _⟩ | ⟨b, o, cap, rfl, _, hcell⟩
    · exact absurd h hne
    · obtain ⟨u0, hu0⟩ : ∃ u, c[0]? = some u := by cases c with
        | nil => exact absurd rfl hne
        | cons a l => exact ⟨a, rfl⟩
      have h0 := hcell 0 u0 hu0
      obtain ⟨cur, t, fr, hw⟩ : ∃ cur t fr, w.heap[b]? = some (.cells cur t fr) := by
        unfold World.cell? at h0
        simp only at h0
        split at h0
        · rename_i cs t fr hw; exact ⟨cs, t, fr, hw⟩
        · cases h0
      refine .ro cur t fr hw fun i v hv => ?_
      obtain ⟨z, rfl⟩ := hi v (List.mem_of_getElem? hv)
      refine ⟨rfl, .int .i64 z, ?_, .int _ _⟩
      have h1 := hcell i _ hv
      unfold World.cell? at h1
      simp only [hw] at h1
      exact h1

theorem good_safe {w : World} (hg : GoodW w) : Safe GoodW (fun g => g < w.heap.size) w := by
  intro w' hk
  have keep : ∀ n g c, Tryz.prog.globalNamed n = some g → w.var? Tryz.prog n = some c → w'.var? Tryz.prog n = some c := by
    intro n g c hn hv
    obtain ⟨t, fr, hw⟩ := heap_of_var hn hv
    have hlt : g < w.heap.size := (Array.getElem?_eq_some_iff.1 hw).1
    have := hk.block g hlt
    unfold World.var? at hv ⊢
    rw [hn] at hv ⊢
    simp only [Option.bind_some] at hv ⊢
    rw [this]; exact hv
  exact ⟨keep _ _ _ gWords hg.1, keep _ _ _ gPow hg.2⟩

theorem vr_slice {w : World} {v : Value} {n : Nat} {c : List Value} {ρ : Ren} {B : Nat} (hA : Arg w v n c) (hρ : ρ B = some (slotOf v)) : VR ρ (.slice (absOf B v).1 n (absOf B v).2) v := by
  rcases hA with ⟨rfl, _, rfl⟩ | ⟨b, o, cap, rfl, hle, _⟩
  · exact .nilSlice 0 0
  · exact .slice ⟨b, o, cap⟩ hρ rfl (by simp) (.inr (.inr ⟨rfl, hle⟩))

theorem rd_of {w : World} {v : Value} {n B : Nat} {c : List Value} {e : TypeId} {h : Heap} (hA : Arg w v n c) (hg : h.get? B = some (blkOf c e)) : Rd h (absOf B v).1 c := by
  by_cases hc : c = []
  · exact .inl hc
  · rcases hA with ⟨_, h, _⟩ | ⟨b, o, cap, rfl, _, _⟩
    · exact absurd h hc
    · refine .inr ⟨B, e, false, rfl, ?_⟩
      rw [hg]; unfold blkOf; rw [if_neg hc]

theorem spans_int (l : List (Int × Int)) : ∀ u ∈ spanCells l, ∃ z, u = Value.int .i64 z := by
  induction l with
  | nil => intro u h; cases h
  | cons p l ih =>
    intro u h
    simp only [spanCells, List.mem_cons] at h
    rcases h with rfl | rfl | h
    · exact ⟨_, rfl⟩
    · exact ⟨_, rfl⟩
    · exact ih u h
theorem ints_int (l : List Int) : ∀ u ∈ ints l, ∃ z, u = Value.int .i64 z := by
  intro u h
  obtain ⟨z, _, rfl⟩ := List.mem_map.1 h
  exact ⟨z, rfl⟩

theorem KO_noK : NoK KO := fun f a h hf => KO_no f a h hf
theorem KO_kn : Kn KO := fun h => KO_known h

theorem XR_3 {ρ : Ren} {a a' b b' c c' : Value} (h1 : VR ρ a a') (h2 : VR ρ b b') (h3 : VR ρ c c') : XR ρ #[a, b, c] #[a', b', c'] := LR.cons h1 (LR.cons h2 (LR.cons h3 (LR.nil ρ)))

end Go.AX.Sa
