/- The examples answer true; from what the reading says to what the machine does. -/
import Derived.Test.YtbjagnifnbmpeaaGreatDoorAxA
import Derived.Test.YtbjagnifnbmpeaaGreatDoorProg
import Derived.KernelRfl
import Derived.Test.YtbjagnifnbmpeaaGreatDoorKnA
import Derived.Test.YtbjagnifnbmpeaaGreatDoorKnB
import Derived.Test.YtbjagnifnbmpeaaGreatDoorKnC
import Derived.Test.YtbjagnifnbmpeaaGreatDoorAxW
import Derived.Lib.LaidU8
import Derived.Lib.LaidTab
import Derived.Test.YtbjagnifnbmpeaaGreatDoorSwA
import Derived.ChangeArms
import Derived.ChangeSlices
import Derived.ChangeSame
import Derived.OpenShut
namespace Go.AX.Sa
open Go.Proofs
def KO : Known := fun f args _ => bif Nat.beq f 20 && Nat.beq args.size 0 then some (.bool true, []) else none
theorem KO_no (f : FuncId) (a : Array Value) (h : Heap) (hf : Nat.beq f 20 = false) : KO f a h = none := by unfold KO; rw [hf]; rfl
theorem KO_known (h : Heap) : KO 20 #[] h = some (.bool true, []) := rfl
end Go.AX.Sa

namespace Go.AX.Sa
open Go.Proofs Go.RowKit

theorem hmx : Tryz.prog.follows .mixedOrders = true := by kernel_rfl

set_option maxRecDepth 100000 in
theorem known_piece (N : Nat → Prop) (w0 : World) : Piece Tryz.prog N w0 ⟨20, none, false⟩ [.code kSc0] kS0 .ret kS4 := by
  have hK := no_known Tryz.prog (fun _ => True)
  have hG : Safe (fun _ => True) N w0 := fun _ _ => trivial
  have hl : Piece Tryz.prog N w0 ⟨20, none, false⟩ [.code kSc3] kS3 .ret kS4 := by
    obtain ⟨m, s', h1, h2⟩ := lastW_run kSlast
    rw [h2]
    exact (code_piece hmx hK hG h1).keep []
  exact groupW_piece hmx hK hG kSg0 (groupW_piece hmx hK hG kSg1 (groupW_piece hmx hK hG kSg2 hl))

theorem known_start : ({ tm := #[] ++ Array.replicate (Tryz.f20.ntmps - (#[] : Array Value).size) undef, df := [], up := .run, h := kS0.h } : St) = kS0 := by kernel_rfl
theorem known_body : Tryz.f20.body = some kSc0 := by kernel_rfl
theorem known_noloop : ∀ b, kSc0 ≠ .loop b := by
  intro b h
  have : (match kSc0 with | .loop _ => true | _ => false) = true := by rw [h]
  have h2 : (match kSc0 with | .loop _ => true | _ => false) = false := by kernel_rfl
  rw [h2] at this; cases this

theorem known_call {N : Nat → Prop} {w0 : World} : SimCall Tryz.prog N w0 20 #[] false .run kS0.h (.ret (.bool true)) kS4.up kS4.h :=
  body_call (Good := fun _ => True) Tryz.func20 known_body known_noloop (fun N w0 _ => by rw [known_start]; exact known_piece N w0)
    ((known_piece N w0).2)
    (by show Option.map _ (resultsB Tryz.prog Tryz.f20 kS4.tm kS4.h) = _; kernel_rfl) (fun _ _ => trivial)

/-- What the variables hold that known reads. -/
def GoodW (w : World) : Prop :=
  w.var? Tryz.prog "ephemerist/pay.worth" = some (ints [960, 48, 4, 1]).toArray ∧
  w.var? Tryz.prog "ephemerist/pay.highest" = some (ints [999, 19, 11, 3]).toArray ∧
  w.var? Tryz.prog "ephemerist/pay.words" = some #[strB [112, 97, 121], strB [108, 105, 110, 101]] ∧
  w.var? Tryz.prog "internal/strconv.uint64pow10" = some (((List.range 20).map fun i => (10 ^ i : Int)).map fun z => Value.int .u64 z).toArray

theorem gWorth : Tryz.prog.globalNamed "ephemerist/pay.worth" = some 0 := by kernel_rfl
theorem gHighest : Tryz.prog.globalNamed "ephemerist/pay.highest" = some 1 := by kernel_rfl
theorem gWords : Tryz.prog.globalNamed "ephemerist/pay.words" = some 2 := by kernel_rfl
theorem gPow : Tryz.prog.globalNamed "internal/strconv.uint64pow10" = some 6 := by kernel_rfl
theorem gSize : Tryz.prog.globals.size = 9 := by kernel_rfl

theorem heap_of_var {w : World} {n : String} {g : Nat} {c : Array Value} (hg : Tryz.prog.globalNamed n = some g) (h : w.var? Tryz.prog n = some c) : ∃ t fr, w.heap[g]? = some (.cells c t fr) := by
  unfold World.var? at h
  rw [hg] at h
  simp only [Option.bind_some] at h
  split at h
  · rename_i cs t fr hw; cases h; exact ⟨t, fr, hw⟩
  · cases h

def rho0 : Ren := fun A => if A < 9 then some ⟨A, 0, 0⟩ else none

theorem kS0_n : kS0.h.n = 9 := rfl
theorem kS0_get0 : kS0.h.get? 0 = some (.cells (ints [960, 48, 4, 1]) 79 false) := by kernel_rfl
theorem kS0_get1 : kS0.h.get? 1 = some (.cells (ints [999, 19, 11, 3]) 79 false) := by kernel_rfl
theorem kS0_get2 : kS0.h.get? 2 = some (.cells [strB [112, 97, 121], strB [108, 105, 110, 101]] 135 false) := by kernel_rfl
theorem kS0_get6 : kS0.h.get? 6 = some (.cells (((List.range 20).map fun i => (10 ^ i : Int)).map fun z => Value.int .u64 z) 205 false) := by kernel_rfl
theorem kS0_dead : kS0.h.get? 3 = some .dead ∧ kS0.h.get? 4 = some .dead ∧ kS0.h.get? 5 = some .dead ∧ kS0.h.get? 7 = some .dead ∧ kS0.h.get? 8 = some .dead := ⟨by kernel_rfl, by kernel_rfl, by kernel_rfl, by kernel_rfl, by kernel_rfl⟩

theorem kS0_cases {A : Nat} {b : Blk} (h : kS0.h.get? A = some b) : b = .dead ∨ (A = 0 ∧ b = .cells (ints [960, 48, 4, 1]) 79 false) ∨ (A = 1 ∧ b = .cells (ints [999, 19, 11, 3]) 79 false) ∨ (A = 2 ∧ b = .cells [strB [112, 97, 121], strB [108, 105, 110, 101]] 135 false) ∨ (A = 6 ∧ b = .cells (((List.range 20).map fun i => (10 ^ i : Int)).map fun z => Value.int .u64 z) 205 false) := by
  have hA : A < 9 := Heap.get_lt h
  obtain ⟨d1, d2, d3, d5, d6⟩ := kS0_dead
  match A, hA, h with
  | 0, _, h => rw [kS0_get0] at h; cases h; exact .inr (.inl ⟨rfl, rfl⟩)
  | 1, _, h => rw [kS0_get1] at h; cases h; exact .inr (.inr (.inl ⟨rfl, rfl⟩))
  | 2, _, h => rw [kS0_get2] at h; cases h; exact .inr (.inr (.inr (.inl ⟨rfl, rfl⟩)))
  | 3, _, h => rw [d1] at h; cases h; exact .inl rfl
  | 4, _, h => rw [d2] at h; cases h; exact .inl rfl
  | 5, _, h => rw [d3] at h; cases h; exact .inl rfl
  | 6, _, h => rw [kS0_get6] at h; cases h; exact .inr (.inr (.inr (.inr ⟨rfl, rfl⟩)))
  | 7, _, h => rw [d5] at h; cases h; exact .inl rfl
  | 8, _, h => rw [d6] at h; cases h; exact .inl rfl

theorem ro_block {ρ : Ren} {w : World} {g : Nat} {e t : TypeId} {fr : Nat × Nat} {l : List Value} (hl : ∀ v ∈ l, oneB v = true ∧ VR ρ v v) (hw : w.heap[g]? = some (.cells l.toArray t fr)) : BR Tryz.prog ρ w ⟨g, 0, 0⟩ (.cells l e false) := by
  refine .ro l.toArray t fr hw fun i v hv => ?_
  obtain ⟨h1, h2⟩ := hl v (List.mem_of_getElem? hv)
  exact ⟨h1, v, by simpa using hv, h2⟩

theorem ints_vr {ρ : Ren} (l : List Int) : ∀ v ∈ ints l, oneB v = true ∧ VR ρ v v := by
  intro v hv
  obtain ⟨z, _, rfl⟩ := List.mem_map.1 hv
  exact ⟨rfl, .int _ _⟩
theorem glob_br {ρ : Ren} {w : World} (hg : GoodW w) : BR Tryz.prog ρ w ⟨0, 0, 0⟩ (.cells (ints [960, 48, 4, 1]) 79 false) ∧ BR Tryz.prog ρ w ⟨1, 0, 0⟩ (.cells (ints [999, 19, 11, 3]) 79 false) := by
  obtain ⟨t0, f0, h0⟩ := heap_of_var gWorth hg.1
  obtain ⟨t1, f1, h1⟩ := heap_of_var gHighest hg.2.1
  exact ⟨ro_block (ints_vr _) h0, ro_block (ints_vr _) h1⟩
theorem known_R {w : World} (hg : GoodW w) : R Tryz.prog (fun g => g < w.heap.size) w rho0 kS0.h w where
  below := Kept.refl _ _
  size := fun g h => h
  dom := fun A s e => by
    unfold rho0 at e
    split at e
    · rw [kS0_n]; assumption
    · cases e
  glob := fun g h => ⟨⟨g, 0, 0⟩, by rw [gSize] at h; unfold rho0; rw [if_pos h], rfl, rfl⟩
  blk := fun A s b e f => by
    unfold rho0 at e
    split at e
    · cases e
      rcases kS0_cases f with rfl | ⟨rfl, rfl⟩ | ⟨rfl, rfl⟩ | ⟨rfl, rfl⟩ | ⟨rfl, rfl⟩
      · exact .dead
      · exact (glob_br hg).1
      · exact (glob_br hg).2
      · obtain ⟨t, fr, hw⟩ := heap_of_var gWords hg.2.2.1
        exact ro_block (fun v hv => by
          simp only [List.mem_cons, List.mem_nil_iff, or_false] at hv
          rcases hv with rfl | rfl <;> exact ⟨rfl, .string _⟩) hw
      · obtain ⟨t, fr, hw⟩ := heap_of_var gPow hg.2.2.2
        exact ro_block (fun v hv => by
          obtain ⟨z, _, rfl⟩ := List.mem_map.1 hv
          exact ⟨rfl, .int _ _⟩) hw
    · cases e
  mine := fun A s b e f ho => by
    rcases kS0_cases f with rfl | ⟨_, rfl⟩ | ⟨_, rfl⟩ | ⟨_, rfl⟩ | ⟨_, rfl⟩ <;> cases ho
  inj := fun A B s t b c ea eb fa fb ho hl hAB => by
    rcases kS0_cases fa with rfl | ⟨_, rfl⟩ | ⟨_, rfl⟩ | ⟨_, rfl⟩ | ⟨_, rfl⟩ <;> cases ho

theorem known_calls {w : World} (hg : GoodW w) : Calls Tryz.prog 20 #[] w fun e w' => e = .returned (.bool true) ∧ Below w.heap.size w w' :=
  known_call.calls (known_R hg) ⟨rfl, by simp⟩ rfl

theorem known_ok : KOK Tryz.prog KO GoodW := by
  intro f args h v l he N w0 hG up
  unfold KO at he
  cases hf : Nat.beq f 20 with
  | false => rw [hf] at he; cases he
  | true =>
    cases ha : Nat.beq args.size 0 with
    | false => rw [hf, ha] at he; cases he
    | true =>
      rw [hf, ha] at he
      have hf' : f = 20 := Nat.eq_of_beq_eq_true hf
      have ha' : args.size = 0 := Nat.eq_of_beq_eq_true ha
      subst hf'
      have : args = #[] := by apply Array.ext'; simpa using ha'
      subst this
      cases he
      exact plain_sim (by simp) rfl (fun w hg => known_calls hg) hG

end Go.AX.Sa

namespace Go.AX.Sa
open Go.Proofs Go.RowKit Go.ChangeShapes Go.WideShapes
set_option maxRecDepth 100000
def Arg (w : World) (v : Value) (len : Nat) (c : List Value) : Prop :=
  (len = 0 ∧ c = [] ∧ v = .slice none 0 0) ∨
  ∃ b o cap, v = .slice (some ⟨b, o, none⟩) len cap ∧ len ≤ cap ∧ (∀ i u, c[i]? = some u → w.cell? ⟨b, o + i, none⟩ = some u)
theorem add_none {b o i : Nat} : (⟨b, o, none⟩ : Addr).add i = ⟨b, o + i, none⟩ := by unfold Addr.add; split <;> simp_all
theorem ints_app (l m : List Int) : ints (l ++ m) = ints l ++ ints m := by simp [ints]
theorem ints_lenA (l : List Int) : (ints l).length = l.length := by simp [ints]
section
variable {H : Type} {enc : TypeId × Value → H} {w : World} {base : Nat} {spare : Nat → Bool} {held : Bool}
theorem cellsOf3 : Tryz.prog.cellsOf 3 = 1 := by kernel_rfl
theorem cellsOf23 : Tryz.prog.cellsOf 23 = 4 := by kernel_rfl
theorem cellsOf38 : Tryz.prog.cellsOf 38 = 1 := by kernel_rfl
theorem cellsOf40 : Tryz.prog.cellsOf 40 = 7 := by kernel_rfl
theorem cellsOf44 : Tryz.prog.cellsOf 44 = 2 := by kernel_rfl
theorem cellsOf62 : Tryz.prog.cellsOf 62 = 10 := by kernel_rfl
theorem int_rec {fuel : Nat} {c : List Value} {x : DataW H × List MemPlace} (_hc : c.length = 1) (h : DataW.trod enc Tryz.prog w base spare held fuel 3 c = some x) : ∃ z : Int, c = [.int .i64 z] := by
  obtain ⟨n, e, _, _⟩ := DataW.trod_int Tryz.underlying3 h
  exact ⟨n, e⟩
theorem span_rec {fuel : Nat} {c : List Value} {x : DataW H × List MemPlace} (hc : c.length = 2) (h : DataW.trod enc Tryz.prog w base spare held fuel 44 c = some x) : ∃ a b : Int, c = [.int .i64 a, .int .i64 b] := by
  match c, hc with
  | [u0, u1], _ =>
    obtain ⟨y0, y1, m, _, _, h0, h1⟩ := trod_struct2 Tryz.underlying44 h
    simp only [cellsOf3, List.drop_zero, List.take_succ_cons, List.take_zero, List.drop_succ_cons] at h0 h1
    obtain ⟨a, ea⟩ := int_rec rfl h0
    obtain ⟨b, eb⟩ := int_rec rfl h1
    cases ea; cases eb
    exact ⟨a, b, rfl⟩
theorem money_rec {fuel : Nat} {c : List Value} {x : DataW H × List MemPlace} (hc : c.length = 4) (h : DataW.trod enc Tryz.prog w base spare held fuel 23 c = some x) : ∃ a b d e : Int, c = ints [a, b, d, e] := by
  match c, hc with
  | [u0, u1, u2, u3], _ =>
    obtain ⟨xs, n, _, _, _, hlen, hfs⟩ := DataW.trod_struct Tryz.underlying23 h
    have hlen3 : xs.length = 4 := hlen
    have e0 : DataW.trod enc Tryz.prog w base spare held n 3 (List.take (Tryz.prog.cellsOf 3) (List.drop 0 [u0, u1, u2, u3])) = xs[0]? := hfs 0 _ rfl
    have e1 : DataW.trod enc Tryz.prog w base spare held n 3 (List.take (Tryz.prog.cellsOf 3) (List.drop 1 [u0, u1, u2, u3])) = xs[1]? := hfs 1 _ rfl
    have e2 : DataW.trod enc Tryz.prog w base spare held n 3 (List.take (Tryz.prog.cellsOf 3) (List.drop 2 [u0, u1, u2, u3])) = xs[2]? := hfs 2 _ rfl
    have e3 : DataW.trod enc Tryz.prog w base spare held n 3 (List.take (Tryz.prog.cellsOf 3) (List.drop 3 [u0, u1, u2, u3])) = xs[3]? := hfs 3 _ rfl
    rw [List.getElem?_eq_getElem (by omega)] at e0
    rw [List.getElem?_eq_getElem (by omega)] at e1
    rw [List.getElem?_eq_getElem (by omega)] at e2
    rw [List.getElem?_eq_getElem (by omega)] at e3
    simp only [cellsOf3, List.drop_zero, List.take_succ_cons, List.take_zero, List.drop_succ_cons] at e0 e1 e2 e3
    obtain ⟨a, ea⟩ := int_rec rfl e0
    obtain ⟨b, eb⟩ := int_rec rfl e1
    obtain ⟨c, ec⟩ := int_rec rfl e2
    obtain ⟨d, ed⟩ := int_rec rfl e3
    cases ea; cases eb; cases ec; cases ed
    exact ⟨a, b, c, d, rfl⟩
theorem line_rec {fuel : Nat} {c : List Value} {x : DataW H × List MemPlace} (hc : c.length = 10) (h : DataW.trod enc Tryz.prog w base spare held fuel 62 c = some x) : ∃ zs : List Int, c = ints zs := by
  match c, hc with
  | [u0, u1, u2, u3, u4, u5, u6, u7, u8, u9], _ =>
    obtain ⟨xs, n, _, _, _, hlen, hfs⟩ := DataW.trod_struct Tryz.underlying62 h
    have hlen3 : xs.length = 6 := hlen
    have e0 : DataW.trod enc Tryz.prog w base spare held n 3 (List.take (Tryz.prog.cellsOf 3) (List.drop 0 [u0, u1, u2, u3, u4, u5, u6, u7, u8, u9])) = xs[0]? := hfs 0 _ rfl
    have e1 : DataW.trod enc Tryz.prog w base spare held n 3 (List.take (Tryz.prog.cellsOf 3) (List.drop 1 [u0, u1, u2, u3, u4, u5, u6, u7, u8, u9])) = xs[1]? := hfs 1 _ rfl
    have e2 : DataW.trod enc Tryz.prog w base spare held n 44 (List.take (Tryz.prog.cellsOf 44) (List.drop 2 [u0, u1, u2, u3, u4, u5, u6, u7, u8, u9])) = xs[2]? := hfs 2 _ rfl
    have e3 : DataW.trod enc Tryz.prog w base spare held n 3 (List.take (Tryz.prog.cellsOf 3) (List.drop 4 [u0, u1, u2, u3, u4, u5, u6, u7, u8, u9])) = xs[3]? := hfs 3 _ rfl
    have e4 : DataW.trod enc Tryz.prog w base spare held n 3 (List.take (Tryz.prog.cellsOf 3) (List.drop 5 [u0, u1, u2, u3, u4, u5, u6, u7, u8, u9])) = xs[4]? := hfs 4 _ rfl
    have e5 : DataW.trod enc Tryz.prog w base spare held n 23 (List.take (Tryz.prog.cellsOf 23) (List.drop 6 [u0, u1, u2, u3, u4, u5, u6, u7, u8, u9])) = xs[5]? := hfs 5 _ rfl
    rw [List.getElem?_eq_getElem (by omega)] at e0
    rw [List.getElem?_eq_getElem (by omega)] at e1
    rw [List.getElem?_eq_getElem (by omega)] at e2
    rw [List.getElem?_eq_getElem (by omega)] at e3
    rw [List.getElem?_eq_getElem (by omega)] at e4
    rw [List.getElem?_eq_getElem (by omega)] at e5
    simp only [cellsOf3, cellsOf44, cellsOf23, List.drop_zero, List.take_succ_cons, List.take_zero, List.drop_succ_cons] at e0 e1 e2 e3 e4 e5
    obtain ⟨a, ea⟩ := int_rec rfl e0
    obtain ⟨b, eb⟩ := int_rec rfl e1
    obtain ⟨c1, c2, ec⟩ := span_rec rfl e2
    obtain ⟨d, ed⟩ := int_rec rfl e3
    obtain ⟨f, ef⟩ := int_rec rfl e4
    obtain ⟨m1, m2, m3, m4, em⟩ := money_rec rfl e5
    cases ea; cases eb; cases ec; cases ed; cases ef; cases em
    exact ⟨[a, b, c1, c2, d, f, m1, m2, m3, m4], rfl⟩
theorem open_recs {T E k : Nat} (hT : Tryz.prog.underlying T = some (.slice E)) (hE : Tryz.prog.cellsOf E = k) (_hk : 0 < k)
    (hrec : ∀ fuel c x, c.length = k → DataW.trod enc Tryz.prog w base spare held fuel E c = some x → ∃ zs : List Int, c = ints zs)
    {fuel : Nat} {cs : List Value} {x : DataW H × List MemPlace} (h : DataW.trod enc Tryz.prog w base spare held fuel T cs = some x)
    (hsp : ∀ a n m, cs = [.slice (some a) n m] → a.spot = none) : ∃ (s : Value) (n : Nat) (l : List Int), cs = [s] ∧ l.length = n * k ∧ Arg w s n (ints l) := by
  rcases DataW.trod_slice hT h with ⟨h0, _⟩ | ⟨a, len, cap, elems, rest, n, _, rfl, _, hb, hl, hm, hlen, hel, _, _⟩
  · exact ⟨_, 0, [], h0, by simp, .inl ⟨rfl, rfl, rfl⟩⟩
  · obtain ⟨b, o, sp⟩ := a
    have hsp' := hsp _ _ _ rfl
    simp only at hsp'
    subst hsp'
    have each : ∀ i, i < len → ∃ zs : List Int, zs.length = k ∧ ∀ j u, (ints zs)[j]? = some u → w.cell? ⟨b, o + i * k + j, none⟩ = some u := by
      intro i hi
      have hi' : i < elems.length := by omega
      have e := hel i hi
      rw [List.getElem?_eq_getElem hi', Option.bind_eq_some_iff] at e
      obtain ⟨c2, hc2, ht⟩ := e
      rw [hE, add_none] at hc2
      obtain ⟨_, hlen2, hcell⟩ := World.cells?_some hc2
      obtain ⟨zs, rfl⟩ := hrec _ _ _ hlen2 ht
      rw [ints_lenA] at hlen2
      refine ⟨zs, hlen2, fun j u q => ?_⟩
      have hj : j < zs.length := by have := (List.getElem?_eq_some_iff.1 q).1; simpa [ints] using this
      have := hcell j (by omega)
      rw [add_none] at this
      rw [this]; exact q
    have mk : ∀ m, m ≤ len → ∃ l : List Int, l.length = m * k ∧ ∀ i u, (ints l)[i]? = some u → w.cell? ⟨b, o + i, none⟩ = some u := by
      intro m
      induction m with
      | zero => intro _; exact ⟨[], by simp, fun i u q => by simp [ints] at q⟩
      | succ m ih =>
        intro hk
        obtain ⟨l, hl1, hl2⟩ := ih (by omega)
        obtain ⟨zs, hz, hq⟩ := each m (by omega)
        refine ⟨l ++ zs, by rw [List.length_append, hl1, hz, Nat.succ_mul], fun i u q => ?_⟩
        rw [ints_app] at q
        by_cases hi1 : i < (ints l).length
        · rw [List.getElem?_append_left hi1] at q; exact hl2 i u q
        · rw [List.getElem?_append_right (by omega)] at q
          have e := hq _ _ q
          rw [ints_lenA, hl1] at e hi1
          rw [show o + m * k + (i - m * k) = o + i from by omega] at e
          exact e
    obtain ⟨l, hl1, hl2⟩ := mk len (Nat.le_refl _)
    exact ⟨_, len, l, rfl, hl1, .inr ⟨b, o, cap, rfl, by omega, hl2⟩⟩
theorem no_spot {r : Reach} {b0 T E : Nat} (hT : Tryz.prog.underlying T = some (.slice E)) {c0 : Value} (hc : Cell.okWide Tryz.prog w r b0 T c0) : ∀ a n m, [c0] = [Value.slice (some a) n m] → a.spot = none := by
  intro a n m e
  simp only [List.cons.injEq, and_true] at e
  subst e
  simp only [Cell.okWide, hT, Cell.ok] at hc
  exact hc.2.2.2.1
theorem open_book {r : Reach} {b0 : Nat} {v : Value} {d : DataW H} {ps : List MemPlace} (hval : Value.okWide Tryz.prog w r b0 40 v) (hd : DataW.Trod enc Tryz.prog w base spare held 40 v d ps) :
    ∃ (z1 z2 z3 z4 z5 z6 : Int) (s : Value) (n : Nat) (l : List Int), v = .agg #[.int .i64 z1, .int .i64 z2, .int .i64 z3, .int .i64 z4, .int .i64 z5, .int .i64 z6, s] ∧ l.length = n * 10 ∧ Arg w s n (ints l) := by
  simp only [Value.okWide, Tryz.underlying40] at hval
  obtain ⟨cs, rfl, hsz, ts, hts, _, hcell⟩ := hval
  rw [cellsOf40] at hsz
  obtain ⟨c0, c1, c2, c3, c4, c5, c6, rfl⟩ : ∃ c0 c1 c2 c3 c4 c5 c6, cs = #[c0, c1, c2, c3, c4, c5, c6] := by
    obtain ⟨l⟩ := cs
    match l, hsz with
    | [a, b, c, d, e, f, g], _ => exact ⟨a, b, c, d, e, f, g, rfl⟩
  obtain ⟨fuel, hf⟩ := hd
  obtain ⟨xs, n, _, _, _, hlen, hfs⟩ := DataW.trod_struct Tryz.underlying40 hf
  have e0 : DataW.trod enc Tryz.prog w base spare held n 3 (List.take (Tryz.prog.cellsOf 3) (List.drop 0 (Value.agg #[c0, c1, c2, c3, c4, c5, c6]).cells.toList)) = xs[0]? := hfs 0 _ rfl
  have e1 : DataW.trod enc Tryz.prog w base spare held n 3 (List.take (Tryz.prog.cellsOf 3) (List.drop 1 (Value.agg #[c0, c1, c2, c3, c4, c5, c6]).cells.toList)) = xs[1]? := hfs 1 _ rfl
  have e2 : DataW.trod enc Tryz.prog w base spare held n 3 (List.take (Tryz.prog.cellsOf 3) (List.drop 2 (Value.agg #[c0, c1, c2, c3, c4, c5, c6]).cells.toList)) = xs[2]? := hfs 2 _ rfl
  have e3 : DataW.trod enc Tryz.prog w base spare held n 3 (List.take (Tryz.prog.cellsOf 3) (List.drop 3 (Value.agg #[c0, c1, c2, c3, c4, c5, c6]).cells.toList)) = xs[3]? := hfs 3 _ rfl
  have e4 : DataW.trod enc Tryz.prog w base spare held n 3 (List.take (Tryz.prog.cellsOf 3) (List.drop 4 (Value.agg #[c0, c1, c2, c3, c4, c5, c6]).cells.toList)) = xs[4]? := hfs 4 _ rfl
  have e5 : DataW.trod enc Tryz.prog w base spare held n 3 (List.take (Tryz.prog.cellsOf 3) (List.drop 5 (Value.agg #[c0, c1, c2, c3, c4, c5, c6]).cells.toList)) = xs[5]? := hfs 5 _ rfl
  have e6 : DataW.trod enc Tryz.prog w base spare held n 38 (List.take (Tryz.prog.cellsOf 38) (List.drop 6 (Value.agg #[c0, c1, c2, c3, c4, c5, c6]).cells.toList)) = xs[6]? := hfs 6 _ rfl
  have hlen3 : xs.length = 7 := hlen
  rw [List.getElem?_eq_getElem (by omega)] at e0
  rw [List.getElem?_eq_getElem (by omega)] at e1
  rw [List.getElem?_eq_getElem (by omega)] at e2
  rw [List.getElem?_eq_getElem (by omega)] at e3
  rw [List.getElem?_eq_getElem (by omega)] at e4
  rw [List.getElem?_eq_getElem (by omega)] at e5
  rw [List.getElem?_eq_getElem (by omega)] at e6
  simp only [cellsOf3, cellsOf38, Value.cells, List.drop_zero, List.take_succ_cons, List.take_zero, List.drop_succ_cons] at e0 e1 e2 e3 e4 e5 e6
  obtain ⟨z0, y0⟩ := int_rec rfl e0
  obtain ⟨z1, y1⟩ := int_rec rfl e1
  obtain ⟨z2, y2⟩ := int_rec rfl e2
  obtain ⟨z3, y3⟩ := int_rec rfl e3
  obtain ⟨z4, y4⟩ := int_rec rfl e4
  obtain ⟨z5, y5⟩ := int_rec rfl e5
  have hct : Tryz.prog.cellTypes Tryz.prog.depth 40 = some [3, 3, 3, 3, 3, 3, 38] := by kernel_rfl
  rw [hct] at hts
  cases hts
  have k6 : Cell.okWide Tryz.prog w r b0 38 c6 := by
    obtain ⟨u, hu, hc⟩ := hcell 6 _ rfl
    simp at hu; subst hu; exact hc
  obtain ⟨s, m, l, q1, n1, A1⟩ := open_recs Tryz.underlying38 cellsOf62 (by decide) (fun _ _ _ hc ht => line_rec hc ht) e6 (no_spot Tryz.underlying38 k6)
  cases y0; cases y1; cases y2; cases y3; cases y4; cases y5; cases q1
  exact ⟨z0, z1, z2, z3, z4, z5, _, m, l, rfl, n1, A1⟩
end
end Go.AX.Sa

namespace Go.AX.Sa
open Go.Proofs Go.RowKit
set_option maxRecDepth 100000
def blkOf (c : List Value) (e : TypeId) : Blk := if c = [] then .dead else .cells c e false
def G0 : Blk := .cells (ints [960, 48, 4, 1]) 79 false
def G1 : Blk := .cells (ints [999, 19, 11, 3]) 79 false
def hA (B9 Ba : Blk) : Heap := { n := 11, bs := .ofL (Ba :: B9 :: (List.replicate 7 .dead ++ [G1, G0])) }
theorem get_ofL' : ∀ (l : List Blk) (i : Nat), (Bt.ofL l).get i = l[i]? := by
  intro l
  induction l with
  | nil => intro i; rfl
  | cons b l ih =>
    intro i
    simp only [Bt.ofL]
    cases i with
    | zero => exact (Bt.get_cons _ _).1
    | succ i => rw [(Bt.get_cons _ _).2 i, ih]; simp
theorem hA_get {B9 Ba : Blk} {A : Nat} {b : Blk} (h : (hA B9 Ba).get? A = some b) : (A = 0 ∧ b = G0) ∨ (A = 1 ∧ b = G1) ∨ (A = 9 ∧ b = B9) ∨ (A = 10 ∧ b = Ba) ∨ b = .dead := by
  unfold Heap.get? hA at h
  dsimp only at h
  split at h
  · rename_i hA
    rw [get_ofL'] at h
    match A, hA, h with
    | 2, _, h | 3, _, h | 4, _, h | 5, _, h | 6, _, h | 7, _, h | 8, _, h => simp at h; exact .inr (.inr (.inr (.inr h.symm)))
    | 0, _, h => simp at h; exact .inl ⟨rfl, h.symm⟩
    | 1, _, h => simp at h; exact .inr (.inl ⟨rfl, h.symm⟩)
    | 9, _, h => simp at h; exact .inr (.inr (.inl ⟨rfl, h.symm⟩))
    | 10, _, h => simp at h; exact .inr (.inr (.inr (.inl ⟨rfl, h.symm⟩)))
  · cases h
theorem hA_0 (B9 Ba : Blk) : (hA B9 Ba).get? 0 = some G0 := by unfold Heap.get? hA; dsimp only; rw [if_pos (by omega), get_ofL']; rfl
theorem hA_1 (B9 Ba : Blk) : (hA B9 Ba).get? 1 = some G1 := by unfold Heap.get? hA; dsimp only; rw [if_pos (by omega), get_ofL']; rfl
theorem hA_9 (B9 Ba : Blk) : (hA B9 Ba).get? 9 = some B9 := by unfold Heap.get? hA; dsimp only; rw [if_pos (by omega), get_ofL']; rfl
theorem hA_glob (B9 Ba : Blk) : Glob (hA B9 Ba) := ⟨hA_0 _ _, hA_1 _ _⟩
def rhoA (s9 sa : Slot) : Ren := fun A => if A < 9 then some ⟨A, 0, 0⟩ else if A = 9 then some s9 else if A = 10 then some sa else none
theorem rhoA_lt {s9 sa : Slot} {A : Nat} {s : Slot} (h : rhoA s9 sa A = some s) : A < 11 := by
  unfold rhoA at h
  split at h
  · omega
  · split at h
    · omega
    · split at h
      · omega
      · cases h
def slotOf (v : Value) : Slot :=
  match v with
  | .slice (some a) _ cap => ⟨a.block, a.off, cap⟩
  | _ => ⟨0, 0, 0⟩
def absOf (B : Nat) (v : Value) : Option Addr × Nat :=
  match v with
  | .slice (some _) _ _ => (some ⟨B, 0, none⟩, anyCap)
  | _ => (none, 0)
theorem blk_br {ρ : Ren} {w : World} {v : Value} {n : Nat} {c : List Value} {e : TypeId} (hA : Arg w v n c) (hi : ∀ u ∈ c, ∃ z, u = Value.int .i64 z) (hc : n = 0 → c = []) : BR Tryz.prog ρ w (slotOf v) (blkOf c e) := by
  unfold blkOf
  split
  · exact .dead
  · rename_i hne
    rcases hA with ⟨_, h, _⟩ | ⟨b, o, cap, rfl, _, hcell⟩
    · exact absurd h hne
    · obtain ⟨u0, hu0⟩ : ∃ u, c[0]? = some u := by cases c with
        | nil => exact absurd rfl hne
        | cons a l => exact ⟨a, rfl⟩
      have h0 := hcell 0 u0 hu0
      obtain ⟨cur, t, fr, hw⟩ : ∃ cur t fr, w.heap[b]? = some (.cells cur t fr) := by
        unfold World.cell? at h0
        simp only at h0
        split at h0
        · rename_i cs t fr hw; exact ⟨cs, t, fr, hw⟩
        · cases h0
      refine .ro cur t fr hw fun i v hv => ?_
      obtain ⟨z, rfl⟩ := hi v (List.mem_of_getElem? hv)
      refine ⟨rfl, .int .i64 z, ?_, .int _ _⟩
      have h1 := hcell i _ hv
      unfold World.cell? at h1
      simp only [hw] at h1
      exact h1
theorem R_A {w : World} (hg : GoodW w) {v9 va : Value} {B9 Ba : Blk} (h9 : ∀ ρ, BR Tryz.prog ρ w (slotOf v9) B9) (ha : ∀ ρ, BR Tryz.prog ρ w (slotOf va) Ba)
    (o9 : B9 = .dead ∨ ∃ c e, B9 = .cells c e false) (oa : Ba = .dead ∨ ∃ c e, Ba = .cells c e false) :
    R Tryz.prog (fun g => g < w.heap.size) w (rhoA (slotOf v9) (slotOf va)) (hA B9 Ba) w where
  below := Kept.refl _ _
  size := fun g h => h
  dom := fun A s e => rhoA_lt e
  glob := fun g h => ⟨⟨g, 0, 0⟩, by rw [gSize] at h; unfold rhoA; rw [if_pos h], rfl, rfl⟩
  blk := fun A s b e f => by
    rcases hA_get f with ⟨rfl, rfl⟩ | ⟨rfl, rfl⟩ | ⟨rfl, rfl⟩ | ⟨rfl, rfl⟩ | rfl
    · cases e; exact (glob_br hg).1
    · cases e; exact (glob_br hg).2
    · cases e; exact h9 _
    · cases e; exact ha _
    · exact .dead
  mine := fun A s b e f ho => by
    rcases hA_get f with ⟨_, rfl⟩ | ⟨_, rfl⟩ | ⟨_, rfl⟩ | ⟨_, rfl⟩ | rfl
    · cases ho
    · cases ho
    · rcases o9 with rfl | ⟨_, _, rfl⟩ <;> cases ho
    · rcases oa with rfl | ⟨_, _, rfl⟩ <;> cases ho
    · cases ho
  inj := fun A B s t b c ea eb fa fb ho hl hAB => by
    rcases hA_get fa with ⟨_, rfl⟩ | ⟨_, rfl⟩ | ⟨_, rfl⟩ | ⟨_, rfl⟩ | rfl
    · cases ho
    · cases ho
    · rcases o9 with rfl | ⟨_, _, rfl⟩ <;> cases ho
    · rcases oa with rfl | ⟨_, _, rfl⟩ <;> cases ho
    · cases ho
theorem blkOf_ro (c : List Value) (e : TypeId) : blkOf c e = .dead ∨ ∃ c' e', blkOf c e = .cells c' e' false := by
  unfold blkOf; split
  · exact .inl rfl
  · exact .inr ⟨_, _, rfl⟩
theorem good_safe {w : World} (hg : GoodW w) : Safe GoodW (fun g => g < w.heap.size) w := by
  intro w' hk
  have keep : ∀ n g c, Tryz.prog.globalNamed n = some g → w.var? Tryz.prog n = some c → w'.var? Tryz.prog n = some c := by
    intro n g c hn hv
    obtain ⟨t, fr, hw⟩ := heap_of_var hn hv
    have hlt : g < w.heap.size := (Array.getElem?_eq_some_iff.1 hw).1
    have := hk.block g hlt
    unfold World.var? at hv ⊢
    rw [hn] at hv ⊢
    simp only [Option.bind_some] at hv ⊢
    rw [this]; exact hv
  exact ⟨keep _ _ _ gWorth hg.1, keep _ _ _ gHighest hg.2.1, keep _ _ _ gWords hg.2.2.1, keep _ _ _ gPow hg.2.2.2⟩
theorem vr_slice {w : World} {v : Value} {n : Nat} {c : List Value} {ρ : Ren} {B : Nat} (hA : Arg w v n c) (hρ : ρ B = some (slotOf v)) : VR ρ (.slice (absOf B v).1 n (absOf B v).2) v := by
  rcases hA with ⟨rfl, _, rfl⟩ | ⟨b, o, cap, rfl, hle, _⟩
  · exact .nilSlice 0 0
  · exact .slice ⟨b, o, cap⟩ hρ rfl (by simp) (.inr (.inr ⟨Nat.le_refl _, by simp [absOf], hle⟩))
theorem rd_of {w : World} {v : Value} {n B : Nat} {c : List Value} {e : TypeId} {h : Heap} (hA : Arg w v n c) (hg : h.get? B = some (blkOf c e)) : Rd h (absOf B v).1 c := by
  by_cases hc : c = []
  · exact .inl hc
  · rcases hA with ⟨_, h, _⟩ | ⟨b, o, cap, rfl, _, _⟩
    · exact absurd h hc
    · refine .inr ⟨B, e, false, rfl, ?_⟩
      rw [hg]; unfold blkOf; rw [if_neg hc]
theorem ints_int (l : List Int) : ∀ u ∈ ints l, ∃ z, u = Value.int .i64 z := by
  intro u h
  obtain ⟨z, _, rfl⟩ := List.mem_map.1 h
  exact ⟨z, rfl⟩
theorem KO_noK : NoK KO := fun f a h hf => KO_no f a h hf
theorem KO_kn : Kn KO := fun h => KO_known h
theorem abs_lt {B : Nat} {v : Value} {n : Nat} (hB : B < n) : ∀ a, (absOf B v).1 = some a → a.block < n := by
  intro a e
  unfold absOf at e
  split at e
  · cases e; exact hB
  · cases e
theorem nil_of {l : List Int} {n k : Nat} (h : l.length = n * k) (e : n = 0) : ints l = [] := by
  subst e
  rw [Nat.zero_mul] at h
  rw [List.length_eq_zero_iff.1 h]; rfl
def Done (f : FuncId) (args : Array Value) (w : World) : Prop := Calls Tryz.prog f args w fun e w' => e = .returned (.bool true) ∧ Below w.heap.size w w'
theorem lr_ints {ρ : Ren} : ∀ l : List Int, LR ρ (ints l) (ints l) := by
  intro l
  induction l with
  | nil => exact LR.nil ρ
  | cons z l ih => exact LR.cons (.int _ _) ih
theorem book_ints (zs : List Int) {f : FuncId} {w : World} (hg : GoodW w) {z1 z2 z3 z4 z5 z6 : Int} {s : Value} {n : Nat} {l : List Int} (hl : l.length = n * 10) (hA1 : Arg w s n (ints l))
    (H : ∀ (p : Option Addr) (k : Nat) (h : Heap), Glob h → Rd h p (ints l) → (∀ a, p = some a → a.block < h.n) → CallW Tryz.prog KO f (.agg #[.int .i64 z1, .int .i64 z2, .int .i64 z3, .int .i64 z4, .int .i64 z5, .int .i64 z6, .slice p n k] :: ints zs).toArray h fun v _ => v = .bool true) :
    Done f (.agg #[.int .i64 z1, .int .i64 z2, .int .i64 z3, .int .i64 z4, .int .i64 z5, .int .i64 z6, s] :: ints zs).toArray w := by
  obtain ⟨_, r, hh, hr, rfl⟩ := H (absOf 9 s).1 (absOf 9 s).2 (hA (blkOf (ints l) 62) .dead) (hA_glob _ _) (rd_of hA1 (hA_9 _ _)) (abs_lt (by show 9 < 11; decide))
  refine run_calls_plain hmx known_ok rfl hr (R_A hg (v9 := s) (va := undef) (fun ρ => blk_br hA1 (ints_int l) (nil_of hl)) (fun ρ => .dead) (blkOf_ro _ _) (.inl rfl)) ?_ (good_safe hg)
  exact LR.cons (VR.agg' (LR.cons (.int _ _) (LR.cons (.int _ _) (LR.cons (.int _ _) (LR.cons (.int _ _) (LR.cons (.int _ _) (LR.cons (.int _ _) (LR.cons (vr_slice hA1 rfl) (LR.nil _))))))))) (lr_ints zs)
end Go.AX.Sa
