/- slices.Insert of a number is one step of the reading, as the library's shelf tells it. -/
import Derived.Test.YtjdopbcoaocllaaGreatDoorAxE
import Derived.Laws.IdiomCopy
import Derived.Deep.Upon
import Derived.Laws.Append
import Derived.Test.YtjdopbcoaocllaaGreatDoorAxG
import Derived.Test.YtjdopbcoaocllaaGreatDoorProg
import Derived.KernelRfl
import Derived.Ground.Names2Prog
import Derived.Shelf.Spec.SlicesInsertGrow
namespace Go.AX
open Go.RowKit

/-! slices.Insert of one number, as the library's shelf tells it: the reading gives the old row up and lays a new one. -/
section
variable {P : Program} {N : Nat → Prop} {w0 : World} {ρ : Ren} {h : Heap} {w : World}

/-- What cells that are set one by one are. -/
theorem zbL (g : Nat) (e : TypeId) (fr : Nat × Nat) : ∀ (vs : List Value) (o : Nat) (w : World) (cur : Array Value), w.heap[g]? = some (.cells cur e fr) → o + vs.length ≤ cur.size →
    ∃ cur', (w.setCells g o vs).heap[g]? = some (.cells cur' e fr) ∧ cur'.size = cur.size ∧ (∀ j, cur'[j]? = if o ≤ j ∧ j < o + vs.length then vs[j - o]? else cur[j]?) ∧
      (w.setCells g o vs).os = w.os ∧ (w.setCells g o vs).tape = w.tape ∧ (w.setCells g o vs).output = w.output ∧ (w.setCells g o vs).heap.size = w.heap.size ∧ ∀ k, k ≠ g → (w.setCells g o vs).heap[k]? = w.heap[k]? := by
  intro vs
  induction vs with
  | nil =>
    intro o w cur hw _
    refine ⟨cur, hw, rfl, fun j => ?_, rfl, rfl, rfl, rfl, fun _ _ => rfl⟩
    rw [if_neg (by simp)]
  | cons v vs ih =>
    intro o w cur hw hl
    simp only [List.length_cons] at hl
    have hw1 : (w.setCell ⟨g, o, none⟩ v).heap[g]? = some (.cells (cur.setIfInBounds o v) e fr) := by
      unfold World.setCell
      simp [Array.getElem?_modify, hw]
    obtain ⟨cur', h1, h2, h3, h4, h5, h6, h7, h8⟩ := ih (o + 1) (w.setCell ⟨g, o, none⟩ v) _ hw1 (by simp; omega)
    refine ⟨cur', h1, by rw [h2]; simp, fun j => ?_, h4.trans rfl, h5.trans rfl, h6.trans rfl, h7.trans (by unfold World.setCell; simp), fun k hk => (h8 k hk).trans ?_⟩
    · rw [h3 j]
      by_cases c1 : o + 1 ≤ j ∧ j < o + 1 + vs.length
      · rw [if_pos c1, if_pos (by simp only [List.length_cons]; omega), show j - o = (j - (o + 1)) + 1 by omega]
        rfl
      · rw [if_neg c1, Array.getElem?_setIfInBounds]
        by_cases c2 : o = j
        · subst c2
          rw [if_pos rfl, if_pos (by omega), if_pos (by simp)]
          simp
        · rw [if_neg c2, if_neg (by simp only [List.length_cons]; omega)]
    · unfold World.setCell
      simp [Array.getElem?_modify, Ne.symm hk]
/-- A call that comes to a value, where the world becomes such a one. -/
theorem zfJ {f : FuncId} {args : Array Value} {v : Value} {h h1 : Heap} {up : FrameMode}
    (k : ∀ ρ args' w, R P N w0 ρ h w → XR ρ args args' → ∃ Q : Ending → World → Prop, Calls P f args' w Q ∧ ∀ e w', Q e w' → ∃ v' ρ1, e = .returned v' ∧ Le ρ ρ1 ∧ (∀ A, A < h.n → ρ1 A = ρ A) ∧ R P N w0 ρ1 h1 w' ∧ VR ρ1 v v') : SimCall P N w0 f args false up h (.ret v) up h1 := by
  intro ρ args' cs0 cs w r ha hcs
  obtain ⟨Q, hc, hq⟩ := k ρ args' w r ha
  obtain ⟨e', w', fr, he, hco, hfn, hl⟩ := hc cs
  obtain ⟨v', ρ1, rfl, h1, h2, h3, h4⟩ := hq _ _ he
  have hcs' : cs = cs0 := by simpa [CsR] using hcs
  subst hcs'
  exact ⟨ρ1, cs, w', .returned v', fr, h1, h2, h3, by simp [CsR], h4, hco, by simpa using hl.2.2.1, hfn, hl.1, hl.2.1, hl.2.2.2⟩

def isInt : Value → Bool
  | .int .i64 _ => true
  | _ => false
/-- The row with one number more. -/
def insRow (cs : List Value) (i : Nat) (v : Value) : List Value := cs.take i ++ v :: cs.drop i
def insK (it : TypeId) (args : Array Value) (h : Heap) : Option (Value × List (List Value × TypeId)) :=
  match args.toList with
  | [.slice (some ⟨b, 0, none⟩) n c, .int .i64 i, .slice (some ⟨vb, 0, none⟩) 1 1] =>
    match h.get? b, h.get? vb with
    | some (.cells cs e true), some (.cells [.int .i64 v] e2 true) =>
      if (c = unk ∧ 0 ≤ i ∧ i ≤ n ∧ 0 < n ∧ n ≤ 1000) ∧ cs.length = n ∧ e = it ∧ e2 = it ∧ b ≠ vb ∧ cs.all isInt = true then
        some (.slice (some ⟨h.n, 0, none⟩) (n + 1) unk, [([.int .i64 b], killT), (insRow cs i.toNat (.int .i64 v), it)])
      else none
    | _, _ => none
  | _ => none
theorem zjs (cs : List Value) (i : Nat) (v : Value) (hi : i ≤ cs.length) : (insRow cs i v).length = cs.length + 1 := by
  simp only [insRow, List.length_append, List.length_take, List.length_cons, List.length_drop]; omega
theorem zcy {cs : List Value} {i : Nat} {v : Value} (hi : i ≤ cs.length) (j : Nat) : (insRow cs i v)[j]? = if j < i then cs[j]? else if j = i then some v else cs[j - 1]? := by
  unfold insRow
  rw [List.getElem?_append]
  have hl : (cs.take i).length = i := by rw [List.length_take]; omega
  rw [hl]
  by_cases h1 : j < i
  · rw [if_pos h1, if_pos h1, List.getElem?_take, if_pos h1]
  · rw [if_neg h1, if_neg h1]
    by_cases h2 : j = i
    · subst h2; rw [if_pos rfl, Nat.sub_self]; rfl
    · rw [if_neg h2, show j - i = (j - i - 1) + 1 by omega, List.getElem?_cons_succ, List.getElem?_drop]
      congr 1; omega
theorem zii {ρ : Ren} {v v' : Value} (h : VR ρ v v') (k : isInt v = true) : v' = v := by
  cases h <;> simp_all [isInt]
theorem zfm {v : Value} (k : isInt v = true) : ∃ n, v = .int .i64 n := by
  unfold isInt at k
  split at k
  · exact ⟨_, rfl⟩
  · cases k

/-- What the shelf says of it, in its four ways. -/
structure Inserts (P : Program) (f : FuncId) (it : TypeId) : Prop where
  size : sizeB P it = some 1
  byte : byteT P it = false
  kt : Nat.beq it killT = false
  tt : Nat.beq it turnT = false
  shift : ∀ (b off n c i vb voff m vc : Nat) (cs vs : List Value) (w : World) (_ : i < n) (_ : 0 < m) (_ : n + m ≤ c) (_ : c ≤ 9223372036854775807) (_ : vb ≠ b) (_ : cs.length = n) (_ : vs.length = m)
    (_ : ∀ j v, cs[j]? = some v → w.cell? ⟨b, off + j, none⟩ = some v) (_ : ∀ j, j < n + m → (w.cell? ⟨b, off + j, none⟩).isSome = true) (_ : ∀ j, j < n + m → w.frozen? ⟨b, off + j, none⟩ = false)
    (_ : ∀ j v, vs[j]? = some v → w.cell? ⟨vb, voff + j, none⟩ = some v) (_ : ∀ v ∈ cs, v.oneCell' = true) (_ : ∀ v ∈ vs, v.oneCell' = true)
    (tA tB : TypeId) (kA kB : Nat) (_ : w.shape? vb = some (tA, kA)) (_ : w.shape? b = some (tB, kB)) (_ : kB ≠ 0) (_ : w.frozen? ⟨vb, voff, none⟩ = false) (_ : w.frozen? ⟨vb, kA, none⟩ = false),
    Calls P f #[.slice (some ⟨b, off, none⟩) n c, .int .i64 i, .slice (some ⟨vb, voff, none⟩) m vc] w fun e w' =>
      e = .returned (.slice (some ⟨b, off, none⟩) (n + m) c) ∧ w' = (w.drew.setCells b (off + (i + m)) (cs.drop i)).setCells b (off + i) vs
  endRoom : ∀ (b off n c vb voff m vc : Nat) (vs : List Value) (w : World) (_ : 0 < m) (_ : n + m ≤ c) (_ : c ≤ 9223372036854775807) (_ : vs.length = m)
    (_ : ∀ j, j < m → (w.cell? ⟨b, off + n + j, none⟩).isSome = true) (_ : ∀ j, j < m → w.frozen? ⟨b, off + n + j, none⟩ = false)
    (_ : ∀ j v, vs[j]? = some v → w.cell? ⟨vb, voff + j, none⟩ = some v) (_ : ∀ v ∈ vs, v.oneCell' = true),
    Calls P f #[.slice (some ⟨b, off, none⟩) n c, .int .i64 n, .slice (some ⟨vb, voff, none⟩) m vc] w fun e w' =>
      e = .returned (.slice (some ⟨b, off, none⟩) (n + m) c) ∧ w' = w.setCells b (off + n) vs
  endGrow : ∀ (base : Option Addr) (n c vb voff m vc : Nat) (cs vs : List Value) (w : World) (_ : 0 < m) (_ : n ≤ c) (_ : c < n + m) (_ : (n + m) * 8 ≤ 140737488355328) (_ : cs.length = n) (_ : vs.length = m) (_ : base = none → n = 0)
    (_ : ∀ a, base = some a → ∀ j v, cs[j]? = some v → w.cell? (a.add j) = some v) (_ : ∀ j v, vs[j]? = some v → w.cell? ⟨vb, voff + j, none⟩ = some v) (_ : ∀ v ∈ vs, v.oneCell' = true),
    Calls P f #[.slice base n c, .int .i64 n, .slice (some ⟨vb, voff, none⟩) m vc] w fun e w' =>
      e = .returned (.slice (some ⟨w.heap.size, 0, none⟩) (n + m) (grownCap w (n + m) c it)) ∧
      w' = w.drew.alloc (.cells ((cs ++ vs).toArray ++ Builtin.zeroCells (Value.int .i64 0).cells (grownCap w (n + m) c it - (n + m))) it)
  grow : ∀ (b off n c i vb voff m vc : Nat) (cs vs : List Value) (w : World) (_ : i < n) (_ : 0 < m) (_ : n ≤ c) (_ : c < n + m) (_ : (n + m) * 8 ≤ 140737488355328) (_ : cs.length = n) (_ : vs.length = m)
    (_ : ∀ j v, cs[j]? = some v → w.cell? ⟨b, off + j, none⟩ = some v) (_ : ∀ j v, vs[j]? = some v → w.cell? ⟨vb, voff + j, none⟩ = some v) (_ : ∀ v ∈ cs, v.oneCell' = true) (_ : ∀ v ∈ vs, v.oneCell' = true),
    Calls P f #[.slice (some ⟨b, off, none⟩) n c, .int .i64 i, .slice (some ⟨vb, voff, none⟩) m vc] w fun e w' =>
      e = .returned (.slice (some ⟨w.heap.size, 0, none⟩) (n + m) (grownCap w (n + m) c it)) ∧
      w' = (((w.alloc (.cells ((cs.take i).toArray ++ Builtin.zeroCells (Value.int .i64 0).cells (n + m - i) ++ Builtin.zeroCells (Value.int .i64 0).cells (grownCap w (n + m) c it - (n + m))) it)).drew.setCells w.heap.size i vs).drew).setCells w.heap.size (i + m) (cs.drop i)

theorem ints_LR {ρ : Ren} {l : List Value} (h : ∀ v ∈ l, isInt v = true) : LR ρ l l :=
  ⟨rfl, fun i v v' a b => by
    rw [a] at b
    cases b
    obtain ⟨n, rfl⟩ := zfm (h v (List.mem_of_getElem? a))
    exact .int _ _⟩
theorem zgo {v : Value} (h : isInt v = true) : v.oneCell' = true ∧ oneB v = true := by
  obtain ⟨n, rfl⟩ := zfm h
  exact ⟨rfl, rfl⟩
theorem ins_sim {f : FuncId} {it : TypeId} (I : Inserts P f it) {args : Array Value} {v : Value} {l : List (List Value × TypeId)} {up : FrameMode} (he : insK it args h = some (v, l)) : SimCall P N w0 f args false up h (.ret v) up (pushAll h l) := by
  unfold insK at he
  split at he
  case h_2 => cases he
  case h_1 b n c i vb hargs =>
  split at he
  case h_2 => cases he
  case h_1 cs e v0 e2 hb hvb =>
  split at he
  case isFalse => cases he
  case isTrue hc =>
  obtain ⟨⟨rfl, hi0, hin, hn0, hn1⟩, hlen, hq1, hq2, hbv, hint⟩ := hc
  subst hq1
  obtain rfl := hq2.symm
  cases he
  obtain ⟨k, rfl⟩ : ∃ k : Nat, i = (k : Int) := ⟨i.toNat, by omega⟩
  rw [Int.toNat_natCast]
  have hk : k ≤ cs.length := by omega
  have hpush : pushAll h [([.int .i64 (b : Int)], killT), (insRow cs k (.int .i64 v0), e)] = (h.set b .dead).push (.cells (insRow cs k (.int .i64 v0)) e true) := by
    simp [pushAll, layB, killed, I.kt, I.tt]
  rw [hpush]
  have hrl := zjs cs k (.int .i64 v0) hk
  have hall : ∀ u ∈ insRow cs k (.int .i64 v0), isInt u = true := by
    intro u hu
    rw [List.all_eq_true] at hint
    unfold insRow at hu
    rcases List.mem_append.1 hu with q | q
    · exact hint u (List.mem_of_mem_take q)
    · rcases List.mem_cons.1 q with rfl | q
      · rfl
      · exact hint u (List.mem_of_mem_drop q)
  refine zfJ fun ρ args' w r ha => ?_
  obtain ⟨x', y', rfl, hx, hy⟩ : ∃ x' y', args' = #[x', .int .i64 (k : Int), y'] ∧ VR ρ (.slice (some ⟨b, 0, none⟩) n unk) x' ∧ VR ρ (.slice (some ⟨vb, 0, none⟩) 1 1) y' := by
    have ha' : LR ρ args.toList args'.toList := ha
    rw [hargs] at ha'
    obtain ⟨l1, l2⟩ := ha'
    obtain ⟨x', z', y', hl⟩ : ∃ x' z' y', args'.toList = [x', z', y'] := by
      match hh : args'.toList, l1 with
      | [a1, a2, a3], _ => exact ⟨a1, a2, a3, rfl⟩
    have q1 := l2 0 _ x' rfl (by rw [hl]; rfl)
    have q2 := l2 1 _ z' rfl (by rw [hl]; rfl)
    have q3 := l2 2 _ y' rfl (by rw [hl]; rfl)
    cases q2
    exact ⟨x', y', by apply Array.ext'; rw [hl], q1, q3⟩
  cases hx with
  | slice0 _ _ _ => omega
  | slice s hs h1 h2 hcp =>
  subst h2
  rename_i c'
  dsimp only at hs
  rcases hcp with ⟨q, _⟩ | ⟨_, hlc, _, hd, hcc, hcb⟩ | ⟨q, _⟩
  · exact absurd q (Nat.lt_irrefl _)
  · cases hy with
    | slice t ht ht1 ht2 htc =>
    subst ht2
    dsimp only at ht
    rcases htc with ⟨_, htc⟩ | ⟨q, _⟩ | ⟨q, _⟩
    · subst htc
      have hmine := r.mine b s _ hs hb rfl
      have hne : t.g ≠ s.g := fun q => r.inj b vb s t _ _ hs ht hb hvb rfl rfl hbv q.symm
      have hB1 := r.blk b s _ hs hb
      have hB2 := r.blk vb t _ ht hvb
      cases hB1 with
      | own cur fr hd' hw hf hsz hcell =>
      cases hB2 with
      | own cur2 fr2 hd2 hw2 hf2 hsz2 hcell2 =>
      have hcs : cur.size = c' := by rw [hsz, zcu I.size, Nat.mul_one, hcc]
      have hcur : ∀ (j : Nat) u, cs[j]? = some u → cur[j]? = some u := fun j u hu => by
        obtain ⟨_, u', q1, q2⟩ := hcell j u hu
        rw [zii q2 (List.all_eq_true.1 hint u (List.mem_of_getElem? hu))] at q1
        exact q1
      have hv2 : cur2[0]? = some (.int .i64 v0) := by
        obtain ⟨_, u', q1, q2⟩ := hcell2 0 _ rfl
        rw [zii q2 rfl] at q1
        exact q1
      have k1 : ∀ (j : Nat) u, cs[j]? = some u → w.cell? ⟨s.g, 0 + s.d + j, none⟩ = some u := fun j u hu => by
        rw [zcM hw, hd]; simp only [Nat.zero_add]; exact hcur j u hu
      have k2 : ∀ (j : Nat) u, ([.int .i64 v0] : List Value)[j]? = some u → w.cell? ⟨t.g, 0 + t.d + j, none⟩ = some u := fun j u hu => by
        rw [zcM hw2, hd2]; simp only [Nat.zero_add]
        cases j with
        | zero => rw [hv2]; exact hu
        | succ j => cases hu
      have k3 : ∀ u ∈ cs, u.oneCell' = true := fun u hu => (zgo (List.all_eq_true.1 hint u hu)).1
      have k4 : ∀ u ∈ ([.int .i64 v0] : List Value), u.oneCell' = true := fun u hu => by
        rcases List.mem_singleton.1 hu with rfl; rfl
      have froz : ∀ j, w.frozen? ⟨s.g, j, none⟩ = false := fun j => zec hw (hf j (.inr I.byte))
      have froz2 : ∀ j, w.frozen? ⟨t.g, j, none⟩ = false := fun j => zec hw2 (hf2 j (.inr I.byte))
      by_cases hroom : n + 1 ≤ c'
      · -- there is room: the row is taken over
        have fin : ∀ (w' : World) (cur' : Array Value), w'.heap[s.g]? = some (.cells cur' e fr) → cur'.size = cur.size → (∀ j, j < n + 1 → cur'[j]? = (insRow cs k (.int .i64 v0))[j]?) → w'.os = w.os → w'.tape = w.tape → w'.output = w.output → w'.heap.size = w.heap.size → (∀ g, g ≠ s.g → w'.heap[g]? = w.heap[g]?) →
            ∃ v' ρ1, Ending.returned (.slice (some ⟨s.g, 0 + s.d, none⟩) (n + 1) c') = .returned v' ∧ Le ρ ρ1 ∧ (∀ A, A < h.n → ρ1 A = ρ A) ∧ R P N w0 ρ1 ((h.set b .dead).push (.cells (insRow cs k (.int .i64 v0)) e true)) w' ∧ VR ρ1 (.slice (some ⟨h.n, 0, none⟩) (n + 1) unk) v' := by
          intro w' cur' p0 ps pc p1 p2 p3 p4 p5
          obtain ⟨hr1, _⟩ := r.change hs hb rfl p1 p2 p3 p4 p5 .dead .dead
          obtain ⟨hle, hr2⟩ := hr1.adopt (.cells (insRow cs k (.int .i64 v0)) e true) s hmine.1 (by rw [p4]; exact hmine.2) (by
            intro B t' c2 e1 e2 l
            rw [Heap.get_set hb] at e2
            by_cases q : B = b
            · rw [if_pos q] at e2; cases e2; simp [live] at l
            · rw [if_neg q] at e2; exact (r.inj b B s t' _ c2 hs e1 hb e2 rfl l (Ne.symm q)).symm) (by
            refine .own cur' fr hd p0 (by rw [ps]; exact hf) (by rw [ps]; exact hsz) fun j u hu => ?_
            have hj : j < n + 1 := by have := (List.getElem?_eq_some_iff.1 hu).1; omega
            obtain ⟨z, rfl⟩ := zfm (hall u (List.mem_of_getElem? hu))
            exact ⟨rfl, _, by rw [pc j hj]; exact hu, .int _ _⟩)
          exact ⟨_, _, rfl, hle, fun A hA => zbJ (h := h.set b .dead) hA, hr2, .slice s (zbn _ _ _) rfl (by rw [hd]) (.inr (.inl ⟨rfl, hroom, rfl, hd, hcc, hcb⟩))⟩
        by_cases hlast : k = n
        · subst hlast
          refine ⟨_, I.endRoom s.g (0 + s.d) k c' t.g (0 + t.d) 1 1 [.int .i64 v0] w Nat.one_pos hroom hcb rfl (fun j hj => ?_) (fun j _ => froz _) k2 k4, ?_⟩
          · rw [zcM hw, hd]
            simp only [Nat.zero_add]
            rw [Array.getElem?_eq_getElem (by omega)]; rfl
          · rintro _ w' ⟨rfl, rfl⟩
            obtain ⟨cur', q1, q2, q3, q4, q5, q6, q7, q8⟩ := zbL s.g e fr [.int .i64 v0] (0 + s.d + k) w cur hw (by rw [hd]; simp; omega)
            refine fin _ cur' q1 q2 (fun j hj => ?_) q4 q5 q6 q7 q8
            rw [q3 j, zcy (by omega), hd]
            simp only [Nat.zero_add, List.length_cons, List.length_nil]
            by_cases hjk : j < k
            · rw [if_neg (by omega), if_pos hjk]
              have hjl : j < cs.length := by omega
              rw [List.getElem?_eq_getElem hjl]
              exact hcur j _ (List.getElem?_eq_getElem hjl)
            · obtain rfl : j = k := by omega
              rw [if_pos (by omega), if_neg hjk, if_pos rfl, Nat.sub_self]; rfl
        · have hkn : k < n := by omega
          refine ⟨_, I.shift s.g (0 + s.d) n c' k t.g (0 + t.d) 1 1 cs [.int .i64 v0] w hkn Nat.one_pos hroom hcb hne hlen rfl k1 (fun j hj => ?_) (fun j _ => froz _) k2 k3 k4 e e cur2.size cur.size (by unfold World.shape?; rw [hw2]) (by unfold World.shape?; rw [hw]) (by omega) (froz2 _) (froz2 _), ?_⟩
          · rw [zcM hw, hd]
            simp only [Nat.zero_add]
            rw [Array.getElem?_eq_getElem (by omega)]; rfl
          · rintro _ w' ⟨rfl, rfl⟩
            obtain ⟨cur1, q1, q2, q3, q4, q5, q6, q7, q8⟩ := zbL s.g e fr (cs.drop k) (0 + s.d + (k + 1)) w.drew cur hw (by rw [hd, List.length_drop]; omega)
            obtain ⟨cur', r1, r2, r3, r4, r5, r6, r7, r8⟩ := zbL s.g e fr [.int .i64 v0] (0 + s.d + k) _ cur1 q1 (by rw [hd, q2]; simp; omega)
            refine fin _ cur' r1 (r2.trans q2) (fun j hj => ?_) (r4.trans q4) (r5.trans q5) (r6.trans q6) (r7.trans q7) (fun g hg => (r8 g hg).trans (q8 g hg))
            rw [r3 j, q3 j, zcy (by omega), hd, List.length_drop]
            simp only [Nat.zero_add, List.length_cons, List.length_nil]
            by_cases hjk : j < k
            · rw [if_neg (by omega), if_neg (by omega), if_pos hjk]
              have hjl : j < cs.length := by omega
              rw [List.getElem?_eq_getElem hjl]
              exact hcur j _ (List.getElem?_eq_getElem hjl)
            · rw [if_neg hjk]
              by_cases hje : j = k
              · subst hje
                rw [if_pos (by omega), if_pos rfl, Nat.sub_self]; rfl
              · rw [if_neg (by omega), if_neg hje, if_pos (by omega), List.getElem?_drop]
                congr 1; omega
      · -- it moves
        have hbig : (n + 1) * 8 ≤ 140737488355328 := by omega
        have hge := grownCap_ge w (n + 1) c' e
        have hle2 := zcJ w (n + 1) c' e (by omega)
        have fin : ∀ (w' : World) (cur' : Array Value), w'.heap[w.heap.size]? = some (.cells cur' e (0, 0)) → cur'.size = grownCap w (n + 1) c' e → (∀ j, j < n + 1 → cur'[j]? = (insRow cs k (.int .i64 v0))[j]?) → More w w' →
            ∃ v' ρ1, Ending.returned (.slice (some ⟨w.heap.size, 0, none⟩) (n + 1) (grownCap w (n + 1) c' e)) = .returned v' ∧ Le ρ ρ1 ∧ (∀ A, A < h.n → ρ1 A = ρ A) ∧ R P N w0 ρ1 ((h.set b .dead).push (.cells (insRow cs k (.int .i64 v0)) e true)) w' ∧ VR ρ1 (.slice (some ⟨h.n, 0, none⟩) (n + 1) unk) v' := by
          intro w' cur' p0 ps pc pm
          have htake : cur'.toList.take (insRow cs k (.int .i64 v0)).length = insRow cs k (.int .i64 v0) := by
            apply List.ext_getElem?
            intro j
            rw [List.getElem?_take]
            by_cases hj : j < (insRow cs k (.int .i64 v0)).length
            · rw [if_pos hj, ← pc j (by omega)]; simp
            · rw [if_neg hj, List.getElem?_eq_none (by omega)]
          obtain ⟨hle, hr2⟩ := (r.die hb).row (c := insRow cs k (.int .i64 v0)) (cur := cur') (e := e) (cap := grownCap w (n + 1) c' e) (n := 1) (by rw [htake]; exact ints_LR hall) (by omega) (by
            rw [List.all_eq_true]; exact fun u hu => (zgo (hall u hu)).2) I.size (by omega) pm (0, 0) p0 (by intro i _; simp)
          exact ⟨_, _, rfl, hle, fun A hA => zbJ (h := h.set b .dead) hA, hr2, .slice ⟨w.heap.size, 0, _⟩ (zbn _ _ _) rfl rfl (.inr (.inl ⟨rfl, hge, rfl, rfl, rfl, hle2⟩))⟩
        by_cases hlast : k = n
        · subst hlast
          refine ⟨_, I.endGrow (some ⟨s.g, 0 + s.d, none⟩) k c' t.g (0 + t.d) 1 1 cs [.int .i64 v0] w Nat.one_pos hlc (by omega) hbig hlen rfl (fun q => by cases q) (fun a q j u hu => by cases q; rw [Addr.add_lit]; exact k1 j u hu) k2 k4, ?_⟩
          rintro _ w' ⟨rfl, rfl⟩
          refine fin _ _ (Array.getElem?_push_size (xs := w.drew.heap)) ?_ (fun j hj => ?_) ((More.drew w).trans (More.alloc _ _))
          · simp only [Array.size_append, zbk, List.size_toArray, List.length_append, List.length_cons, List.length_nil]
            show cs.length + 1 + (grownCap w (k + 1) c' e - (k + 1)) * 1 = _
            omega
          · rw [Array.getElem?_append_left (by simp; omega), zcy (by omega)]
            simp only [List.getElem?_toArray, List.getElem?_append]
            by_cases hjk : j < k
            · rw [if_pos (by omega), if_pos hjk]
            · obtain rfl : j = k := by omega
              rw [if_neg (by omega), if_neg hjk, if_pos rfl, hlen, Nat.sub_self]; rfl
        · have hkn : k < n := by omega
          refine ⟨_, I.grow s.g (0 + s.d) n c' k t.g (0 + t.d) 1 1 cs [.int .i64 v0] w hkn Nat.one_pos hlc (by omega) hbig hlen rfl k1 k2 k3 k4, ?_⟩
          rintro _ w' ⟨rfl, rfl⟩
          have hA : ∀ (z : Array Value), z = (cs.take k).toArray ++ Builtin.zeroCells (Value.int .i64 0).cells (n + 1 - k) ++ Builtin.zeroCells (Value.int .i64 0).cells (grownCap w (n + 1) c' e - (n + 1)) → z.size = grownCap w (n + 1) c' e ∧ ∀ j, j < k → z[j]? = cs[j]? := by
            intro z hz
            subst hz
            refine ⟨?_, fun j hj => ?_⟩
            · simp only [Array.size_append, zbk, List.size_toArray, List.length_take]
              show min k cs.length + (n + 1 - k) * 1 + (grownCap w (n + 1) c' e - (n + 1)) * 1 = _
              omega
            · rw [Array.append_assoc, Array.getElem?_append_left (by simp; omega)]
              simp only [List.getElem?_toArray, List.getElem?_take, if_pos hj]
          obtain ⟨hA1, hA2⟩ := hA _ rfl
          have s0 : ((w.alloc (.cells ((cs.take k).toArray ++ Builtin.zeroCells (Value.int .i64 0).cells (n + 1 - k) ++ Builtin.zeroCells (Value.int .i64 0).cells (grownCap w (n + 1) c' e - (n + 1))) e)).drew).heap[w.heap.size]? = some (.cells ((cs.take k).toArray ++ Builtin.zeroCells (Value.int .i64 0).cells (n + 1 - k) ++ Builtin.zeroCells (Value.int .i64 0).cells (grownCap w (n + 1) c' e - (n + 1))) e (0, 0)) := by
            show (w.heap.push _)[w.heap.size]? = _; simp
          obtain ⟨cur1, q1, q2, q3, q4, q5, q6, q7, q8⟩ := zbL w.heap.size e (0, 0) [.int .i64 v0] k _ _ s0 (by rw [hA1]; simp only [List.length_cons, List.length_nil]; omega)
          have s1 : ∀ (W : World) (o : Option Obj), W.heap[w.heap.size]? = o → W.drew.heap[w.heap.size]? = o := fun _ _ q => q
          obtain ⟨cur', r1, r2, r3, r4, r5, r6, r7, r8⟩ := zbL w.heap.size e (0, 0) (cs.drop k) (k + 1) _ cur1 (s1 _ _ q1) (by rw [q2, hA1, List.length_drop]; omega)
          have hm0 : More w ((w.alloc (.cells ((cs.take k).toArray ++ Builtin.zeroCells (Value.int .i64 0).cells (n + 1 - k) ++ Builtin.zeroCells (Value.int .i64 0).cells (grownCap w (n + 1) c' e - (n + 1))) e)).drew) := (More.alloc _ _).trans (More.drew _)
          refine fin _ cur' r1 (r2.trans (q2.trans hA1)) (fun j hj => ?_) ⟨r4.trans (q4.trans hm0.os), r5.trans (q5.trans hm0.tape), r6.trans (q6.trans hm0.output), ?_, fun g hg => (r8 g (by omega)).trans ((q8 g (by omega)).trans (hm0.old g hg))⟩
          · rw [r3 j, q3 j, zcy (by omega), List.length_drop]
            simp only [List.length_cons, List.length_nil]
            by_cases hjk : j < k
            · rw [if_neg (by omega), if_neg (by omega), if_pos hjk, hA2 j hjk]
            · rw [if_neg hjk]
              by_cases hje : j = k
              · subst hje
                rw [if_neg (by omega), if_pos (by omega), if_pos rfl, Nat.sub_self]; rfl
              · rw [if_pos (by omega), if_neg hje, List.getElem?_drop]
                congr 1; omega
          · have e1 := r7.trans (show (World.drew _).heap.size = _ from q7)
            have e2 := hm0.size
            exact Nat.le_trans e2 (Nat.le_of_eq e1.symm)
    · exact absurd q (by decide)
    · exact absurd q (by decide)
  · exact absurd q (by decide)
end
end Go.AX

namespace Go.AX.Sa
open Go.Proofs
/-- In the closed run alone: slices.Insert of a number is one step. -/
def KI : Known := fun f a h => bif Nat.beq f 125 then insK 3 a h else none
end Go.AX.Sa

namespace Go.Proofs
open Go.Shelf
def Tryz.laysNm221_ren : Go.Shelf.Ren := ⟨fun | 21 => 125 | 27 => 149 | 28 => 150 | 35 => 160 | 39 => 166 | n => n, fun | 22 => 26 | 3 => 3 | 4 => 4 | 0 => 0 | n => n, fun | n => n⟩
theorem Tryz.laysNm221 : Go.Proofs.Lays2.n21 Tryz.prog Tryz.laysNm221_ren := {
  mixed := by kernel_rfl
  f21 := Tryz.func125.trans (congrArg some (by kernel_rfl))
  f27 := Tryz.func149.trans (congrArg some (by kernel_rfl))
  f28 := Tryz.func150.trans (congrArg some (by kernel_rfl))
  f35 := Tryz.func160.trans (congrArg some (by kernel_rfl))
  f39 := Tryz.func166.trans (congrArg some (by kernel_rfl))
  t0 := Tryz.underlying0
  a0 := Tryz.isAgg0
  z0 := Tryz.sizeOf0
  v0 := Tryz.zeroValue0
  t3 := Tryz.underlying3
  a3 := Tryz.isAgg3
  z3 := Tryz.sizeOf3
  v3 := Tryz.zeroValue3
  t4 := Tryz.underlying4
  a4 := Tryz.isAgg4
  z4 := Tryz.sizeOf4
  v4 := Tryz.zeroValue4
  t22 := Tryz.underlying26
  a22 := Tryz.isAgg26
  z22 := Tryz.sizeOf26
  v22 := Tryz.zeroValue26
  i3 := by kernel_rfl }
end Go.Proofs
namespace Go.AX.Sa
open Go.Proofs
theorem ins_ok : Inserts Tryz.prog 125 3 := {
  size := by kernel_rfl
  byte := by kernel_rfl
  kt := rfl
  tt := rfl
  shift := Any2.slices_Insert_int_shift Tryz.laysNm221
  endRoom := Any2.slices_Insert_int_end_room Tryz.laysNm221
  endGrow := Any2.slices_Insert_int_end_grow Tryz.laysNm221
  grow := Any2.slices_Insert_int_grow Tryz.laysNm221 }
theorem KI_ok (Good : World → Prop) : KOK Tryz.prog KI Good := by
  intro f args h v l he N w0 hG up
  unfold KI at he
  cases hf : Nat.beq f 125 with
  | false => rw [hf] at he; cases he
  | true =>
    rw [hf] at he
    have hf' : f = 125 := Nat.eq_of_beq_eq_true hf
    subst hf'
    exact ins_sim ins_ok he
end Go.AX.Sa
