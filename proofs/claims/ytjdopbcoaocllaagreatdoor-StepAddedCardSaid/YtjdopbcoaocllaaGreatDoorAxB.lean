/- What the reading's effects, sequences, codes and ends of calls are in the machine. -/
import Derived.Test.YtjdopbcoaocllaaGreatDoorAxA
import Derived.RangeFuncLeaves
import Derived.RangeFuncRecord
namespace Go.AX
open Go.RowKit
def Eff (P : Program) (N : Nat → Prop) (w0 : World) (ρ : Ren) (h : Heap) (w : World) (s : Sem Value) (v : Value) (h1 : Heap) : Prop :=
  ∃ ρ' v' w', Le ρ ρ' ∧ (∀ A, A < h.n → ρ' A = ρ A) ∧ R P N w0 ρ' h1 w' ∧ VR ρ' v v' ∧ s.run P w = .ok v' w' ∧ Fr ρ h w w'
section
variable {P : Program} {N : Nat → Prop} {w0 w : World} {ρ : Ren} {h : Heap}
theorem Eff.still (r : R P N w0 ρ h w) {s : Sem Value} {v v' : Value} (hr : s.run P w = .ok v' w) (hv : VR ρ v v') : Eff P N w0 ρ h w s v h :=
  ⟨ρ, v', w, Le.refl _, fun _ _ => rfl, r, hv, hr, Fr.refl _ _ _⟩
theorem zfQ (g off : Nat) (e : TypeId) (fr : Nat × Nat) : ∀ (vs : List Value) (i : Nat) (w : World) (cur : Array Value), w.heap[g]? = some (.cells cur e fr) → (∀ j, j < cur.size → ¬(fr.1 ≤ j ∧ j < fr.2)) →
    (∀ u ∈ vs, u.oneCell' = true) → off + i + vs.length ≤ cur.size →
    ∃ (w' : World) (cur' : Array Value), (storeCells ⟨g, off, none⟩ vs i).run P w = .ok () w' ∧ w'.heap[g]? = some (.cells cur' e fr) ∧ cur'.size = cur.size ∧
      (∀ j, cur'[j]? = if off + i ≤ j ∧ j < off + i + vs.length then vs[j - (off + i)]? else cur[j]?) ∧
      w'.os = w.os ∧ w'.tape = w.tape ∧ w'.output = w.output ∧ w'.heap.size = w.heap.size ∧ ∀ k, k ≠ g → w'.heap[k]? = w.heap[k]? := by
  intro vs
  induction vs with
  | nil =>
    intro i w cur hw _ _ _
    refine ⟨w, cur, by simp [storeCells], hw, rfl, fun j => ?_, rfl, rfl, rfl, rfl, fun _ _ => rfl⟩
    rw [if_neg (by simp)]
  | cons v vs ih =>
    intro i w cur hw hf h1 hle
    have hlt : off + i < cur.size := by simp at hle; omega
    have hcell : w.cell? ⟨g, off + i, none⟩ = some cur[off + i] := by rw [zcM hw]; exact Array.getElem?_eq_getElem hlt
    have hfr : w.frozen? ⟨g, off + i, none⟩ = false := zec hw (hf _ hlt)
    have hstore : (store ((⟨g, off, none⟩ : Addr).add i) v).run P w = .ok () (w.setCell ⟨g, off + i, none⟩ v) := by
      rw [Addr.add_lit, run_store P w _ v _ (h1 v (by simp)), hcell]
      simp [hfr]
    have hw2 : (w.setCell ⟨g, off + i, none⟩ v).heap[g]? = some (.cells (cur.setIfInBounds (off + i) v) e fr) := by
      simp [World.setCell, Array.getElem?_modify, hw]
    obtain ⟨w', cur', hrun, hg, hs, hc, p1, p2, p3, p4, p5⟩ := ih (i + 1) (w.setCell ⟨g, off + i, none⟩ v) (cur.setIfInBounds (off + i) v) hw2 (by simpa using hf) (fun u hu => h1 u (by simp [hu])) (by simp at hle ⊢; omega)
    refine ⟨w', cur', ?_, hg, by simpa using hs, fun j => ?_, p1, p2, p3, by simpa using p4, fun k hk => ?_⟩
    · simp only [storeCells, Sem.run_bind, hstore, Result.andThen_ok]
      exact hrun
    · rw [hc j, Array.getElem?_setIfInBounds]
      by_cases hj : j = off + i
      · subst hj
        rw [if_neg (by omega), if_pos rfl, if_pos hlt, if_pos (by simp)]
        simp
      · by_cases hin : off + (i + 1) ≤ j ∧ j < off + (i + 1) + vs.length
        · rw [if_pos hin, if_pos (by simp; omega)]
          rw [show j - (off + i) = (j - (off + (i + 1))) + 1 from by omega, List.getElem?_cons_succ]
        · rw [if_neg hin, if_neg (fun x => hj x.symm), if_neg (by simp; omega)]
    · rw [p5 k hk]
      simp [World.setCell, Array.getElem?_modify, Ne.symm hk]
theorem ziY (c : List Value) (off : Nat) (new : List Value) (hle : off + new.length ≤ c.length) (j : Nat) :
    (splice c off new)[j]? = if off ≤ j ∧ j < off + new.length then new[j - off]? else c[j]? := by
  unfold splice
  rw [List.append_assoc, List.getElem?_append]
  have htl : (c.take off).length = off := by simp; omega
  rw [htl]
  by_cases h1 : j < off
  · rw [if_pos h1, if_neg (by omega), List.getElem?_take, if_pos h1]
  · rw [if_neg h1, List.getElem?_append]
    by_cases h2 : j - off < new.length
    · rw [if_pos h2, if_pos (by omega)]
    · rw [if_neg h2, if_neg (by omega), List.getElem?_drop]
      congr 1; omega
theorem zcP (r : R P N w0 ρ h w) {b : Nat} {s : Slot} {c : List Value} {e : TypeId} (hs : ρ b = some s) (hg : h.get? b = some (.cells c e true)) {off : Nat} {vs vs' : List Value} (hv : LR ρ vs vs') (h1 : vs.all oneB = true)
    (hle : off + vs.length ≤ c.length) :
    ∃ w', (storeCells ⟨s.g, off + s.d, none⟩ vs' 0).run P w = .ok () w' ∧ R P N w0 ρ (h.set b (.cells (splice c off vs) e true)) w' ∧ Fr ρ h w w' := by
  have hb := r.blk b s _ hs hg
  cases hb with
  | own cur fr hd hw hf hsz hc =>
    have hcs : c.length ≤ cur.size := by
      by_cases h0 : c.length = 0
      · omega
      · obtain ⟨_, v', e1, _⟩ := hc (c.length - 1) c[c.length - 1] (List.getElem?_eq_getElem (by omega))
        have := (Array.getElem?_eq_some_iff.1 e1).1
        omega
    have hone : ∀ u ∈ vs', u.oneCell' = true := by
      intro u hu
      obtain ⟨i, hi, rfl⟩ := List.getElem_of_mem hu
      have hi2 : i < vs.length := by rw [hv.1]; exact hi
      exact zfk (hv.2 i vs[i] vs'[i] (List.getElem?_eq_getElem hi2) (List.getElem?_eq_getElem hi)) (List.all_eq_true.1 h1 _ (List.getElem_mem hi2))
    obtain ⟨w', cur', hrun, hg', hs', hcc, p1, p2, p3, p4, p5⟩ := zfQ (P := P) s.g (off + s.d) e fr vs' 0 w cur hw (fun i hi => hf i (.inl hi)) hone (by rw [← hv.1, hd]; omega)
    refine ⟨w', hrun, ?_⟩
    refine r.change hs hg rfl p1 p2 p3 p4 p5 _ ?_
    refine .own cur' fr hd hg' (by rw [hs']; exact hf) (by rw [hs']; exact hsz) ?_
    intro j u hu
    rw [ziY c off vs hle] at hu
    rw [hcc j, hd, ← hv.1]
    simp only [Nat.add_zero]
    split at hu
    · rename_i hin
      rw [if_pos hin]
      obtain ⟨u', e1, k⟩ := hv.get hu
      exact ⟨List.all_eq_true.1 h1 _ (List.mem_of_getElem? hu), u', e1, k⟩
    · rename_i hin
      rw [if_neg hin]
      exact hc j u hu
theorem zjY (r : R P N w0 ρ h w) {t : TypeId} {v v' a a' : Value} {h1 : Heap} (hv : VR ρ v v') (ha : VR ρ a a') (e : writeB P h t v a = some h1) :
    ∃ w', (Instr.storeAt t a' v').run P w = .ok () w' ∧ R P N w0 ρ h1 w' ∧ Fr ρ h w w' := by
  unfold writeB at e
  split at e
  · rename_i b o
    split at e
    · rename_i c el n hg hn
      split at e
      · rename_i hcond
        cases e
        cases ha with
        | ptr k =>
          obtain ⟨s, hs, _, rfl⟩ := k
          have hx := hv.cells
          obtain ⟨w', hrun, hr, hf⟩ := zcP r hs hg (off := o) (vs := v.cells.toList) (vs' := v'.cells.toList) hx hcond.2.2 (by simpa [hcond.1] using hcond.2.1)
          refine ⟨w', ?_, hr, hf⟩
          unfold Instr.storeAt Instr.sureAddr storeVar
          have hne : ¬ (v'.cells.size ≠ n) := by rw [← hx.size, hcond.1]; simp
          simp only [Sem.run_bind, Sem.run_pure, Result.andThen_ok, zaO hn, Sem.run_ite, hne, if_false]
          exact hrun
      · cases e
    · cases e
  · cases e
theorem zcJ (w : World) (need old : Nat) (e : TypeId) (h : need ≤ 70368744177664) : grownCap w need old e ≤ 9223372036854775807 := by
  unfold grownCap
  show need + _ % (2 ^ 63 - need) ≤ _
  have := Nat.mod_lt (w.tape w.drawn (.appendCap need old e)) (show 0 < 2 ^ 63 - need by omega)
  omega
theorem run_move {t t' el : TypeId} {ats : Array TypeId} {ty : TypeId} (ht0 : ats[0]? = some t) (ht1 : ats[1]? = some t') (hu : P.underlying t = some (.slice el)) (hu' : (∃ e', P.underlying t' = some (.slice e')) ∨ P.underlying t' = some .string)
    {s by_ : Nat} {z : Value} (hs : sizeB P el = some s) (hb : bytesB P el = some by_) (hz : zeroB P el = some z) {a' : Option Addr} {len cap' m : Nat} {y' : Value} {old' new' : Array Value}
    (hlen : ∀ W, (Builtin.lenOf y').run P W = .ok m W) (hnew : (Builtin.firstCells s m y').run P w.drew = .ok new' w.drew) (hold : (Builtin.firstCells s len (.slice a' len cap')).run P w.drew = .ok old' w.drew)
    (hg : cap' < len + m) (hbytes : (len + m) * (by_ + 1) ≤ 70368744177664) :
    ∃ newCap, len + m ≤ newCap ∧ newCap ≤ 9223372036854775807 ∧ (Builtin.append_ ats ty #[.slice a' len cap', y']).run P w =
      .ok (.slice (some ⟨w.heap.size, 0, none⟩) (len + m) newCap) (w.drew.alloc (.cells (old' ++ new' ++ Builtin.zeroCells z.cells (newCap - (len + m))) el)) := by
  refine ⟨grownCap w (len + m) cap' el, grownCap_ge w _ _ _, zcJ w _ _ _ (by have := Nat.le_trans (Nat.le_mul_of_pos_right (len + m) (Nat.succ_pos by_)) hbytes; omega), ?_⟩
  have hmul : (len + m) * (by_ + 1) = (len + m) * by_ + (len + m) := by rw [Nat.mul_add, Nat.mul_one]
  have h63 : ¬ (((len + m : Nat) : Int) > IntKind.i64.max) := by simp; omega
  have h48 : ¬ (Builtin.nextslicecap (len + m) cap' * by_ > 2 ^ 48) := by
    have := growslice_fits (need := len + m) (old := cap') (bytes := by_) hg (by omega)
    simpa using this
  obtain ⟨ti, hti, hby⟩ := zbr (w := w) hb
  obtain ⟨ti2, hti2, hby2⟩ := zbr (w := w.drew) hb
  have hroom : ¬ (len + m ≤ cap') := by omega
  have hgc : (choose (.appendCap (len + m) cap' el)).run P w = .ok (grownCap w (len + m) cap' el) w.drew := by simp [Question.forced, grownCap]
  have h63' : ¬ (9223372036854775807 < (len : Int) + (m : Int) ∧ by_ = 0) := by rintro ⟨x, _⟩; simp at h63; omega
  have h48' : ¬ (281474976710656 < Builtin.nextslicecap (len + m) cap' * by_) := by simpa using h48
  unfold Builtin.append_
  simp only [ht0, ht1]
  rcases hu' with ⟨e', hu'⟩ | hu' <;>
  · simp [run_underlying hu, run_underlying hu', zaO hs, hlen, hti, hby, hroom, h63', h48', hti2, Question.forced, hold, hnew, zaY hz, newRow, grownCap]
end
end Go.AX

namespace Go.AX
open Go.RowKit
section
variable {P : Program} {N : Nat → Prop} {w0 w : World} {ρ : Ren} {h : Heap}
theorem R.adopt (r : R P N w0 ρ h w) (b : Blk) (s : Slot) (hN : ¬ N s.g) (hs : s.g < w.heap.size) (hno : ∀ B t c, ρ B = some t → h.get? B = some c → live c = true → t.g ≠ s.g) (hb : BR P (upd ρ h.n s) w s b) :
    Le ρ (upd ρ h.n s) ∧ R P N w0 (upd ρ h.n s) (h.push b) w := by
  have hle : Le ρ (upd ρ h.n s) := Le.upd s r.fresh
  have hcase : ∀ A t, upd ρ h.n s A = some t → (A = h.n ∧ t = s) ∨ (A ≠ h.n ∧ ρ A = some t) := by
    intro A t e
    unfold AX.upd at e
    by_cases c : A = h.n
    · rw [if_pos c] at e; cases e; exact .inl ⟨c, rfl⟩
    · rw [if_neg c] at e; exact .inr ⟨c, e⟩
  refine ⟨hle, r.below, r.size, ?_, ?_, ?_, ?_, ?_⟩
  · intro A t e
    rcases hcase A t e with ⟨rfl, _⟩ | ⟨_, e⟩
    · exact Nat.lt_succ_self _
    · have := r.dom A t e; show A < h.n + 1; omega
  · intro g hg0
    obtain ⟨t, e, k⟩ := r.glob g hg0
    exact ⟨t, hle _ _ e, k⟩
  · intro A t x e f
    rw [Heap.get_push] at f
    rcases hcase A t e with ⟨rfl, rfl⟩ | ⟨c, e⟩
    · rw [if_pos rfl] at f; cases f; exact hb
    · rw [if_neg c] at f; exact (r.blk A t x e f).keep hle rfl
  · intro A t x e f o
    rw [Heap.get_push] at f
    rcases hcase A t e with ⟨rfl, rfl⟩ | ⟨c, e⟩
    · exact ⟨hN, hs⟩
    · rw [if_neg c] at f; exact r.mine A t x e f o
  · intro A B t u x y e1 e2 f1 f2 o l ne
    rw [Heap.get_push] at f1 f2
    rcases hcase A t e1 with ⟨a1, b1⟩ | ⟨c1, e1⟩
    · rcases hcase B u e2 with ⟨a2, _⟩ | ⟨c2, e2⟩
      · exact absurd (a1.trans a2.symm) ne
      · rw [if_neg c2] at f2
        rw [b1]
        exact (hno B u y e2 f2 l).symm
    · rw [if_neg c1] at f1
      rcases hcase B u e2 with ⟨a2, b2⟩ | ⟨c2, e2⟩
      · rw [b2]; exact hno A t x e1 f1 (zcH o)
      · rw [if_neg c2] at f2; exact r.inj A B t u x y e1 e2 f1 f2 o l ne
theorem zbk (z : Array Value) (n : Nat) : (Builtin.zeroCells z n).size = n * z.size := by simp [Builtin.zeroCells]
theorem zig {y y' : Value} {m : Nat} (hy : VR ρ y y') (e : lenB y = some m) (W : World) : (Builtin.lenOf y').run P W = .ok m W := by
  unfold lenB at e
  split at e
  · cases e
    obtain ⟨a', c', rfl⟩ : ∃ a' c', y' = .slice a' m c' := by cases hy <;> exact ⟨_, _, rfl⟩
    rfl
  · cases e; cases hy; rfl
  · cases e
theorem ze6 {h2 : Heap} (hn : h2.n = h.n) (r : R P N w0 ρ h2 w) {ats : Array TypeId} {ty t t' el : TypeId} (ht0 : ats[0]? = some t) (ht1 : ats[1]? = some t') (hu : P.underlying t = some (.slice el))
    (hu' : (∃ e', P.underlying t' = some (.slice e')) ∨ P.underlying t' = some .string) {s by_ : Nat} {z : Value} (hs : sizeB P el = some s) (hb : bytesB P el = some by_) (hz : zeroB P el = some z) (hzs : z.cells.size = s)
    {a' : Option Addr} {len cap' m : Nat} {y' : Value} {old new : List Value} {old' new' : Array Value}
    (hlen : ∀ W, (Builtin.lenOf y').run P W = .ok m W) (hnew : (Builtin.firstCells s m y').run P w.drew = .ok new' w.drew) (hold : (Builtin.firstCells s len (.slice a' len cap')).run P w.drew = .ok old' w.drew)
    (lo : LR ρ old old'.toList) (ln : LR ρ new new'.toList) (so : old.length = len * s) (sn : new.length = m * s) (oo : old.all oneB = true) (on : new.all oneB = true)
    (hg : cap' < len + m) (hbytes : (len + m) * (by_ + 1) ≤ 70368744177664) :
    Eff P N w0 ρ h w (Builtin.append_ ats ty #[.slice a' len cap', y']) (.slice (some ⟨h.n, 0, none⟩) (len + m) unk) (h2.push (.cells (old ++ new) el true)) := by
  obtain ⟨nc, hnc, hnb, hrun⟩ := run_move (P := P) (w := w) (ty := ty) ht0 ht1 hu hu' hs hb hz hlen hnew hold hg hbytes
  have l1 : old'.size = len * s := by have := lo.1; simp at this; omega
  have l2 : new'.size = m * s := by have := ln.1; simp at this; omega
  have hm : More w (w.drew.alloc (.cells (old' ++ new' ++ Builtin.zeroCells z.cells (nc - (len + m))) el)) := (More.drew w).trans (More.alloc _ _)
  have hcs : (old' ++ new' ++ Builtin.zeroCells z.cells (nc - (len + m))).size = nc * s := by
    simp only [Array.size_append, zbk, l1, l2, hzs]
    rw [← Nat.add_mul, ← Nat.add_mul]
    congr 1; omega
  obtain ⟨hle, hr⟩ := r.row (c := old ++ new) (cur := old' ++ new' ++ Builtin.zeroCells z.cells (nc - (len + m))) (e := el) (cap := nc) (n := s) (by
      have hl : (old ++ new).length = (old'.toList ++ new'.toList).length := by simp [so, sn, l1, l2]
      rw [Array.toList_append, Array.toList_append, hl, List.take_left]
      exact lo.append ln) (by simp [so, sn, l1, l2]) (by rw [List.all_append, oo, on]; rfl) hs hcs hm (0, 0) (by show (w.heap.push _)[w.heap.size]? = _; simp) (by intro i _; simp)
  refine ⟨_, _, _, hle, fun A hA => ?_, hr, ?_, hrun, hm.fr⟩
  · exact zbJ (by rw [hn]; exact hA)
  · refine .slice ⟨w.heap.size, 0, nc⟩ (by rw [← hn]; exact zbn _ _ _) rfl rfl (.inr (.inl ⟨rfl, hnc, rfl, rfl, rfl, hnb⟩))
theorem ze9 {ats : Array TypeId} {ty t t' el : TypeId} (ht0 : ats[0]? = some t) (ht1 : ats[1]? = some t') (hu : P.underlying t = some (.slice el)) (hu' : (∃ e', P.underlying t' = some (.slice e')) ∨ P.underlying t' = some .string)
    {s : Nat} (hs : sizeB P el = some s) {a' : Option Addr} {len cap' m : Nat} {y' : Value} {new' : Array Value} (hlen : ∀ W, (Builtin.lenOf y').run P W = .ok m W) (hnew : (Builtin.firstCells s m y').run P w = .ok new' w)
    (hg : len + m ≤ cap') {w' : World} (hst : (match a' with | some a => storeCells (a.add (len * s)) new'.toList | none => pure () : Sem Unit).run P w = .ok () w') :
    (Builtin.append_ ats ty #[.slice a' len cap', y']).run P w = .ok (.slice a' (len + m) cap') w' := by
  unfold Builtin.append_
  simp only [ht0, ht1]
  rcases hu' with ⟨e', hu'⟩ | hu' <;> cases a' <;>
  · simp [run_underlying hu, run_underlying hu', zaO hs, hlen, hg, hnew] at hst ⊢
    first
      | (rw [hst]; done)
      | (simp [hst]; done)
      | exact hst
      | simp_all
end
end Go.AX

namespace Go.AX
open Go.RowKit
section
variable {P : Program} {N : Nat → Prop} {w0 w : World} {ρ : Ren} {h : Heap}
theorem rowB_one (r : R P N w0 ρ h w) {s n : Nat} {y y' : Value} {new : List Value} (hy : VR ρ y y') (e : rowB h s n y = some new) : new.all oneB = true := by
  unfold rowB at e
  split at e
  · split at e
    · cases e; rfl
    · cases e
  · rename_i b o len cap
    split at e
    · cases e
    · split at e
      · cases e; rfl
      · rename_i h0
        split at e
        · rename_i c ty ow hg
          split at e
          · cases e
            cases hy with
            | slice s1 hs _ h2 hc =>
              dsimp only at hs
              obtain ⟨cur, e', fr, hw, hcc⟩ := (r.blk b s1 _ hs hg).reads
              rw [List.all_eq_true]
              intro v hv
              obtain ⟨i, hi⟩ := List.getElem?_of_mem (List.mem_of_mem_drop (List.mem_of_mem_take hv))
              exact (hcc i v hi).1
            | slice0 => exfalso; apply h0; have : n = 0 := by omega
                        rw [this]; simp
          · cases e
        · cases e
  · rename_i t
    split at e
    · cases e
      rw [List.all_eq_true]
      intro v hv
      simp only [List.mem_map] at hv
      obtain ⟨b, _, rfl⟩ := hv
      rfl
    · cases e
  · cases e
theorem zcS (r : R P N w0 ρ h w) {ats : Array TypeId} {a : Option Addr} {len cap : Nat} {x' y y' v : Value} {h1 : Heap} {t t' el : TypeId} (ht0 : ats[0]? = some t) (ht1 : ats[1]? = some t')
    (hu : P.underlying t = some (.slice el)) (hu' : (∃ e', P.underlying t' = some (.slice e')) ∨ P.underlying t' = some .string) (hx : VR ρ (.slice a len cap) x') (hy : VR ρ y y')
    (e : appendRow P h el a len cap y = some (v, h1)) (ty : TypeId) : Eff P N w0 ρ h w (Builtin.append_ ats ty #[x', y']) v h1 := by
    unfold appendRow at e
    split at e
    case h_2 => cases e
    case h_1 s by_ z m hs hb hz hlb =>
    split at e
    case h_2 => cases e
    case h_1 new hrow =>
    split at e
    case isFalse => cases e
    case isTrue hc =>
    obtain ⟨hzs, hon, hbytes⟩ := hc
    have hlen := zig (P := P) hy hlb
    obtain ⟨new', hnew, lnew, snew⟩ := zcF r hy hrow
    obtain ⟨new2, hnew2, lnew2, snew2⟩ := zcF (r.more (More.drew w)) hy hrow
    obtain ⟨a', cap', hxe⟩ : ∃ a' cap', x' = .slice a' len cap' := by cases hx <;> exact ⟨_, _, rfl⟩
    subst hxe
    split at e
    · -- nothing is appended
      rename_i hm0
      subst hm0
      split at e
      · rename_i hlc
        cases e
        have hcap : len ≤ cap' := by
          cases hx with
          | nilSlice => exact hlc
          | slice s1 _ _ _ hc => rcases hc with ⟨_, q⟩ | ⟨_, q, _⟩ | ⟨_, _, q⟩
                                 · omega
                                 · exact q
                                 · exact q
          | slice0 => exact Nat.zero_le _
        have hn0 : new'.toList = [] := by
          have h1 := lnew.1; rw [snew] at h1
          exact List.eq_nil_of_length_eq_zero (by omega)
        have hrun := ze9 (P := P) (ty := ty) (w' := w) ht0 ht1 hu hu' hs hlen hnew (a' := a') (len := len) (cap' := cap') (by omega) (by cases a' <;> simp [hn0, storeCells])
        exact Eff.still r hrun hx
      · cases e
    · rename_i hm0
      split at e
      · -- onto nil
        split at e
        · rename_i hl0
          obtain ⟨rfl, rfl⟩ := hl0
          cases e
          cases hx
          have := ze6 (h2 := h) rfl r (ty := ty) ht0 ht1 hu hu' hs hb hz hzs (a' := none) (len := 0) (cap' := 0) (m := m) (y' := y') (old := []) (new := new) (old' := #[]) (new' := new2) hlen hnew2 (by simp [Builtin.firstCells])
            (LR.nil ρ) lnew2 (by simp) snew2 rfl hon (by omega) hbytes
          simpa using this
        · cases e
      · rename_i b o
        split at e
        · cases e
        · rename_i hany
          split at e
          · -- onto a row of one's own, of which only the length is known
            rename_i hunk
            subst hunk
            cases hx with
            | slice0 _ _ hc => rcases hc with q | ⟨q, _⟩
                               · exact absurd q (by decide)
                               · exact absurd q (by decide)
            | slice sl hsl _ h2 hc =>
              subst h2
              dsimp only at hsl
              rcases hc with ⟨q, _⟩ | ⟨_, hlc, _, hd0, hcc, hcb⟩ | ⟨q, _⟩
              · exact absurd q (Nat.lt_irrefl _)
              · split at e
                case h_2 => cases e
                case h_1 c e' hg =>
                split at e
                case isFalse => cases e
                case isTrue hcond =>
                obtain ⟨rfl, rfl, hcl⟩ := hcond
                cases e
                have hbr := r.blk b sl _ hsl hg
                have hone : c.all oneB = true := by
                  cases hbr with
                  | own cur fr hd hw hf hsz hc2 =>
                    rw [List.all_eq_true]
                    intro u hu
                    obtain ⟨i, hi⟩ := List.getElem?_of_mem hu
                    exact (hc2 i u hi).1
                by_cases hroom : len + m ≤ cap'
                · -- there is room: the row is taken over
                  cases hbr with
                  | own cur fr hd hw hf hsz hc2 =>
                    have hsz' : cur.size = cap' * (s + 1) := by rw [hsz, zcu hs, hcc]
                    have hn' : new'.toList.length = m * (s + 1) := by rw [← lnew.1]; exact snew
                    have hfit : len * (s + 1) + m * (s + 1) ≤ cap' * (s + 1) := by rw [← Nat.add_mul]; exact Nat.mul_le_mul_right _ hroom
                    have hone' : ∀ u ∈ new'.toList, u.oneCell' = true := by
                      intro u hu
                      obtain ⟨i, hi, rfl⟩ := List.getElem_of_mem hu
                      have hi2 : i < new.length := by rw [lnew.1]; exact hi
                      exact zfk (lnew.2 i new[i] _ (List.getElem?_eq_getElem hi2) (List.getElem?_eq_getElem hi)) (List.all_eq_true.1 hon _ (List.getElem_mem hi2))
                    obtain ⟨w', cur', hrun, hg', hs', hcc', p1, p2, p3, p4, p5⟩ := zfQ (P := P) sl.g (0 + sl.d + len * (s + 1)) e' fr new'.toList 0 w cur hw (fun i hi => hf i (.inl hi)) hone' (by rw [hn', hd0]; omega)
                    have happ := ze9 (P := P) (ty := ty) (w' := w') ht0 ht1 hu hu' hs hlen hnew (a' := some ⟨sl.g, 0 + sl.d, none⟩) (len := len) (cap' := cap') hroom (by simp only [Addr.add_lit]; exact hrun)
                    obtain ⟨hr1, hf1⟩ := r.change hsl hg rfl p1 p2 p3 p4 p5 .dead .dead
                    have hmine := r.mine b sl _ hsl hg rfl
                    obtain ⟨hle, hr2⟩ := hr1.adopt (.cells (c ++ new) e' true) sl hmine.1 (by rw [p4]; exact hmine.2) (by
                        intro B t' c' e1 e2 l
                        rw [Heap.get_set hg] at e2
                        by_cases q : B = b
                        · rw [if_pos q] at e2; cases e2; simp [live] at l
                        · rw [if_neg q] at e2; exact (r.inj b B sl t' _ c' hsl e1 hg e2 rfl l (Ne.symm q)).symm) (by
                        refine .own cur' fr hd0 hg' (by rw [hs']; exact hf) (by rw [hs']; exact hsz) ?_
                        intro j u hu2
                        rw [List.getElem?_append] at hu2
                        rw [hcc' j, hd0, hn']
                        split at hu2
                        · rename_i hj
                          rw [if_neg (by omega)]
                          obtain ⟨q1, u', q2, q3⟩ := hc2 j u hu2
                          exact ⟨q1, u', q2, q3.mono (Le.upd _ hr1.fresh)⟩
                        · rename_i hj
                          have hjl : j - c.length < new.length := (List.getElem?_eq_some_iff.1 hu2).1
                          rw [snew] at hjl
                          rw [if_pos (by omega)]
                          obtain ⟨u', q2, q3⟩ := lnew.get hu2
                          refine ⟨List.all_eq_true.1 hon _ (List.mem_of_getElem? hu2), u', ?_, q3.mono (Le.upd _ hr1.fresh)⟩
                          rw [← q2]; congr 1; omega)
                    refine ⟨_, _, _, hle, fun A hA => zbJ (h := h.set b .dead) hA, hr2, ?_, happ, ?_⟩
                    · refine .slice sl (zbn _ _ _) rfl (by rw [hd0]) (.inr (.inl ⟨rfl, hroom, rfl, hd0, hcc, hcb⟩))
                    · exact hf1
                · -- it moves
                  have hrowx : rowB h (s + 1) len (.slice (some ⟨b, 0, none⟩) len unk) = some c := by
                    unfold rowB
                    simp only [Nat.lt_irrefl, if_false, hg]
                    by_cases q : len * (s + 1) = 0
                    · rw [if_pos q]
                      have : c = [] := List.eq_nil_of_length_eq_zero (by omega)
                      rw [this]
                    · rw [if_neg q, if_pos (by omega)]
                      simp [← hcl]
                  have hxx : VR ρ (.slice (some ⟨b, 0, none⟩) len unk) (.slice (some ⟨sl.g, 0 + sl.d, none⟩) len cap') := .slice sl hsl rfl rfl (.inr (.inl ⟨rfl, hlc, rfl, hd0, hcc, hcb⟩))
                  obtain ⟨old2, hold2, lold2, sold2⟩ := zcF (r.more (More.drew w)) hxx hrowx
                  exact ze6 (h := h) (h2 := h.set b .dead) rfl (r.die hg) (ty := ty) ht0 ht1 hu hu' hs hb hz hzs hlen hnew2 hold2 lold2 lnew2 sold2 snew2 hone hon (by omega) hbytes
              · exact absurd q (by decide)
          · rename_i hunk
            -- the capacity is known, or there is so much room
            have hua := zgN
            have hcap : (cap < unk ∧ cap = cap') ∨ (anyCap ≤ cap ∧ cap - anyCap ≤ cap' ∧ len + m ≤ cap - anyCap) := by
              cases hx with
              | slice0 _ _ hc => rcases hc with q | ⟨q, q'⟩
                                 · exact absurd ⟨by omega, by omega⟩ hany
                                 · exact .inl ⟨by rw [q]; decide, by rw [q, q']⟩
              | slice sl hsl _ h2 hc => rcases hc with ⟨p, q⟩ | ⟨q, _⟩ | ⟨p, q, _⟩
                                        · exact .inl ⟨p, q⟩
                                        · exact absurd q hunk
                                        · exact .inr ⟨p, q, by omega⟩
            split at e
            · -- in place
              rename_i hroom
              split at e
              case h_2 => cases e
              case h_1 c e' hg =>
              split at e
              case isFalse => cases e
              case isTrue hle =>
              cases e
              cases hx with
              | slice0 _ _ hc => exfalso; rcases hc with q | ⟨q, q'⟩
                                 · exact hany ⟨by omega, by omega⟩
                                 · omega
              | slice sl hsl _ h2 hc =>
                subst h2
                dsimp only at hsl
                obtain ⟨w', hrun, hr, hf⟩ := zcP r hsl hg (off := o + len * (s + 1)) (vs := new) (vs' := new'.toList) lnew hon hle
                have happ := ze9 (P := P) (ty := ty) (w' := w') ht0 ht1 hu hu' hs hlen hnew (a' := some ⟨sl.g, o + sl.d, none⟩) (len := len) (cap' := cap') (by omega) (by
                  simp only [Addr.add_lit]
                  rw [show o + sl.d + len * (s + 1) = o + len * (s + 1) + sl.d from by omega]
                  exact hrun)
                refine ⟨ρ, _, w', Le.refl _, fun _ _ => rfl, hr, .slice sl hsl rfl rfl (by rcases hcap with ⟨p, q⟩ | ⟨p, q, r⟩; exact .inl ⟨p, q⟩; exact .inr (.inr ⟨p, q, by omega⟩)), happ, hf⟩
            · rename_i hroom
              split at e
              case h_2 => cases e
              case h_1 old hrowx =>
              cases e
              obtain ⟨old2, hold2, lold2, sold2⟩ := zcF (r.more (More.drew w)) hx hrowx
              exact ze6 (h2 := h) rfl r (ty := ty) ht0 ht1 hu hu' hs hb hz hzs hlen hnew2 hold2 lold2 lnew2 sold2 snew2 (rowB_one r hx hrowx) hon (by omega) hbytes
      · cases e
theorem zgw {m : Nat} (h : m ≤ 70368744177664) : IntKind.wrap .i64 (m : Int) = m := by
  unfold IntKind.wrap
  simp only [IntKind.bits, IntKind.signed, Bool.true_and]
  split <;> rename_i hc
  · have := of_decide_eq_true hc; omega
  · omega
theorem zkc {t t' el : TypeId} {ats : Array TypeId} {ty : TypeId} (ht0 : ats[0]? = some t) (ht1 : ats[1]? = some t') (hu : P.underlying t = some (.slice el)) {k : IntKind} (hu' : P.underlying t' = some (.int k))
    {s by_ m : Nat} {z : Value} (hs : sizeB P el = some (s + 1)) (hb : bytesB P el = some by_) (hz : zeroB P el = some z) (hm : 0 < m) (hbytes : m * (by_ + 1) ≤ 70368744177664) :
    ∃ newCap, m ≤ newCap ∧ newCap ≤ 9223372036854775807 ∧ (Builtin.append_ ats ty #[.slice none 0 0, .int .i64 (.ofNat m)]).run P w =
      .ok (.slice (some ⟨w.heap.size, 0, none⟩) m newCap) (w.drew.alloc (.cells (#[] ++ Builtin.zeroCells z.cells m ++ Builtin.zeroCells z.cells (newCap - m)) el)) := by
  refine ⟨grownCap w m 0 el, grownCap_ge w _ _ _, zcJ w _ _ _ (by have := Nat.le_trans (Nat.le_mul_of_pos_right m (Nat.succ_pos by_)) hbytes; omega), ?_⟩
  have hmul : m * (by_ + 1) = m * by_ + m := by rw [Nat.mul_add, Nat.mul_one]
  have h48 : ¬ (Builtin.nextslicecap m 0 * by_ > 2 ^ 48) := by
    have := growslice_fits (need := m) (old := 0) (bytes := by_) hm (by omega)
    simpa using this
  obtain ⟨ti, hti, hby⟩ := zbr (w := w) hb
  obtain ⟨ti2, hti2, hby2⟩ := zbr (w := w.drew) hb
  have h48' : ¬ (281474976710656 < Builtin.nextslicecap m 0 * by_) := by simpa using h48
  have hwrap : IntKind.wrap .i64 (m : Int) = m := zgw (by omega)
  have hb2 : ¬ (281474976710656 < (m : Int) * (by_ : Int)) := by
    have : m * by_ ≤ 70368744177664 := by omega
    have : ((m * by_ : Nat) : Int) ≤ 70368744177664 := by omega
    rw [Int.natCast_mul] at this; omega
  have hms : ¬ (m * (s + 1) = 0) := by
    intro q; rcases Nat.mul_eq_zero.1 q with q | q <;> omega
  have h63' : ¬ (9223372036854775807 < (m : Int)) := by omega
  have hm0 : ¬ m = 0 := by omega
  unfold Builtin.append_
  simp only [ht0, ht1]
  simp [run_underlying hu, run_underlying hu', zaO hs, hti, hby, asInt, asIntOf, hwrap, hb2, hm0, hms, h48', h63', hti2, Question.forced, zaY hz, newRow, grownCap, Builtin.firstCells]
  intro hneg
  exact absurd hneg (by omega)
theorem zg0 (r : R P N w0 ρ h w) {ats : Array TypeId} {a : Option Addr} {len cap : Nat} {x' y y' v : Value} {h1 : Heap} {t t' el : TypeId} (ht0 : ats[0]? = some t) (ht1 : ats[1]? = some t')
    (hu : P.underlying t = some (.slice el)) {k : IntKind} (hu' : P.underlying t' = some (.int k)) (hx : VR ρ (.slice a len cap) x') (hy : VR ρ y y')
    (e : appendZ P h el a len cap y = some (v, h1)) (ty : TypeId) : Eff P N w0 ρ h w (Builtin.append_ ats ty #[x', y']) v h1 := by
  unfold appendZ at e
  split at e
  case h_2 => cases e
  case h_1 s by_ z m hs hb hz =>
  split at e
  case isFalse => cases e
  case isTrue hc =>
  obtain ⟨⟨hzs, hon, hbytes, hm⟩, rfl, rfl, rfl⟩ := hc
  cases e
  cases hx
  cases hy
  obtain ⟨nc, hnc, hnb, hrun⟩ := zkc (P := P) (w := w) (ty := ty) ht0 ht1 hu hu' hs hb hz hm hbytes
  have l2 : (Builtin.zeroCells z.cells m).size = m * (s + 1) := by rw [zbk, hzs]
  have hmore : More w (w.drew.alloc (.cells (#[] ++ Builtin.zeroCells z.cells m ++ Builtin.zeroCells z.cells (nc - m)) el)) := (More.drew w).trans (More.alloc _ _)
  have hcs : (#[] ++ Builtin.zeroCells z.cells m ++ Builtin.zeroCells z.cells (nc - m)).size = nc * (s + 1) := by
    simp only [Array.size_append, zbk, hzs, List.size_toArray, List.length_nil, Nat.zero_add]
    rw [← Nat.add_mul]; congr 1; omega
  have lr : LR ρ (Builtin.zeroCells z.cells m).toList (Builtin.zeroCells z.cells m).toList := by
    refine zb6 (za7 hz) (m * z.cells.size) ?_
    by_cases q : 0 < z.cells.size
    · exact .inr q
    · exact .inl (by rw [show z.cells.size = 0 from by omega, Nat.mul_zero])
  obtain ⟨hle, hr⟩ := r.row (c := (Builtin.zeroCells z.cells m).toList) (cur := #[] ++ Builtin.zeroCells z.cells m ++ Builtin.zeroCells z.cells (nc - m)) (e := el) (cap := nc) (n := s + 1) (by
      rw [Array.toList_append, Array.toList_append, List.nil_append, List.take_left]
      exact lr) (by simp [l2]) hon hs hcs hmore (0, 0) (by show (w.heap.push _)[w.heap.size]? = _; simp) (by intro i _; simp)
  refine ⟨_, _, _, hle, fun A hA => ?_, hr, ?_, hrun, hmore.fr⟩
  · exact zbJ hA
  · refine .slice ⟨w.heap.size, 0, nc⟩ (zbn _ _ _) rfl rfl (.inr (.inl ⟨rfl, hnc, rfl, rfl, rfl, hnb⟩))
theorem zi5 (r : R P N w0 ρ h w) {ats : Array TypeId} {x x' y y' v : Value} {h1 : Heap} (hx : VR ρ x x') (hy : VR ρ y y') (e : appendB P h ats x y = some (v, h1)) (ty : TypeId) :
    Eff P N w0 ρ h w (Builtin.append_ ats ty #[x', y']) v h1 := by
  unfold appendB at e
  split at e
  · rename_i t t' a len cap ht0 ht1
    split at e
    · rename_i el e' hu hu2
      exact zcS r ht0 ht1 hu (.inl ⟨_, hu2⟩) hx hy e ty
    · rename_i el hu hu2
      exact zcS r ht0 ht1 hu (.inr hu2) hx hy e ty
    · rename_i el k hu hu2
      exact zg0 r ht0 ht1 hu hu2 hx hy e ty
    · cases e
  · cases e
end
end Go.AX

namespace Go.AX
open Go.RowKit
section
variable {P : Program} {N : Nat → Prop} {w0 w : World} {ρ : Ren} {h : Heap}
theorem sim_copy (r : R P N w0 ρ h w) {ats : Array TypeId} {x x' y y' v : Value} {h1 : Heap} (hx : VR ρ x x') (hy : VR ρ y y') (e : copyB P h ats x y = some (v, h1)) (ty : TypeId) :
    Eff P N w0 ρ h w (Builtin.copy_ ats ty #[x', y']) v h1 := by
  unfold copyB at e
  split at e
  case h_2 => cases e
  case h_1 t ht =>
  split at e
  case h_2 => cases e
  case h_1 el hu =>
  split at e
  case h_2 => cases e
  case h_1 s a len cap m hs hlb =>
  dsimp only at e
  have hlen := zig (P := P) hy hlb
  obtain ⟨a', cap', hxe⟩ : ∃ a' cap', x' = .slice a' len cap' := by cases hx <;> exact ⟨_, _, rfl⟩
  subst hxe
  have hrun : ∀ (new' : Array Value) (w' : World), (Builtin.firstCells s (min m len) y').run P w = .ok new' w → (match a' with | some a => storeCells a new'.toList | none => pure () : Sem Unit).run P w = .ok () w' →
      (Builtin.copy_ ats ty #[.slice a' len cap', y']).run P w = .ok (goInt (min m len : Nat)) w' := by
    intro new' w' hf hst
    unfold Builtin.copy_
    simp only [ht]
    cases a' with
    | none => simp at hst; subst hst; simp [run_underlying hu, hlen, zaO hs, Nat.min_def] at hf ⊢; simp [hf]
    | some ad => simp [run_underlying hu, hlen, zaO hs, Nat.min_def] at hf hst ⊢; simp [hf, hst]
  split at e
  · rename_i new b o hrow
    obtain ⟨new', hnew, lnew, snew⟩ := zcF r hy hrow
    split at e
    · rename_i hon
      split at e
      · rename_i c e' hg
        split at e
        · rename_i hle
          cases e
          cases hx with
          | slice sl hsl _ h2 hc =>
            subst h2
            dsimp only at hsl
            obtain ⟨w', hst, hr, hf⟩ := zcP r hsl hg (off := o) (vs := new) (vs' := new'.toList) lnew hon hle
            exact ⟨ρ, _, w', Le.refl _, fun _ _ => rfl, hr, .int _ _, hrun new' w' hnew hst, hf⟩
          | slice0 q1 q2 _ =>
            rename_i ad'
            have hn0 : new = [] := List.eq_nil_of_length_eq_zero (by rw [snew]; simp)
            have hn1 : new'.toList = [] := by have := lnew.1; rw [hn0] at this; exact List.eq_nil_of_length_eq_zero this.symm
            subst hn0
            have hspl : splice c o [] = c := by unfold splice; simp
            rw [hspl]
            have hset : R P N w0 ρ (h.set b (.cells c e' true)) w := by
              refine ⟨r.below, r.size, r.dom, r.glob, ?_, ?_, ?_⟩
              · intro B t c2 p q; rw [Heap.get_set hg] at q; split at q
                · rename_i hB; cases q; subst hB; exact r.blk B t _ p hg
                · exact r.blk B t c2 p q
              · intro B t c2 p q; rw [Heap.get_set hg] at q; split at q
                · rename_i hB; cases q; subst hB; exact r.mine B t _ p hg
                · exact r.mine B t c2 p q
              · intro B C t u c2 d e1 e2 f1 f2 o l ne
                rw [Heap.get_set hg] at f1 f2
                have g1 : h.get? B = some c2 := by split at f1 <;> simp_all
                have g2 : h.get? C = some d := by split at f2 <;> simp_all
                exact r.inj B C t u c2 d e1 e2 g1 g2 o l ne
            exact ⟨ρ, _, w, Le.refl _, fun _ _ => rfl, hset, .int _ _, hrun new' w hnew (by simp [hn1, storeCells]), Fr.refl _ _ _⟩
        · cases e
      · split at e
        · rename_i hemp
          cases e
          have hn0 : new = [] := by simpa using hemp
          have hn1 : new'.toList = [] := by have := lnew.1; rw [hn0] at this; exact List.eq_nil_of_length_eq_zero this.symm
          exact Eff.still r (hrun new' w hnew (by cases a' <;> simp [hn1, storeCells])) (.int _ _)
        · cases e
    · cases e
  · rename_i new hrow
    obtain ⟨new', hnew, lnew, snew⟩ := zcF r hy hrow
    split at e
    · rename_i hemp
      cases e
      have hn0 : new = [] := by simpa using hemp
      have hn1 : new'.toList = [] := by have := lnew.1; rw [hn0] at this; exact List.eq_nil_of_length_eq_zero this.symm
      exact Eff.still r (hrun new' w hnew (by cases a' <;> simp [hn1, storeCells])) (.int _ _)
    · cases e
  · cases e
theorem zj4 (r : R P N w0 ρ h w) {ats : Array TypeId} {x x' v : Value} {h1 : Heap} (hx : VR ρ x x') (e : clearB P h ats x = some (v, h1)) (ty : TypeId) :
    Eff P N w0 ρ h w (Builtin.clear_ ats ty #[x']) v h1 := by
  unfold clearB at e
  split at e
  case h_2 => cases e
  case h_1 t ht =>
  split at e
  case h_2 => cases e
  case h_1 el hu =>
  split at e
  · rename_i z l c hz
    cases e
    cases hx
    refine Eff.still r (v' := .tuple #[]) ?_ (VR.tuple' (LR.nil ρ))
    unfold Builtin.clear_
    simp [ht, run_underlying hu]
  · rename_i z b o n c hz
    split at e
    · rename_i hn0
      cases e
      subst hn0
      obtain ⟨a', cap', hxe⟩ : ∃ a' cap', x' = .slice (some a') 0 cap' := by cases hx <;> exact ⟨_, _, rfl⟩
      subst hxe
      refine Eff.still r (v' := .tuple #[]) ?_ (VR.tuple' (LR.nil ρ))
      unfold Builtin.clear_
      simp [ht, run_underlying hu]
    · rename_i hn0
      split at e
      case h_2 => cases e
      case h_1 cs e' hg =>
      split at e
      case isFalse => cases e
      case isTrue hc =>
      cases e
      cases hx with
      | slice0 => exact absurd rfl hn0
      | slice sl hsl _ h2 hcc =>
        subst h2
        dsimp only at hsl
        have lr : LR ρ (Builtin.zeroCells z.cells n).toList (Builtin.zeroCells z.cells n).toList := by
          refine zb6 (za7 hz) (n * z.cells.size) ?_
          by_cases q : 0 < z.cells.size
          · exact .inr q
          · exact .inl (by rw [show z.cells.size = 0 from by omega, Nat.mul_zero])
        obtain ⟨w', hst, hr, hf⟩ := zcP r hsl hg (off := o) (vs := (Builtin.zeroCells z.cells n).toList) (vs' := (Builtin.zeroCells z.cells n).toList) lr hc.2 hc.1
        refine ⟨ρ, _, w', Le.refl _, fun _ _ => rfl, hr, VR.tuple' (LR.nil ρ), ?_, hf⟩
        unfold Builtin.clear_
        cases n with
        | zero => exact absurd rfl hn0
        | succ n => simp [ht, run_underlying hu, zaY hz, hst]
  · cases e
theorem zbb (r : R P N w0 ρ h w) {b : Nat} {s : Slot} {o o1 o' o1' : Obj} (hs : ρ b = some s) (hg : h.get? b = some (.obj o)) (hw : w.heap[s.g]? = some o') (hnc : ∀ c e f, o' ≠ .cells c e f) (hO : OR ρ o1 o1') :
    ∃ w', (setObj s.g o1').run P w = .ok () w' ∧ R P N w0 ρ (h.set b (.obj o1)) w' ∧ Fr ρ h w w' := by
  refine ⟨{ w with heap := w.heap.setIfInBounds s.g o1' }, ?_, ?_⟩
  · simp only [setObj, Sem.run, hw]
  · have hlt : s.g < w.heap.size := (Array.getElem?_eq_some_iff.1 hw).1
    refine r.change (w' := { w with heap := w.heap.setIfInBounds s.g o1' }) hs hg rfl rfl rfl rfl (by simp) (fun g hgne => ?_) (.obj o1) (.obj o1' (by cases r.blk b s _ hs hg; assumption) ?_ hO)
    · show (w.heap.setIfInBounds s.g o1')[g]? = _
      rw [Array.getElem?_setIfInBounds, if_neg (Ne.symm hgne)]
    · show (w.heap.setIfInBounds s.g o1')[s.g]? = _
      rw [Array.getElem?_setIfInBounds, if_pos rfl, if_pos hlt]
theorem EsR.push {es es' : List MapEntry} (k : EsR ρ es es') {x x' : MapEntry} (hx : EnR ρ x x') : EsR ρ (es ++ [x]) (es' ++ [x']) := by
  refine ⟨by simp [k.1], fun i a a' e e' => ?_⟩
  rw [List.getElem?_append] at e e'
  rw [← k.1] at e'
  split at e
  · rename_i hi; rw [if_pos hi] at e'; exact k.2 i a a' e e'
  · rename_i hi; rw [if_neg hi] at e'
    cases hd : i - es.length with
    | zero => simp [hd] at e e'; subst e; subst e'; exact hx
    | succ j => simp [hd] at e
theorem EsR.modify {es es' : Array MapEntry} (k : EsR ρ es.toList es'.toList) (i : Nat) (f f' : MapEntry → MapEntry) (hf : ∀ x x', es[i]? = some x → EnR ρ x x' → EnR ρ (f x) (f' x')) :
    EsR ρ (es.modify i f).toList (es'.modify i f').toList := by
  refine ⟨by simpa using k.1, fun j a a' e e' => ?_⟩
  simp only [Array.getElem?_toList, Array.getElem?_modify] at e e'
  by_cases hij : i = j
  · rw [if_pos hij] at e e'
    subst hij
    cases h1 : es[i]? with
    | none => simp [h1] at e
    | some x =>
      cases h2 : es'[i]? with
      | none => simp [h2] at e'
      | some x' =>
        simp [h1, h2] at e e'
        subst e; subst e'
        exact hf x x' h1 (k.2 i x x' (by simpa using h1) (by simpa using h2))
  · rw [if_neg hij] at e e'
    exact k.2 j a a' (by simpa using e) (by simpa using e')
theorem zdp {old new : Value} (hs : Instr.sameBits 10000 old new = true) (W : World) : (Instr.keyThatStays old new).run P W = .ok new W := by
  unfold Instr.keyThatStays
  simp [hs]
theorem zcQ (r : R P N w0 ρ h w) {t : TypeId} {m m' k k' v v' : Value} {h1 : Heap} (hm : VR ρ m m') (hk : VR ρ k k') (hv : VR ρ v v') (e : mapUpdateB P h t m k v = some h1) :
    ∃ w', (Instr.mapUpdate t m' k' v').run P w = .ok () w' ∧ R P N w0 ρ h1 w' ∧ Fr ρ h w w' := by
  unfold mapUpdateB at e
  split at e
  case h_2 => cases e
  case h_1 kt el b es c hu hmo =>
  obtain ⟨s, es', _, rfl, hs, hg, hw, hE⟩ := zb3 r hm hmo
  dsimp only at hs hg hw hE
  split at e
  · rename_i i u hf
    obtain ⟨hp, hck, x, x', hx, hx', rfl, hen, hfk⟩ := zbO (P := P) hE hf w
    have hkk := zaP deep hp hk
    subst hkk
    split at e
    · rename_i x2 hx2
      split at e
      · rename_i hsb
        cases e
        have hxx : x2 = x := by
          have h2 : es.toList[i]? = some x := hx
          rw [Array.getElem?_toList, hx2] at h2; cases h2; rfl
        subst hxx
        have hx'a : es'[i]? = some x' := by simpa using hx'
        obtain ⟨w', hrun, hr, hf'⟩ := zbb r hs hg hw (by intro a b c; simp) (o1 := .map (es.modify i fun e => { e with key := k', val := v }) c) (o1' := .map (es'.modify i fun e => { e with key := k', val := v' }) c)
          (.map c (hE.modify i _ _ fun y y' _ hy => ⟨rfl, hy.2.1, hv⟩))
        refine ⟨w', ?_, hr, hf'⟩
        unfold Instr.mapUpdate
        simp only [Sem.run_bind, run_underlying hu, Result.andThen_ok, zaK hw, hck, hfk, hx'a, Option.map_some, Option.getD_some, hen.1, zdp hsb, hrun]
      · cases e
    · cases e
  · rename_i hf
    obtain ⟨hp, hck, hfk⟩ := zbO (P := P) hE hf w
    have hkk := zaP deep hp hk
    subst hkk
    cases e
    obtain ⟨w', hrun, hr, hf'⟩ := zbb r hs hg hw (by intro a b c; simp) (o1 := .map (es.push { key := k', val := v, born := c }) (c + 1)) (o1' := .map (es'.push { key := k', val := v', born := c }) (c + 1))
      (.map (c + 1) (by simp only [Array.toList_push]; exact hE.push ⟨rfl, rfl, hv⟩))
    refine ⟨w', ?_, hr, hf'⟩
    unfold Instr.mapUpdate
    simp only [Sem.run_bind, run_underlying hu, Result.andThen_ok, zaK hw, hck, hfk, hrun]
  · cases e
theorem EsR.erase {es es' : Array MapEntry} (k : EsR ρ es.toList es'.toList) (i : Nat) : EsR ρ (es.eraseIdxIfInBounds i).toList (es'.eraseIdxIfInBounds i).toList := by
  have hsz : es.size = es'.size := by simpa using k.1
  unfold Array.eraseIdxIfInBounds
  by_cases hi : i < es.size
  · rw [dif_pos hi, dif_pos (by omega)]
    refine ⟨by simp only [Array.toList_eraseIdx, List.length_eraseIdx, Array.length_toList, hsz], fun j a a' e e' => ?_⟩
    simp only [Array.toList_eraseIdx, List.getElem?_eraseIdx] at e e'
    by_cases hij : j < i
    · rw [if_pos hij] at e e'; exact k.2 j a a' e e'
    · rw [if_neg hij] at e e'; exact k.2 (j + 1) a a' e e'
  · rw [dif_neg hi, dif_neg (by omega)]; exact k
theorem zi3 (r : R P N w0 ρ h w) {ats : Array TypeId} {m m' k k' v : Value} {h1 : Heap} (hm : VR ρ m m') (hk : VR ρ k k') (e : deleteB P h ats m k = some (v, h1)) (ty : TypeId) :
    Eff P N w0 ρ h w (Builtin.delete_ ats ty #[m', k']) v h1 := by
  unfold deleteB at e
  split at e
  case h_2 => cases e
  case h_1 t ht =>
  split at e
  case h_2 => cases e
  case h_1 kt el b es c hu hmo =>
  obtain ⟨s, es', _, rfl, hs, hg, hw, hE⟩ := zb3 r hm hmo
  dsimp only at hs hg hw hE
  have hem : es'.isEmpty = es.isEmpty := by
    have := hE.1
    simp only [Array.length_toList] at this
    simp [Array.isEmpty, this]
  split at e
  · rename_i i u hf
    obtain ⟨hp, hck, x, x', hx, hx', rfl, hen, hfk⟩ := zbO (P := P) hE hf w
    have hkk := zaP deep hp hk
    subst hkk
    cases e
    obtain ⟨w', hrun, hr, hf'⟩ := zbb r hs hg hw (by intro a b c; simp) (o1 := .map (es.eraseIdxIfInBounds i) c) (o1' := .map (es'.eraseIdxIfInBounds i) c) (.map c (hE.erase i))
    refine ⟨ρ, .tuple #[], w', Le.refl _, fun _ _ => rfl, hr, VR.tuple' (LR.nil ρ), ?_, hf'⟩
    unfold Builtin.delete_
    simp [ht, run_underlying hu, zaK hw, hem, hck, hfk, hrun]
  · rename_i hf
    obtain ⟨hp, hck, hfk⟩ := zbO (P := P) hE hf w
    have hkk := zaP deep hp hk
    subst hkk
    cases e
    obtain ⟨w', hrun, hr, hf'⟩ := zbb r hs hg hw (by intro a b c; simp) (o1 := .map es c) (o1' := .map es' c) (.map c hE)
    refine ⟨ρ, .tuple #[], w', Le.refl _, fun _ _ => rfl, hr, VR.tuple' (LR.nil ρ), ?_, hf'⟩
    unfold Builtin.delete_
    simp [ht, run_underlying hu, zaK hw, hem, hck, hfk, hrun]
  · cases e
theorem zfL (r : R P N w0 ρ h w) {t : TypeId} {m m' k k' v : Value} {h1 : Heap} (hm : VR ρ m m') (hk : VR ρ k k') (e : mapEntryB P h t m k = some (v, h1)) :
    Eff P N w0 ρ h w (Instr.mapEntry t m' k') v h1 := by
  unfold mapEntryB at e
  split at e
  case h_2 => cases e
  case h_1 kt el b es c hu hmo =>
  obtain ⟨s, es', _, rfl, hs, hg, hw, hE⟩ := zb3 r hm hmo
  dsimp only at hs hg hw hE
  split at e
  · rename_i _ i u hf
    obtain ⟨hp, hck, x, x', hx, hx', rfl, hen, hfk⟩ := zbO (P := P) hE hf w
    have hkk := zaP deep hp hk
    subst hkk
    split at e
    · rename_i x2 hx2
      split at e
      · rename_i hsb
        cases e
        have hxx : x2 = x := by
          have h2 : es.toList[i]? = some x := hx
          rw [Array.getElem?_toList, hx2] at h2; cases h2; rfl
        subst hxx
        have hx'a : es'[i]? = some x' := by simpa using hx'
        obtain ⟨w', hrun, hr, hf'⟩ := zbb r hs hg hw (by intro a b c; simp) (o1 := .map (es.modify i fun e => { e with key := k' }) c) (o1' := .map (es'.modify i fun e => { e with key := k' }) c)
          (.map c (hE.modify i _ _ fun y y' _ hy => ⟨rfl, hy.2.1, hy.2.2⟩))
        refine ⟨ρ, .tuple #[x'.val, goInt x'.born], w', Le.refl _, fun _ _ => rfl, hr, VR.tuple' (LR.cons hen.2.2 (LR.cons (by rw [hen.2.1]; exact .int _ _) (LR.nil ρ))), ?_, hf'⟩
        unfold Instr.mapEntry
        simp only [Sem.run_bind, run_underlying hu, Result.andThen_ok, zaK hw, hck, hfk, hx'a, Option.map_some, Option.getD_some, hen.1, zdp hsb, hrun, Sem.run_pure]
      · cases e
    · cases e
  · rename_i z hf hz
    obtain ⟨hp, hck, hfk⟩ := zbO (P := P) hE hf w
    have hkk := zaP deep hp hk
    subst hkk
    cases e
    have hzz : VR ρ z z := zaW deep (za7 hz)
    obtain ⟨w', hrun, hr, hf'⟩ := zbb r hs hg hw (by intro a b c; simp) (o1 := .map (es.push { key := k', val := z, born := c }) (c + 1)) (o1' := .map (es'.push { key := k', val := z, born := c }) (c + 1))
      (.map (c + 1) (by simp only [Array.toList_push]; exact hE.push ⟨rfl, rfl, hzz⟩))
    refine ⟨ρ, .tuple #[z, goInt c], w', Le.refl _, fun _ _ => rfl, hr, VR.tuple' (LR.cons hzz (LR.cons (.int _ _) (LR.nil ρ))), ?_, hf'⟩
    unfold Instr.mapEntry
    simp only [Sem.run_bind, run_underlying hu, Result.andThen_ok, zaK hw, hck, hfk, zaY hz, hrun, Sem.run_pure]
  · cases e
theorem zev (r : R P N w0 ρ h w) {t : TypeId} {m m' k k' v v' : Value} {h1 : Heap} (hm : VR ρ m m') (hk : VR ρ k k') (hv : VR ρ v v') (e : entryStoreB h m k v = some h1) :
    ∃ w', (Instr.entryStore t m' k' v').run P w = .ok () w' ∧ R P N w0 ρ h1 w' ∧ Fr ρ h w w' := by
  unfold entryStoreB at e
  split at e
  case h_2 => cases e
  case h_1 b es c kk born hmo =>
  obtain ⟨s, es', _, rfl, hs, hg, hw, hE⟩ := zb3 r hm hmo
  dsimp only at hs hg hw hE
  cases hk
  split at e
  · rename_i i hf
    cases e
    have hf2 : es'.findIdx? (fun e => (e.born : Int) == born) = some i := by
      have hb : es'.map (fun e : MapEntry => (e.born : Int)) = es.map (fun e : MapEntry => (e.born : Int)) := by
        apply Array.ext'
        simp only [Array.toList_map]
        have h2 := congrArg (List.map (fun e : MapEntry => (e.born : Int))) hE.bare
        simpa [bareE, Function.comp_def] using h2
      have hcomp : ∀ a : Array MapEntry, a.findIdx? (fun e => (e.born : Int) == born) = (a.map (fun e : MapEntry => (e.born : Int))).findIdx? (fun n => n == born) := by
        intro a
        rw [Array.findIdx?_map]
        rfl
      rw [hcomp, hb, ← hcomp]; exact hf
    obtain ⟨w', hrun, hr, hf'⟩ := zbb r hs hg hw (by intro a b c; simp) (o1 := .map (es.modify i fun e => { e with val := v }) c) (o1' := .map (es'.modify i fun e => { e with val := v' }) c)
      (.map c (hE.modify i _ _ fun y y' _ hy => ⟨hy.1, hy.2.1, hv⟩))
    refine ⟨w', ?_, hr, hf'⟩
    unfold Instr.entryStore
    simp only [Sem.run_bind, zaK hw, Result.andThen_ok, asInt, asIntOf, Sem.run_pure, hf2, hrun]
  · cases e
theorem sim_next (r : R P N w0 ρ h w) {it it' v : Value} {isS : Bool} {h1 : Heap} (hi : VR ρ it it') (e : nextB h it isS = some (v, h1)) (ty : TypeId) : Eff P N w0 ρ h w (Instr.next it' isS ty) v h1 := by
  unfold nextB at e
  split at e
  · rename_i b
    split at e
    · rename_i s pos hg
      cases hi with
      | ptr k =>
        obtain ⟨sl, hs, _, rfl⟩ := k
        dsimp only at hs
        have hb := r.blk b sl _ hs hg
        have hd : 0 + sl.d = sl.d := by omega
        cases hb with
        | obj o' hd0 hw hO =>
          cases hO with
          | iter =>
            have hget : (getObj sl.g).run P w = .ok (.stringIter s pos) w := by simp [getObj, Sem.run, hw]
            split at e
            · rename_i hlt
              generalize hdec : Utf8.decode s pos = cw at e
              obtain ⟨c, width⟩ := cw
              cases e
              obtain ⟨w', hrun, hr, hf⟩ := zbb r hs hg hw (by intro a b c; simp) (o1 := .stringIter s (pos + width)) (o1' := .stringIter s (pos + width)) (.iter _ _)
              refine ⟨ρ, _, w', Le.refl _, fun _ _ => rfl, hr, VR.tuple' (LR.cons (.bool true) (LR.cons (.int _ _) (LR.cons (.int _ _) (LR.nil ρ)))), ?_, hf⟩
              unfold Instr.next
              simp only [hd0, Sem.run_bind, hget, Result.andThen_ok, hlt, if_true, hdec, hrun, Sem.run_pure]
              rfl
            · rename_i hlt
              cases e
              refine Eff.still r (v' := .tuple #[.bool false]) ?_ (VR.tuple' (LR.cons (.bool false) (LR.nil ρ)))
              unfold Instr.next
              simp only [hd0, Sem.run_bind, hget, Result.andThen_ok, hlt, if_false, Sem.run_pure]
    · cases e
  · cases e
end
end Go.AX

namespace Go.AX
open Go.RowKit
inductive TgR (ρ : Ren) : Target → Target → Prop
  | fn (g : FuncId) {c c' : Array Value} (h : XR ρ c c') : TgR ρ (.fn (.func g) c) (.fn (.func g) c')
  | col {r : Nat} {s : Slot} (h : ρ r = some s) : TgR ρ (.collected r) (.collected s.g)
def DfR (ρ : Ren) (d d' : Deferred) : Prop := TgR ρ d.target d'.target ∧ XR ρ d.args d'.args
theorem TgR.mono {ρ ρ' : Ren} (k : Le ρ ρ') {a b : Target} (h : TgR ρ a b) : TgR ρ' a b := by
  cases h with
  | fn g h => exact .fn g (h.mono k)
  | col h => exact .col (k _ _ h)
theorem DfR.mono {ρ ρ' : Ren} (k : Le ρ ρ') {a b : Deferred} (h : DfR ρ a b) : DfR ρ' a b := ⟨h.1.mono k, h.2.mono k⟩
def OutR (P : Program) (ρ : Ren) (s : Sem Next) (w w' : World) : Out → Prop
  | .val v => ∃ v', VR ρ v v' ∧ (s.run P w = .ok (.value v') w' ∨ v' = undef ∧ s.run P w = .ok .skip w')
  | .enter f args => ∃ args', XR ρ args args' ∧ s.run P w = .ok (.enter f args') w'
  | .round l args => ∃ sl args', ρ l = some sl ∧ XR ρ args args' ∧ s.run P w = (Instr.yield sl.g args').run P w'
  | .defer d => ∃ d', DfR ρ d d' ∧ s.run P w = .ok (.defer d') w'
  | .recover => s.run P w = .ok .recover w'
  | .panic v => ∃ v', VR ρ v v' ∧ s.run P w = .halt (.panic v') w'
def EffN (P : Program) (N : Nat → Prop) (w0 : World) (ρ : Ren) (h : Heap) (w : World) (s : Sem Next) (o : Out) (h1 : Heap) : Prop :=
  ∃ ρ' w', Le ρ ρ' ∧ (∀ A, A < h.n → ρ' A = ρ A) ∧ R P N w0 ρ' h1 w' ∧ OutR P ρ' s w w' o ∧ Fr ρ h w w'
section
variable {P : Program} {N : Nat → Prop} {w0 w : World} {ρ : Ren} {h : Heap}
theorem Eff.up {s : Sem Value} {v : Value} {h1 : Heap} (k : Eff P N w0 ρ h w s v h1) : EffN P N w0 ρ h w (do pure (.value (← s))) (.val v) h1 := by
  obtain ⟨ρ', v', w', a, b, c, d, e, f⟩ := k
  exact ⟨ρ', w', a, b, c, ⟨v', d, .inl (by simp [e])⟩, f⟩
theorem EffN.skip {s : Sem Unit} {h1 : Heap} (k : ∃ w', s.run P w = .ok () w' ∧ R P N w0 ρ h1 w' ∧ Fr ρ h w w') : EffN P N w0 ρ h w (do s; pure .skip) (.val undef) h1 := by
  obtain ⟨w', a, b, c⟩ := k
  exact ⟨ρ, w', Le.refl _, fun _ _ => rfl, b, ⟨undef, VR.undef ρ, .inr ⟨rfl, by simp [a]⟩⟩, c⟩
theorem EffN.still (r : R P N w0 ρ h w) {s : Sem Next} {o : Out} (k : OutR P ρ s w w o) : EffN P N w0 ρ h w s o h := ⟨ρ, w, Le.refl _, fun _ _ => rfl, r, k, Fr.refl _ _ _⟩
theorem zeM {a a' : Array Value} (hp : a.toList.all (plain deep) = true) (h : XR ρ a a') : a' = a := by
  apply Array.ext h.size.symm
  intro i h1 h2
  rw [List.all_eq_true] at hp
  exact zaP deep (hp _ (by simp)) (h.at (i := i) (v := a[i]) (v' := a'[i]) (by simp [h2]) (by simp [h1]))
theorem zck {f : FuncId} {args args' : Array Value} {o : Out} (ha : XR ρ args args') (e : callFuncB P f args = some o) (w : World) : OutR P ρ (callFunc f args') w w o := by
  unfold callFuncB at e
  split at e
  · cases e
  · rename_i fn hfn
    split at e
    · cases e
    · rename_i hname
      split at e
      · rename_i hbody
        cases e
        refine ⟨args', ha, ?_⟩
        unfold callFunc
        have hb : ¬ fn.body = none := by cases hh : fn.body <;> simp_all
        have hn : ¬ fn.name = "runtime.NumGoroutine" := by simpa using hname
        simp [hfn, hn, hb]
      · split at e
        · rename_i hp
          have := zeM hp ha
          subst this
          split at e
          · rename_i v hv
            split at e
            · rename_i hpv
              cases e
              exact ⟨v, zaW deep hpv, .inl (zfY P _ _ hv w)⟩
            · cases e
          · cases e
        · cases e
theorem zi1 {recv recv' : Value} {name : String} {f : FuncId} {v : Value} (hr : VR ρ recv recv') (e : methodB P recv name = some (f, v)) (w : World) :
    ∃ t u v', recv' = .iface t u ∧ VR ρ v v' ∧ (method (P.types.size + Made.depth) t u name).run P w = .ok (f, v') w := by
  unfold methodB at e
  split at e
  · rename_i t x
    cases hr with
    | iface _ hx =>
      rename_i x'
      refine ⟨t, x', ?_⟩
      split at e
      · rename_i i hi
        split at e
        · rename_i m hm
          have hti : (typeInfo t).run P w = .ok i w := by simp [typeInfo, hi]
          split at e
          · rename_i hpath
            have hpl : m.path.toList = [] := by simpa using hpath
            obtain ⟨k, hk⟩ : ∃ k, P.types.size + Made.depth = k + 1 := ⟨P.types.size + 99, rfl⟩
            rw [hk]
            split at e
            · rename_i g d hfunc hu
              cases d <;> first
                | (cases e; done)
                | (cases e
                   refine ⟨x', rfl, hx, ?_⟩
                   simp [method, hti, hm, hpl, follow, hfunc, receiverAt, run_underlying hu, Place.get])
            · rename_i g el hfunc hu
              cases e
              refine ⟨x', rfl, hx, ?_⟩
              simp [method, hti, hm, hpl, follow, hfunc, receiverAt, run_underlying hu, Place.get]
            · cases e
          · split at e
            · rename_i hp
              have := zaP deep hp hx
              subst this
              split at e
              · rename_i g rr hpe
                split at e
                · rename_i hpr
                  cases e
                  exact ⟨_, rfl, zaW deep hpr, zfY P _ _ hpe w⟩
                · cases e
              · cases e
            · cases e
        · cases e
      · cases e
  · cases e
theorem zbv {recv recv' : Value} {name : String} {args args' : Array Value} {o : Out} (hr : VR ρ recv recv') (ha : XR ρ args args') (e : callMethodB P recv name args = some o) (w : World) :
    OutR P ρ (callMethod recv' name args') w w o := by
  unfold callMethodB at e
  split at e
  · rename_i f v hm
    obtain ⟨t, u, v', rfl, hv, hrun⟩ := zi1 hr hm w
    have hxr : XR ρ (#[v] ++ args) (#[v'] ++ args') := XR.append (LR.cons hv (LR.nil ρ)) ha
    have := zck (P := P) hxr e w
    have heq : (callMethod (.iface t u) name args').run P w = (callFunc f (#[v'] ++ args')).run P w := by
      unfold callMethod
      simp only [Sem.run_bind, run_program, Result.andThen_ok, hrun]
    cases o <;> simp only [OutR, heq] at this ⊢ <;> exact this
  · cases e
theorem XR.extract {a a' : Array Value} (h : XR ρ a a') (i : Nat) : XR ρ (a.extract i a.size) (a'.extract i a'.size) := by
  unfold XR
  simp only [Array.toList_extract, List.extract_eq_take_drop, ← h.size]
  exact (LR.drop h i).take _
theorem zcR {f f' : Value} {args args' : Array Value} {o : Out} (hf : VR ρ f f') (ha : XR ρ args args') (e : callValueB P f args = some o) (w : World) :
    OutR P ρ (do let d ← Deferred.ofValue f' args'; invoke d.target d.args) w w o := by
  unfold callValueB at e
  split at e
  · rename_i fn first captured
    cases hf with
    | func hfn h1 h2 h3 h4 =>
      rename_i fn' first' captured'
      have hfirst : XR ρ first first' := XR.mk h1 h3
      have hcap : XR ρ captured captured' := XR.mk h2 h4
      have hall : XR ρ (first ++ args) (first' ++ args') := hfirst.append ha
      have heq : ∀ s : Sem Next, (invoke (.fn fn' captured') (first' ++ args')).run P w = s.run P w → OutR P ρ s w w o → OutR P ρ (do let d ← Deferred.ofValue (.func fn' first' captured') args'; invoke d.target d.args) w w o := by
        intro s hs k
        have : ((do let d ← Deferred.ofValue (.func fn' first' captured') args'; invoke d.target d.args : Sem Next)).run P w = s.run P w := by
          rw [← hs]; simp [Deferred.ofValue]
        cases o <;> simp only [OutR, this] at k ⊢ <;> exact k
      dsimp only at e
      split at e
      · rename_i g
        have hfn' : fn' = .func g := by cases fn' <;> simp_all [FnR]
        subst hfn'
        exact heq _ (by simp [invoke]) (zck (hall.append hcap) e w)
      · rename_i name
        have hfn' : fn' = .method name := by cases fn' <;> simp_all [FnR]
        subst hfn'
        split at e
        · rename_i rv hrv
          obtain ⟨rv', hrv', hrr⟩ := hall.get hrv
          exact heq (callMethod rv' name ((first' ++ args').extract 1 (first' ++ args').size)) (by simp only [invoke, hrv']) (zbv hrr (hall.extract 1) e w)
        · cases e
      · rename_i t name
        have hfn' : fn' = .methodOf t name := by cases fn' <;> simp_all [FnR]
        subst hfn'
        split at e
        · rename_i rv d hrv hu
          obtain ⟨rv', hrv', hrr⟩ := hall.get hrv
          cases d <;> first
            | exact heq (callMethod rv' name ((first' ++ args').extract 1 (first' ++ args').size)) (by simp [invoke, hrv', run_underlying hu]) (zbv hrr (hall.extract 1) e w)
            | exact heq (callMethod (.iface t rv') name ((first' ++ args').extract 1 (first' ++ args').size)) (by simp [invoke, hrv', run_underlying hu]) (zbv (.iface t hrr) (hall.extract 1) e w)
        · cases e
      · rename_i l
        cases fn' with
        | yield l' =>
          obtain ⟨s, hs, rfl⟩ := hfn
          cases e
          exact heq (Instr.yield s.g (first' ++ args')) (by simp [invoke]) ⟨s, _, hs, hall, rfl⟩
        | _ => simp [FnR] at hfn
      · cases e
  · cases e
theorem zbH (r : R P N w0 ρ h w) {tm tm' : Array Value} {o : Oper} {out : Out} {h1 : Heap} (hx : ∀ x ∈ o.op.operands, VR ρ (ev tm x) (ev tm' x))
    (e : effectB P tm h o = some (out, h1)) : EffN P N w0 ρ h w (execOp (ev tm') o) out h1 := by
  have hvh : ∀ {u : Option (Value × Heap)}, (u.map fun (v, h) => (Out.val v, h)) = some (out, h1) → ∃ v, out = .val v ∧ u = some (v, h1) := by
    intro u hu
    cases u with
    | none => simp at hu
    | some q => simp at hu; exact ⟨q.1, hu.1.symm, by rw [← hu.2]⟩
  have hhh : ∀ {u : Option Heap}, (u.map fun h => (Out.val undef, h)) = some (out, h1) → out = .val undef ∧ u = some h1 := by
    intro u hu
    cases u with
    | none => simp at hu
    | some q => simp at hu; exact ⟨hu.1.symm, by rw [← hu.2]⟩
  unfold effectB at e
  dsimp only at e
  split at e
  · rename_i t a x ho
    obtain ⟨rfl, e2⟩ := hhh e
    have := EffN.skip (zjY r (hx x (by simp [ho, Op.operands])) (hx a (by simp [ho, Op.operands])) e2)
    simpa only [execOp, ho] using this
  · rename_i t m k v ho
    obtain ⟨rfl, e2⟩ := hhh e
    have := EffN.skip (zcQ r (hx m (by simp [ho, Op.operands])) (hx k (by simp [ho, Op.operands])) (hx v (by simp [ho, Op.operands])) e2)
    simpa only [execOp, ho] using this
  · rename_i t m k v ho
    obtain ⟨rfl, e2⟩ := hhh e
    have := EffN.skip (zcQ r (hx m (by simp [ho, Op.operands])) (hx k (by simp [ho, Op.operands])) (hx v (by simp [ho, Op.operands])) e2)
    simpa only [execOp, ho] using this
  · rename_i t m k ho
    obtain ⟨v, rfl, e2⟩ := hvh e
    have := (zfL r (hx m (by simp [ho, Op.operands])) (hx k (by simp [ho, Op.operands])) e2).up
    simpa only [execOp, ho] using this
  · rename_i t m s v ho
    obtain ⟨rfl, e2⟩ := hhh e
    have := EffN.skip (zev (t := t) r (hx m (by simp [ho, Op.operands])) (hx s (by simp [ho, Op.operands])) (hx v (by simp [ho, Op.operands])) e2)
    simpa only [execOp, ho] using this
  · rename_i it isS ho
    obtain ⟨v, rfl, e2⟩ := hvh e
    have := (sim_next r (hx it (by simp [ho, Op.operands])) e2 o.type).up
    simpa only [execOp, ho] using this
  · rename_i x ho
    have hxx := hx x (by simp [ho, Op.operands])
    split at e
    · rename_i t v hv
      cases e
      rw [hv] at hxx
      obtain ⟨v', hv'⟩ : ∃ v', ev tm' x = .iface t v' := by generalize ev tm' x = q at hxx; cases hxx; exact ⟨_, rfl⟩
      refine EffN.still r ⟨ev tm' x, hxx, ?_⟩
      simp only [execOp, ho, hv', Instr.panic]
      rfl
    · cases e
  · -- append
    rename_i args ats ho
    split at e
    · rename_i x y hx0 hy0
      obtain ⟨v, rfl, e2⟩ := hvh e
      have := (zi5 r (hx x (by simp only [ho, Op.operands, Call.operands]; simp; exact Array.mem_of_getElem? hx0)) (hx y (by simp only [ho, Op.operands, Call.operands]; simp; exact Array.mem_of_getElem? hy0)) e2 o.type).up
      obtain ⟨ρ', w', a, b, c, ⟨v', hv', hrun⟩, f⟩ := this
      refine ⟨ρ', w', a, b, c, ⟨v', hv', ?_⟩, f⟩
      rcases hrun with hrun | ⟨_, hrun⟩
      · left
        simp only [execOp, ho, resolve, Sem.run_bind, Sem.run_pure, Result.andThen_ok, invoke, builtin]
        simp only [Sem.run_bind] at hrun
        rw [← hrun]
        have h0 : (args.map (ev tm'))[0]? = some (ev tm' x) := by simp [hx0]
        have h1 : (args.map (ev tm'))[1]? = some (ev tm' y) := by simp [hy0]
        unfold Builtin.append_
        simp only [h0, h1]
        rfl
      · simp only [Sem.run_bind] at hrun
        cases hq : (Builtin.append_ ats o.type #[ev tm' x, ev tm' y]).run P w <;> simp [hq] at hrun
    · cases e
  · -- copy
    rename_i args ats ho
    split at e
    · rename_i x y hx0 hy0
      obtain ⟨v, rfl, e2⟩ := hvh e
      have := (sim_copy r (hx x (by simp only [ho, Op.operands, Call.operands]; simp; exact Array.mem_of_getElem? hx0)) (hx y (by simp only [ho, Op.operands, Call.operands]; simp; exact Array.mem_of_getElem? hy0)) e2 o.type).up
      obtain ⟨ρ', w', a, b, c, ⟨v', hv', hrun⟩, f⟩ := this
      refine ⟨ρ', w', a, b, c, ⟨v', hv', ?_⟩, f⟩
      rcases hrun with hrun | ⟨_, hrun⟩
      · left
        simp only [execOp, ho, resolve, Sem.run_bind, Sem.run_pure, Result.andThen_ok, invoke, builtin]
        simp only [Sem.run_bind] at hrun
        rw [← hrun]
        have h0 : (args.map (ev tm'))[0]? = some (ev tm' x) := by simp [hx0]
        have h1 : (args.map (ev tm'))[1]? = some (ev tm' y) := by simp [hy0]
        unfold Builtin.copy_
        simp only [h0, h1]
        rfl
      · simp only [Sem.run_bind] at hrun
        cases hq : (Builtin.copy_ ats o.type #[ev tm' x, ev tm' y]).run P w <;> simp [hq] at hrun
    · cases e
  · -- clear
    rename_i args ats ho
    split at e
    · rename_i x hx0
      obtain ⟨v, rfl, e2⟩ := hvh e
      have := (zj4 r (hx x (by simp only [ho, Op.operands, Call.operands]; simp; exact Array.mem_of_getElem? hx0)) e2 o.type).up
      obtain ⟨ρ', w', a, b, c, ⟨v', hv', hrun⟩, f⟩ := this
      refine ⟨ρ', w', a, b, c, ⟨v', hv', ?_⟩, f⟩
      rcases hrun with hrun | ⟨_, hrun⟩
      · left
        simp only [execOp, ho, resolve, Sem.run_bind, Sem.run_pure, Result.andThen_ok, invoke, builtin]
        simp only [Sem.run_bind] at hrun
        rw [← hrun]
        have h0 : (args.map (ev tm'))[0]? = some (ev tm' x) := by simp [hx0]
        unfold Builtin.clear_
        simp only [h0]
        rfl
      · simp only [Sem.run_bind] at hrun
        cases hq : (Builtin.clear_ ats o.type #[ev tm' x]).run P w <;> simp [hq] at hrun
    · cases e
  · -- delete
    rename_i args ats ho
    split at e
    · rename_i x y hx0 hy0
      obtain ⟨v, rfl, e2⟩ := hvh e
      have := (zi3 r (hx x (by simp only [ho, Op.operands, Call.operands]; simp; exact Array.mem_of_getElem? hx0)) (hx y (by simp only [ho, Op.operands, Call.operands]; simp; exact Array.mem_of_getElem? hy0)) e2 o.type).up
      obtain ⟨ρ', w', a, b, c, ⟨v', hv', hrun⟩, f⟩ := this
      refine ⟨ρ', w', a, b, c, ⟨v', hv', ?_⟩, f⟩
      rcases hrun with hrun | ⟨_, hrun⟩
      · left
        simp only [execOp, ho, resolve, Sem.run_bind, Sem.run_pure, Result.andThen_ok, invoke, builtin]
        simp only [Sem.run_bind] at hrun
        rw [← hrun]
        have h0 : (args.map (ev tm'))[0]? = some (ev tm' x) := by simp [hx0]
        have h1 : (args.map (ev tm'))[1]? = some (ev tm' y) := by simp [hy0]
        unfold Builtin.delete_
        simp only [h0, h1]
        rfl
      · simp only [Sem.run_bind] at hrun
        cases hq : (Builtin.delete_ ats o.type #[ev tm' x, ev tm' y]).run P w <;> simp [hq] at hrun
    · cases e
  · -- the builtin panic
    rename_i args ats ho
    split at e
    · rename_i x hx0
      have hxx := hx x (by simp only [ho, Op.operands, Call.operands]; simp; exact Array.mem_of_getElem? hx0)
      split at e
      · rename_i t v hv
        cases e
        rw [hv] at hxx
        obtain ⟨v', hv'⟩ : ∃ v', ev tm' x = .iface t v' := by generalize ev tm' x = q at hxx; cases hxx; exact ⟨_, rfl⟩
        refine EffN.still r ⟨ev tm' x, hxx, ?_⟩
        have h0 : (args.map (ev tm')).getD 0 .nilIface = ev tm' x := by simp [hx0]
        simp only [execOp, ho, resolve, Sem.run_bind, Sem.run_pure, Result.andThen_ok, invoke, builtin, h0, hv', Instr.panic]
        rfl
      · cases e
    · cases e
  · -- recover
    rename_i args ats ho
    cases e
    refine EffN.still r ?_
    simp only [OutR, execOp, ho, resolve, Sem.run_bind, Sem.run_pure, Result.andThen_ok, invoke, builtin]
  · -- a call of a value
    rename_i f args ats ho
    cases hc : callValueB P (ev tm f) (args.map (ev tm)) with
    | none => simp [hc] at e
    | some q =>
      simp [hc] at e
      obtain ⟨rfl, rfl⟩ := e
      have hf := hx f (by simp [ho, Op.operands, Call.operands])
      have ha : XR ρ (args.map (ev tm)) (args.map (ev tm')) := zfC _ fun x hxm => hx x (by simp only [ho, Op.operands, Call.operands]; simp; exact .inr (by simpa using hxm))
      refine EffN.still r ?_
      have := zcR hf ha hc w
      simpa only [execOp, ho, resolve] using this
  · rename_i rv name args ats ho
    cases hc : callMethodB P (ev tm rv) name (args.map (ev tm)) with
    | none => simp [hc] at e
    | some q =>
      simp [hc] at e
      obtain ⟨rfl, rfl⟩ := e
      have hf := hx rv (by simp [ho, Op.operands, Call.operands])
      have ha : XR ρ (args.map (ev tm)) (args.map (ev tm')) := zfC _ fun x hxm => hx x (by simp only [ho, Op.operands, Call.operands]; simp; exact .inr (by simpa using hxm))
      refine EffN.still r ?_
      have := zbv hf ha hc w
      have heq : (execOp (ev tm') o).run P w = (callMethod (ev tm' rv) name (args.map (ev tm'))).run P w := by
        have h0 : (#[ev tm' rv] ++ args.map (ev tm'))[0]? = some (ev tm' rv) := by rw [Array.getElem?_append_left (by simp)]; rfl
        have h1 : (#[ev tm' rv] ++ args.map (ev tm')).extract 1 (#[ev tm' rv] ++ args.map (ev tm')).size = args.map (ev tm') := by
          apply Array.ext'
          simp
          exact List.take_of_length_le (by simp)
        simp only [execOp, ho, resolve, Sem.run_bind, Sem.run_pure, Result.andThen_ok, invoke, h0, h1]
      cases q <;> simp only [OutR, heq] at this ⊢ <;> exact this
  · -- defer
    rename_i f args ats ho
    have hf := hx f (by simp [ho, Op.operands, Call.operands])
    split at e
    · rename_i g first cap hev
      cases e
      rw [hev] at hf
      obtain ⟨first', cap', hev', h1, h2⟩ : ∃ first' cap', ev tm' f = .func (.func g) first' cap' ∧ XR ρ first first' ∧ XR ρ cap cap' := by
        generalize ev tm' f = q at hf
        cases hf with
        | func hfn q1 q2 q3 q4 =>
          rename_i f' a' b'
          cases f' <;> simp [FnR] at hfn
          exact ⟨a', b', by rw [hfn], XR.mk q1 q3, XR.mk q2 q4⟩
      have ha : XR ρ (args.map (ev tm)) (args.map (ev tm')) := zfC _ fun x hxm => hx x (by simp only [ho, Op.operands, Call.operands]; simp; exact .inr (by simpa using hxm))
      refine EffN.still r ⟨{ target := .fn (.func g) cap', args := first' ++ args.map (ev tm') }, ⟨.fn g h2, h1.append ha⟩, ?_⟩
      simp only [execOp, ho, resolve, hev', Deferred.ofValue, Sem.run_bind, Sem.run_pure, Result.andThen_ok]
    · cases e
  · cases e
end
end Go.AX

namespace Go.AX
open Go.RowKit
def F (fn : FuncId) (dfr : Bool) (rd : Option Nat) (tm : Array Value) (df : List Deferred) (todo : List Item) (mode : FrameMode) : Frame :=
  { fn, tmps := tm, todo, defers := df, mode, kind := if dfr then .deferred else .normal, roundOf := rd }
theorem zlB (fn : FuncId) (dfr : Bool) (rd : Option Nat) (tm : Array Value) (df : List Deferred) (todo : List Item) (mode : FrameMode) : (F fn dfr rd tm df todo mode).eval = ev tm := by
  funext x; cases x <;> rfl
section
variable {P : Program} {fn : FuncId} {dfr : Bool} {rd : Option Nat} {tm : Array Value} {df : List Deferred} {k : List Item} {cs : List Frame} {w : World}
theorem st_skip : step P (lone (F fn dfr rd tm df (.code .skip :: k) .run) cs w) = .next (lone (F fn dfr rd tm df k .run) cs w) := step_lone_go (by simp [stepG, stepG.exec, F])
theorem st_label {l : Nat} : step P (lone (F fn dfr rd tm df (.code (.label l) :: k) .run) cs w) = .next (lone (F fn dfr rd tm df k .run) cs w) := step_lone_go (by simp [stepG, stepG.exec, F])
theorem ziW {id : Nat} : step P (lone (F fn dfr rd tm df (.inBlock id :: k) .run) cs w) = .next (lone (F fn dfr rd tm df k .run) cs w) := step_lone_go (by simp [stepG, stepG.exec, F])
theorem ziV {c : Code} : step P (lone (F fn dfr rd tm df (.inScope c :: k) .run) cs w) = .next (lone (F fn dfr rd tm df k .run) cs w) := step_lone_go (by simp [stepG, stepG.exec, F])
theorem st_seq {a b : Code} : step P (lone (F fn dfr rd tm df (.code (.seq a b) :: k) .run) cs w) = .next (lone (F fn dfr rd tm df (.code a :: .code b :: k) .run) cs w) := step_lone_go (by simp [stepG, stepG.exec, F])
theorem st_block {id : Nat} {c : Code} : step P (lone (F fn dfr rd tm df (.code (.block id c) :: k) .run) cs w) = .next (lone (F fn dfr rd tm df (.code c :: .inBlock id :: k) .run) cs w) := step_lone_go (by simp [stepG, stepG.exec, F])
theorem st_scope {c : Code} : step P (lone (F fn dfr rd tm df (.code (.scope c) :: k) .run) cs w) = .next (lone (F fn dfr rd tm df (.code c :: .inScope c :: k) .run) cs w) := step_lone_go (by simp [stepG, stepG.exec, F])
theorem st_loop {c : Code} : step P (lone (F fn dfr rd tm df (.code (.loop c) :: k) .run) cs w) = .next (lone (F fn dfr rd tm df (.code c :: .inLoop c :: k) .run) cs w) := step_lone_go (by simp [stepG, stepG.exec, F])
theorem zjV {c : Code} : step P (lone (F fn dfr rd tm df (.inLoop c :: k) .run) cs w) = .next (lone (F fn dfr rd tm df (.code c :: .inLoop c :: k) .run) cs w) := step_lone_go (by simp [stepG, stepG.exec, F])
theorem st_cond {c : Operand} {a b : Code} {t : Bool} (h : ev tm c = .bool t) :
    step P (lone (F fn dfr rd tm df (.code (.cond c a b) :: k) .run) cs w) = .next (lone (F fn dfr rd tm df (.code (if t then a else b) :: k) .run) cs w) :=
  step_lone_go (by
    have h1 := congrFun (zlB fn dfr rd tm df (.code (.cond c a b) :: k) .run) c
    simp only [F] at h1
    simp [stepG, stepG.exec, F, h1, h])
theorem st_exit {id : Nat} {k' : List Item} (h : exitTo id k = some k') : step P (lone (F fn dfr rd tm df (.code (.exit id) :: k) .run) cs w) = .next (lone (F fn dfr rd tm df k' .run) cs w) :=
  step_lone_go (by simp [stepG, stepG.exec, F, h])
theorem zjU {id : Nat} {ops : Array Oper} : step P (lone (F fn dfr rd tm df (.code (.region id ops false) :: k) .run) cs w) = .next (lone (F fn dfr rd tm df (.inRegion ops (List.range ops.size) :: k) .run) cs w) :=
  step_lone_go (by simp [stepG, stepG.exec, F])
theorem st_draw {id : Nat} {ops : Array Oper} : ∃ t, step P (lone (F fn dfr rd tm df (.code (.region id ops true) :: k) .run) cs w) =
    .next (lone (F fn dfr rd tm df (.inRegion ops (Region.schedule (P.follows .mixedOrders) ops t) :: k) .run) cs w.drew) :=
  ⟨w.tape w.drawn (.order fn id), step_lone_go (by simp [stepG, stepG.exec, F, choose, Sem.run, Question.forced, Question.cut])⟩
theorem zjW {ops : Array Oper} : step P (lone (F fn dfr rd tm df (.inRegion ops [] :: k) .run) cs w) = .next (lone (F fn dfr rd tm df k .run) cs w) := step_lone_go (by simp [stepG, stepG.exec, F])
theorem st_ret (h : rd = none) : step P (lone (F fn dfr rd tm df (.code .ret :: k) .run) cs w) = .next (lone (F fn dfr rd tm df (.code .ret :: k) .returning) cs w) := by
  subst h; exact step_lone_go (by simp [stepG, stepG.exec, F])
theorem st_end (h : rd = none) : step P (lone (F fn dfr rd tm df [] .run) cs w) = .next (lone (F fn dfr rd tm df [] .returning) cs w) := by
  subst h; exact step_lone_go (by simp [stepG, stepG.exec, F])
theorem zcg {ops : Array Oper} {i : Nat} {rest : List Nat} {mode : FrameMode} (v : Value) :
    (F fn dfr rd tm df (.inRegion ops (i :: rest) :: k) mode).finish v = F fn dfr rd (put tm ((ops[i]?).bind (·.dst)) v) df (.inRegion ops rest :: k) mode := by
  cases h : (ops[i]?).bind (·.dst) <;> simp [Frame.finish, F, put, h]
theorem zhS {todo : List Item} {chain : List PanicEntry} : (F fn dfr rd tm df todo .run).raise chain = F fn dfr rd tm df todo (.panicking chain) := rfl
theorem zcE {ops : Array Oper} {i : Nat} {rest : List Nat} (h : ((ops[i]?).map (Region.wanted · (yielded ops tm))).getD false = false) :
    step P (lone (F fn dfr rd tm df (.inRegion ops (i :: rest) :: k) .run) cs w) = .next (lone (F fn dfr rd (put tm ((ops[i]?).bind (·.dst)) undef) df (.inRegion ops rest :: k) .run) cs w) := by
  rw [← zcg]
  exact step_lone_go (by
    have h' := h
    simp only [F] at *
    simp [stepG, stepG.exec, h'])
theorem zfM {ops : Array Oper} {i : Nat} {rest : List Nat} {o : Oper} (ho : ops[i]? = some o) (hw : Region.wanted o (yielded ops tm) = true) (hd : rd = none ∨ ∀ c, o.op ≠ .defer c) :
    stepG P true { frame := F fn dfr rd tm df (.inRegion ops (i :: rest) :: k) .run, callers := cs, status := .running, dying := none } w =
      stepG.apply P true (F fn dfr rd tm df (.inRegion ops (i :: rest) :: k) .run) cs none (execOp (ev tm) o) w := by
  have he := zlB fn dfr rd tm df (.inRegion ops (i :: rest) :: k) .run
  simp only [F] at he
  rcases hd with rfl | hd
  · simp [stepG, stepG.exec, stepG.oper, Frame.oper?, F, ho, hw, he]
  · cases rd with
    | none => simp [stepG, stepG.exec, stepG.oper, Frame.oper?, F, ho, hw, he]
    | some l =>
      simp only [stepG, stepG.exec, F, ho, Option.map_some, Option.getD_some, hw, if_true]
      simp only [stepG.oper, Frame.oper?, ho]
      have he2 : (F fn dfr (some l) tm df (.inRegion ops (i :: rest) :: k) .run).eval = ev tm := he
      simp only [F] at he2
      rw [he2]
      cases hop : o.op <;> first
        | rfl
        | exact absurd hop (hd _)
section
variable {ops : Array Oper} {i : Nat} {rest : List Nat} {o : Oper} (ho : ops[i]? = some o) (hw : Region.wanted o (yielded ops tm) = true) (hd : rd = none ∨ ∀ c, o.op ≠ .defer c) {w' : World}
include ho hw hd
theorem zdB {v : Value} (h : (execOp (ev tm) o).run P w = .ok (.value v) w') :
    step P (lone (F fn dfr rd tm df (.inRegion ops (i :: rest) :: k) .run) cs w) = .next (lone (F fn dfr rd (put tm o.dst v) df (.inRegion ops rest :: k) .run) cs w') := by
  have hf := zcg (fn := fn) (dfr := dfr) (rd := rd) (tm := tm) (df := df) (k := k) (ops := ops) (i := i) (rest := rest) (mode := .run) v
  rw [ho] at hf
  simp only [Option.bind_some] at hf
  rw [← hf]
  exact step_lone_go (by rw [zfM ho hw hd]; simp [stepG.apply, h])
theorem ziU (h : (execOp (ev tm) o).run P w = .ok .skip w') :
    step P (lone (F fn dfr rd tm df (.inRegion ops (i :: rest) :: k) .run) cs w) = .next (lone (F fn dfr rd (put tm o.dst undef) df (.inRegion ops rest :: k) .run) cs w') := by
  have hf := zcg (fn := fn) (dfr := dfr) (rd := rd) (tm := tm) (df := df) (k := k) (ops := ops) (i := i) (rest := rest) (mode := .run) undef
  rw [ho] at hf
  simp only [Option.bind_some] at hf
  rw [← hf]
  exact step_lone_go (by rw [zfM ho hw hd]; simp [stepG.apply, h])
theorem st_enter {f : FuncId} {args : Array Value} (h : (execOp (ev tm) o).run P w = .ok (.enter f args) w') :
    step P (lone (F fn dfr rd tm df (.inRegion ops (i :: rest) :: k) .run) cs w) = .next (lone (Frame.enter P f args .normal) (F fn dfr rd tm df (.inRegion ops (i :: rest) :: k) .run :: cs) w') :=
  step_lone_go (by rw [zfM ho hw hd]; simp [stepG.apply, h, F])
theorem zhY {l : Nat} {f : FuncId} {tmps : Array Value} {assign body : Code} (h : (execOp (ev tm) o).run P w = .ok (.round l f tmps assign body) w') :
    step P (lone (F fn dfr rd tm df (.inRegion ops (i :: rest) :: k) .run) cs w) = .next (lone (Frame.round l f tmps assign body .normal) (F fn dfr rd tm df (.inRegion ops (i :: rest) :: k) .run :: cs) w') :=
  step_lone_go (by rw [zfM ho hw hd]; simp [stepG.apply, h])
theorem st_panic {v : Value} (h : (execOp (ev tm) o).run P w = .halt (.panic v) w') :
    step P (lone (F fn dfr rd tm df (.inRegion ops (i :: rest) :: k) .run) cs w) = .next (lone (F fn dfr rd tm df (.inRegion ops (i :: rest) :: k) (.panicking [{ v, recovered := false }])) cs w') := by
  rw [← zhS]
  exact step_lone_go (by rw [zfM ho hw hd]; simp [stepG.apply, h])
theorem st_defer {d : Deferred} (h : (execOp (ev tm) o).run P w = .ok (.defer d) w') :
    step P (lone (F fn dfr rd tm df (.inRegion ops (i :: rest) :: k) .run) cs w) = .next (lone (F fn dfr rd (put tm o.dst undef) (d :: df) (.inRegion ops rest :: k) .run) cs w') := by
  have hf := zcg (fn := fn) (dfr := dfr) (rd := rd) (tm := tm) (df := d :: df) (k := k) (ops := ops) (i := i) (rest := rest) (mode := .run) undef
  rw [ho] at hf
  simp only [Option.bind_some] at hf
  rw [← hf]
  exact step_lone_go (by rw [zfM ho hw hd]; simp only [stepG.apply, Sem.runT_eq, h, GStep.bare_after]; rfl)
theorem zgQ (hk : dfr = false) (hrd : rd = none) (h : (execOp (ev tm) o).run P w = .ok .recover w') :
    step P (lone (F fn dfr rd tm df (.inRegion ops (i :: rest) :: k) .run) cs w) = .next (lone (F fn dfr rd (put tm o.dst .nilIface) df (.inRegion ops rest :: k) .run) cs w') := by
  have hf := zcg (fn := fn) (dfr := dfr) (rd := rd) (tm := tm) (df := df) (k := k) (ops := ops) (i := i) (rest := rest) (mode := .run) .nilIface
  rw [ho] at hf
  simp only [Option.bind_some] at hf
  rw [← hf]
  have ht : tryRecover (F fn dfr rd tm df (.inRegion ops (i :: rest) :: k) .run) cs = none := by subst hk; simp [tryRecover, F]
  have hr : (F fn dfr rd tm df (.inRegion ops (i :: rest) :: k) .run).roundOf = none := hrd
  refine step_lone_go ?_
  rw [zfM ho hw hd]
  simp only [stepG.apply, Sem.runT_eq, h, GStep.bare_after, if_true, hr, ht, GStep.bare_go]
theorem zgR {c0 : Frame} {cs0 : List Frame} (hk : dfr = true) (hrd : rd = none) (h : (execOp (ev tm) o).run P w = .ok .recover w') :
    step P (lone (F fn dfr rd tm df (.inRegion ops (i :: rest) :: k) .run) (c0 :: cs0) w) =
      .next (lone (F fn dfr rd (put tm o.dst (recoverB c0.mode).1) df (.inRegion ops rest :: k) .run) ({ c0 with mode := (recoverB c0.mode).2 } :: cs0) w') := by
  have hf := zcg (fn := fn) (dfr := dfr) (rd := rd) (tm := tm) (df := df) (k := k) (ops := ops) (i := i) (rest := rest) (mode := .run) (recoverB c0.mode).1
  rw [ho] at hf
  simp only [Option.bind_some] at hf
  rw [← hf]
  have hr : (F fn dfr rd tm df (.inRegion ops (i :: rest) :: k) .run).roundOf = none := hrd
  have hkind : (F fn dfr rd tm df (.inRegion ops (i :: rest) :: k) .run).kind = .deferred := by subst hk; rfl
  have ht := tryRecover_deferred hkind (c0 :: cs0)
  refine step_lone_go ?_
  rw [zfM ho hw hd]
  simp only [stepG.apply, Sem.runT_eq, h, GStep.bare_after, hr, ht]
  obtain ⟨f1, t1, td1, d1, m1, k1, r1⟩ := c0
  simp only [recoverD, recoverB]
  cases m1 with
  | run => rfl
  | returning => rfl
  | panicking ch =>
    cases ch with
    | nil => rfl
    | cons e older =>
      obtain ⟨v, rec, gx⟩ := e
      cases rec <;> cases gx <;> rfl
end
end
end Go.AX

namespace Go.AX
open Go.RowKit
def EntR (ρ : Ren) (e e' : PanicEntry) : Prop := VR ρ e.v e'.v ∧ e'.recovered = e.recovered ∧ e'.goexit = e.goexit
def AllR {α : Type} (r : α → α → Prop) (l l' : List α) : Prop := l.length = l'.length ∧ ∀ (i : Nat) (a a' : α), l[i]? = some a → l'[i]? = some a' → r a a'
theorem AllR.nil {α : Type} (r : α → α → Prop) : AllR r [] [] := ⟨rfl, by simp⟩
theorem AllR.cons {α : Type} {r : α → α → Prop} {a a' : α} {l l' : List α} (h : r a a') (k : AllR r l l') : AllR r (a :: l) (a' :: l') := by
  refine ⟨by simp [k.1], fun i x x' e e' => ?_⟩
  cases i with
  | zero => simp at e e'; subst e; subst e'; exact h
  | succ i => simp at e e'; exact k.2 i x x' e e'
theorem AllR.mono {α : Type} {r q : α → α → Prop} (h : ∀ a b, r a b → q a b) {l l' : List α} (k : AllR r l l') : AllR q l l' := ⟨k.1, fun i a a' e e' => h _ _ (k.2 i a a' e e')⟩
theorem AllR.inv {α : Type} {r : α → α → Prop} {a : α} {l l' : List α} (k : AllR r (a :: l) l') : ∃ b m, l' = b :: m ∧ r a b ∧ AllR r l m := by
  cases l' with
  | nil => have := k.1; simp at this
  | cons b m => exact ⟨b, m, rfl, k.2 0 a b rfl rfl, by simpa using k.1, fun i x y e e' => k.2 (i + 1) x y (by simpa using e) (by simpa using e')⟩
theorem AllR.nil_inv {α : Type} {r : α → α → Prop} {l' : List α} (k : AllR r [] l') : l' = [] := by cases l' with
  | nil => rfl
  | cons b m => have := k.1; simp at this
theorem AllR.append {α : Type} {r : α → α → Prop} : ∀ {l l' m m' : List α}, AllR r l l' → AllR r m m' → AllR r (l ++ m) (l' ++ m') := by
  intro l
  induction l with
  | nil => intro l' m m' h k; rw [h.nil_inv]; exact k
  | cons a l ih => intro l' m m' h k; obtain ⟨b, q, rfl, h1, h2⟩ := h.inv; exact AllR.cons h1 (ih h2 k)
def ChR (ρ : Ren) (c c' : List PanicEntry) : Prop := AllR (EntR ρ) c c'
def DsR (ρ : Ren) (d d' : List Deferred) : Prop := AllR (DfR ρ) d d'
theorem EntR.mono {ρ ρ' : Ren} (k : Le ρ ρ') {a b : PanicEntry} (h : EntR ρ a b) : EntR ρ' a b := ⟨h.1.mono k, h.2⟩
theorem ChR.mono {ρ ρ' : Ren} (k : Le ρ ρ') {a b : List PanicEntry} (h : ChR ρ a b) : ChR ρ' a b := AllR.mono (fun _ _ x => x.mono k) h
theorem DsR.mono {ρ ρ' : Ren} (k : Le ρ ρ') {a b : List Deferred} (h : DsR ρ a b) : DsR ρ' a b := AllR.mono (fun _ _ x => x.mono k) h
inductive UpR (ρ : Ren) : FrameMode → FrameMode → Prop
  | run : UpR ρ .run .run
  | ret : UpR ρ .returning .returning
  | pan {c c' : List PanicEntry} (h : ChR ρ c c') : UpR ρ (.panicking c) (.panicking c')
theorem UpR.mono {ρ ρ' : Ren} (k : Le ρ ρ') {a b : FrameMode} (h : UpR ρ a b) : UpR ρ' a b := by
  cases h with
  | run => exact .run
  | ret => exact .ret
  | pan h => exact .pan (h.mono k)
def RdR (ρ : Ren) : Option Nat → Option Nat → Prop
  | none, none => True
  | some l, some l' => ∃ s, ρ l = some s ∧ l' = s.g
  | _, _ => False
theorem RdR.mono {ρ ρ' : Ren} (k : Le ρ ρ') {a b : Option Nat} (h : RdR ρ a b) : RdR ρ' a b := by
  cases a <;> cases b <;> simp_all [RdR]
  obtain ⟨s, x, y⟩ := h; exact ⟨s, k _ _ x, y⟩
def CsR (ρ : Ren) (dfr : Bool) (up : FrameMode) (cs0 cs : List Frame) : Prop :=
  if dfr then ∃ c0 rest m, cs0 = c0 :: rest ∧ cs = { c0 with mode := m } :: rest ∧ UpR ρ up m else cs = cs0
theorem CsR.mono {ρ ρ' : Ren} (k : Le ρ ρ') {dfr : Bool} {up : FrameMode} {cs0 cs : List Frame} (h : CsR ρ dfr up cs0 cs) : CsR ρ' dfr up cs0 cs := by
  unfold CsR at *
  split at h
  · rename_i hd; rw [if_pos hd]; obtain ⟨a, b, c, d, e, f⟩ := h; exact ⟨a, b, c, d, e, f.mono k⟩
  · rename_i hd; rw [if_neg hd]; exact h
structure SR (P : Program) (N : Nat → Prop) (w0 : World) (ρ : Ren) (x : Ctx) (rd : Option Nat) (cs0 : List Frame) (s : St) (tm' : Array Value) (df' : List Deferred) (cs : List Frame) (w : World) : Prop where
  r : R P N w0 ρ s.h w
  tm : XR ρ s.tm tm'
  df : DsR ρ s.df df'
  cs : CsR ρ x.dfr s.up cs0 cs
  rd : RdR ρ x.round rd
def Land (P : Program) (ρ : Ren) (M : Machine) (G : List Item → FrameMode → Machine) (k : List Item) : Ex → Prop
  | .normal => Steps P M (G k .run)
  | .ret => ∃ k1, Steps P M (G (.code .ret :: k1) .run)
  | .exit id => ∃ k1, exitTo id k1 = exitTo id k ∧ Steps P M (G (.code (.exit id) :: k1) .run)
  | .panic ch => ∃ k1 ch', ChR ρ ch ch' ∧ Steps P M (G k1 (.panicking ch'))
theorem Land.steps {P : Program} {ρ : Ren} {M M' : Machine} {G : List Item → FrameMode → Machine} {k : List Item} {e : Ex} (h : Steps P M M') (l : Land P ρ M' G k e) : Land P ρ M G k e := by
  cases e with
  | normal => exact h.trans l
  | ret => obtain ⟨a, b⟩ := l; exact ⟨a, h.trans b⟩
  | exit id => obtain ⟨a, c, b⟩ := l; exact ⟨a, c, h.trans b⟩
  | panic ch => obtain ⟨a, c, d, b⟩ := l; exact ⟨a, c, d, h.trans b⟩
def SimCode (P : Program) (N : Nat → Prop) (w0 : World) (x : Ctx) (c : List Item) (s : St) (e : Ex) (s1 : St) : Prop :=
  ∀ ρ rd cs0 tm' df' cs w k, SR P N w0 ρ x rd cs0 s tm' df' cs w →
    ∃ ρ1 tm1 df1 cs1 w1, Le ρ ρ1 ∧ (∀ A, A < s.h.n → ρ1 A = ρ A) ∧ SR P N w0 ρ1 x rd cs0 s1 tm1 df1 cs1 w1 ∧
      Land P ρ1 (lone (F x.fn x.dfr rd tm' df' (c ++ k) .run) cs w) (fun todo mode => lone (F x.fn x.dfr rd tm1 df1 todo mode) cs1 w1) k e
def EndR (ρ : Ren) : End → Ending → Prop
  | .ret v, .returned v' => VR ρ v v'
  | .panic c, .panicked c' => ChR ρ c c'
  | _, _ => False
def SimCall (P : Program) (N : Nat → Prop) (w0 : World) (f : FuncId) (args : Array Value) (dfr : Bool) (up : FrameMode) (h : Heap) (e : End) (up1 : FrameMode) (h1 : Heap) : Prop :=
  ∀ ρ args' cs0 cs w, R P N w0 ρ h w → XR ρ args args' → CsR ρ dfr up cs0 cs →
    ∃ ρ1 cs1 w1 e' fr, Le ρ ρ1 ∧ (∀ A, A < h.n → ρ1 A = ρ A) ∧ R P N w0 ρ1 h1 w1 ∧ CsR ρ1 dfr up1 cs0 cs1 ∧ EndR ρ1 e e' ∧
      Steps P (lone (Frame.enter P f args' (if dfr then .deferred else .normal)) cs w) (lone fr cs1 w1) ∧ fr.kind = (if dfr then .deferred else .normal) ∧ fr.fn = f ∧ fr.going P w1 e'
def SimRound (P : Program) (N : Nat → Prop) (w0 : World) (l : Nat) (args : Array Value) (h : Heap) (e : End) (h1 : Heap) : Prop :=
  ∀ ρ sl args' c cs w, R P N w0 ρ h w → ρ l = some sl → XR ρ args args' →
    ∃ ρ1 w1 e', Le ρ ρ1 ∧ (∀ A, A < h.n → ρ1 A = ρ A) ∧ R P N w0 ρ1 h1 w1 ∧ EndR ρ1 e e' ∧
      ∃ fn tmps assign body, (Instr.yield sl.g args').run P w = .ok (.round sl.g fn tmps assign body) w ∧
        Steps P (lone (Frame.round sl.g fn tmps assign body .normal) (c :: cs) w) (match e' with
          | .returned v => lone (c.finish v) cs w1
          | .panicked ch => lone (c.raise ch) cs w1
          | .outgrown => lone c cs w1)
def Safe (Good : World → Prop) (N : Nat → Prop) (w0 : World) : Prop := ∀ w, Kept N w0 w → Good w
structure Sims (P : Program) (Rr : Recs) (Good : World → Prop) : Prop where
  code : ∀ N w0, Safe Good N w0 → ∀ x c s e s1, Rr.code x c s = some (e, s1) → SimCode P N w0 x [.code c] s e s1
  loop : ∀ N w0, Safe Good N w0 → ∀ x c s e s1, Rr.code x (.loop c) s = some (e, s1) → SimCode P N w0 x [.inLoop c] s e s1
  call : ∀ N w0, Safe Good N w0 → ∀ f args dfr up h e up1 h1, Rr.call f args dfr up h = some (e, up1, h1) → SimCall P N w0 f args dfr up h e up1 h1
  round : ∀ N w0, Safe Good N w0 → ∀ l args h e h1, Rr.round l args h = some (e, h1) → SimRound P N w0 l args h e h1
end Go.AX

namespace Go.AX
def ro : Blk → Bool
  | .cells _ _ false => true
  | _ => false
structure Gr (h h1 : Heap) : Prop where
  le : h.n ≤ h1.n
  ro : ∀ A b, h1.get? A = some b → ro b = true → h.get? A = some b
theorem Gr.refl (h : Heap) : Gr h h := ⟨Nat.le_refl _, fun _ _ e _ => e⟩
theorem Gr.trans {a b c : Heap} (h : Gr a b) (k : Gr b c) : Gr a c := ⟨Nat.le_trans h.le k.le, fun A x e r => h.ro A x (k.ro A x e r) r⟩
theorem Gr.push (h : Heap) {b : Blk} (hb : AX.ro b = false) : Gr h (h.push b) := by
  refine ⟨by simp [Heap.push], fun A x e r => ?_⟩
  rw [Heap.get_push] at e
  split at e
  · cases e; rw [hb] at r; cases r
  · exact e
theorem Gr.set (h : Heap) (i : Nat) {b : Blk} (hb : AX.ro b = false) : Gr h (h.set i b) := by
  refine ⟨by simp [Heap.set], fun A x e r => ?_⟩
  have hA : A < h.n := show A < (h.set i _).n from Heap.get_lt e
  by_cases hi : i < h.n
  · rw [Heap.get_set' h hi] at e
    split at e
    · cases hg : h.get? i with
      | none => rw [hg] at e; cases e
      | some y => rw [hg] at e; cases e; rw [hb] at r; cases r
    · exact e
  · unfold Heap.get? Heap.set at *
    dsimp only at e
    rw [if_pos hA] at e ⊢
    rw [Bt.get_set] at e
    split at e
    · rename_i c
      rw [show h.n - 1 - i = h.n - 1 - A from by omega] at e
      cases hg : h.bs.get (h.n - 1 - A) with
      | none => rw [hg] at e; cases e
      | some y => rw [hg] at e; cases e; rw [hb] at r; cases r
    · exact e
section
variable {P : Program} {h h1 : Heap} {v : Value}
theorem zgD {t : TypeId} {u : Value} (e : boxB P h t u = some (v, h1)) : Gr h h1 := by
  unfold boxB newB at e
  repeat' split at e
  all_goals first | (cases e; exact Gr.push _ rfl) | (cases e; done)
theorem zdx {t : TypeId} {len : Nat} {parts : List (Nat × Value)} (e : buildSliceB P h t len parts = some (v, h1)) : Gr h h1 := by
  unfold buildSliceB at e
  repeat' split at e
  all_goals first | (cases e; done) | (cases e; exact Gr.push _ rfl)
theorem zd7 {t : TypeId} {l c : Value} (e : makeSliceB P h t l c = some (v, h1)) : Gr h h1 := by
  unfold makeSliceB at e
  repeat' split at e
  all_goals first | (cases e; done) | (cases e; exact Gr.push _ rfl)
theorem zha {t : TypeId} {x : Value} (e : rangeB P h t x = some (v, h1)) : Gr h h1 := by
  unfold rangeB at e
  repeat' split at e
  all_goals first | (cases e; done) | (cases e; exact Gr.push _ rfl)
theorem zd3 {u : Option Value} (e : (u.map fun v => (v, h)) = some (v, h1)) : Gr h h1 := by
  cases u with
  | none => simp at e
  | some q => simp at e; rw [e.2]; exact Gr.refl _
theorem ziT {u : Option ByteArray} (e : (u.map fun s => (Value.string s, h)) = some (v, h1)) : Gr h h1 := by
  cases u with
  | none => simp at e
  | some q => simp at e; rw [e.2]; exact Gr.refl _
theorem zfx {tm : Array Value} {o : Oper} {s d : TypeId} {x : Value} (e : convertB P tm h o s d x = some (v, h1)) : Gr h h1 := by
  unfold convertB at e
  repeat' split at e
  all_goals first
    | (cases e; done)
    | exact zd3 e
    | exact ziT e
    | (cases e; exact Gr.push _ rfl)
theorem zdn {tm : Array Value} {o : Oper} (e : simpleB P tm h o = some (v, h1)) : Gr h h1 := by
  unfold simpleB at e
  simp only at e
  split at e
  all_goals first
    | exact zd3 e
    | (cases e; exact Gr.refl _)
    | (cases e; exact Gr.push _ rfl)
    | exact zgD e
    | exact zdx e
    | exact zd7 e
    | exact zha e
    | exact zfx e
    | (repeat' split at e
       all_goals first
        | (cases e; done)
        | exact zd3 e
        | exact zgD e
        | (cases e; exact Gr.refl _))
    | (cases e; done)
theorem zgM {t : TypeId} {x a : Value} (e : writeB P h t x a = some h1) : Gr h h1 := by
  unfold writeB at e
  repeat' split at e
  all_goals first | (cases e; done) | (first | (cases e; exact Gr.set _ _ rfl) | (cases e; exact Gr.push _ rfl) | (cases e; exact Gr.refl _))
theorem zcp {t : TypeId} {m k x : Value} (e : mapUpdateB P h t m k x = some h1) : Gr h h1 := by
  unfold mapUpdateB at e
  repeat' split at e
  all_goals first | (cases e; done) | (first | (cases e; exact Gr.set _ _ rfl) | (cases e; exact Gr.push _ rfl) | (cases e; exact Gr.refl _))
theorem zeF {t : TypeId} {m k : Value} (e : mapEntryB P h t m k = some (v, h1)) : Gr h h1 := by
  unfold mapEntryB at e
  repeat' split at e
  all_goals first | (cases e; done) | (first | (cases e; exact Gr.set _ _ rfl) | (cases e; exact Gr.push _ rfl) | (cases e; exact Gr.refl _))
theorem zdw {m s x : Value} (e : entryStoreB h m s x = some h1) : Gr h h1 := by
  unfold entryStoreB at e
  repeat' split at e
  all_goals first | (cases e; done) | (first | (cases e; exact Gr.set _ _ rfl) | (cases e; exact Gr.push _ rfl) | (cases e; exact Gr.refl _))
theorem zjm {it : Value} {b : Bool} (e : nextB h it b = some (v, h1)) : Gr h h1 := by
  unfold nextB at e
  repeat' split at e
  all_goals first | (cases e; done) | (first | (cases e; exact Gr.set _ _ rfl) | (cases e; exact Gr.push _ rfl) | (cases e; exact Gr.refl _))
theorem zgH {ats : Array TypeId} {x y : Value} (e : appendB P h ats x y = some (v, h1)) : Gr h h1 := by
  unfold appendB appendRow appendZ at e
  repeat' split at e
  all_goals first | (cases e; done) | (first | (cases e; exact (Gr.set _ _ rfl).trans (Gr.push _ rfl)) | (cases e; exact Gr.set _ _ rfl) | (cases e; exact Gr.push _ rfl) | (cases e; exact Gr.refl _))
theorem zjz {ats : Array TypeId} {x y : Value} (e : copyB P h ats x y = some (v, h1)) : Gr h h1 := by
  unfold copyB at e
  simp only at e
  repeat' split at e
  all_goals first | (cases e; done) | (first | (cases e; exact Gr.set _ _ rfl) | (cases e; exact Gr.push _ rfl) | (cases e; exact Gr.refl _))
theorem zhH {ats : Array TypeId} {x : Value} (e : clearB P h ats x = some (v, h1)) : Gr h h1 := by
  unfold clearB at e
  repeat' split at e
  all_goals first | (cases e; done) | (first | (cases e; exact Gr.set _ _ rfl) | (cases e; exact Gr.refl _))
theorem zgA {ats : Array TypeId} {x y : Value} (e : deleteB P h ats x y = some (v, h1)) : Gr h h1 := by
  unfold deleteB at e
  repeat' split at e
  all_goals first | (cases e; done) | (first | (cases e; exact Gr.set _ _ rfl) | (cases e; exact Gr.refl _))
theorem za9 {tm : Array Value} {o : Oper} {out : Out} (e : effectB P tm h o = some (out, h1)) : Gr h h1 := by
  have hvh : ∀ {u : Option (Value × Heap)}, (u.map fun (v, h) => (Out.val v, h)) = some (out, h1) → ∃ v, u = some (v, h1) := by
    intro u hu
    cases u with
    | none => simp at hu
    | some q => simp at hu; exact ⟨q.1, by rw [← hu.2]⟩
  have hhh : ∀ {u : Option Heap}, (u.map fun h => (Out.val undef, h)) = some (out, h1) → u = some h1 := by
    intro u hu
    cases u with
    | none => simp at hu
    | some q => simp at hu; rw [hu.2]
  have hoo : ∀ {u : Option Out}, (u.map fun r => (r, h)) = some (out, h1) → Gr h h1 := by
    intro u hu
    cases u with
    | none => simp at hu
    | some q => simp at hu; rw [hu.2]; exact Gr.refl _
  unfold effectB at e
  simp only at e
  split at e
  · exact zgM (hhh e)
  · exact zcp (hhh e)
  · exact zcp (hhh e)
  · obtain ⟨_, q⟩ := hvh e; exact zeF q
  · exact zdw (hhh e)
  · obtain ⟨_, q⟩ := hvh e; exact zjm q
  all_goals first
    | exact hoo e
    | (cases e; exact Gr.refl _)
    | (split at e <;> first
        | (obtain ⟨_, q⟩ := hvh e; exact zgH q)
        | (obtain ⟨_, q⟩ := hvh e; exact zjz q)
        | (obtain ⟨_, q⟩ := hvh e; exact zhH q)
        | (obtain ⟨_, q⟩ := hvh e; exact zgA q)
        | (cases e; done)
        | (cases e; exact Gr.refl _)
        | (split at e <;> first | (cases e; done) | (cases e; exact Gr.refl _)))
    | (cases e; done)
structure Grows (Rr : Recs) : Prop where
  code : ∀ x c s e s1, Rr.code x c s = some (e, s1) → Gr s.h s1.h
  call : ∀ f args dfr up h e up1 h1, Rr.call f args dfr up h = some (e, up1, h1) → Gr h h1
  round : ∀ l args h e h1, Rr.round l args h = some (e, h1) → Gr h h1
variable {Rr : Recs}
theorem zbu (G : Grows Rr) {x : Ctx} {s s1 : St} {o : Oper} {d : Did} (e : doOp P Rr x s o = some (d, s1)) : Gr s.h s1.h := by
  unfold doOp at e
  split at e
  · cases e
  split at e
  · rename_i hh; cases e; exact zdn hh
  split at e
  · cases e
  split at e
  · cases e
  · rename_i hh; cases e; exact za9 hh
  · rename_i hh
    split at e
    · rename_i hc; cases e; exact Gr.trans (za9 hh) (G.call _ _ _ _ _ _ _ _ hc)
    · rename_i hc; cases e; exact Gr.trans (za9 hh) (G.call _ _ _ _ _ _ _ _ hc)
    · cases e
  · rename_i hh
    split at e
    · rename_i hc; cases e; exact Gr.trans (za9 hh) (G.round _ _ _ _ _ hc)
    · rename_i hc; cases e; exact Gr.trans (za9 hh) (G.round _ _ _ _ _ hc)
    · cases e
  · rename_i hh
    split at e
    · cases e
    · cases e; exact za9 hh
  · rename_i hh
    split at e
    · cases e
    · split at e <;> (cases e; exact za9 hh)
  · rename_i hh; cases e; exact za9 hh
theorem zk9 {x : Ctx} {s s1 : St} {o : Oper} {d : Did} (e : doOp P Rr x s o = some (d, s1)) : s1.tm = s.tm := by
  unfold doOp at e
  split at e
  · cases e
  split at e
  · cases e; rfl
  split at e
  · cases e
  split at e
  · cases e
  · cases e; rfl
  · split at e <;> first | (cases e; rfl) | cases e
  · split at e <;> first | (cases e; rfl) | cases e
  · split at e <;> first | (cases e; done) | (cases e; rfl)
  · split at e
    · cases e
    · split at e <;> (cases e; rfl)
  · cases e; rfl
theorem zfO (G : Grows Rr) {x : Ctx} {ops : Array Oper} : ∀ (l : List Nat) (s : St) (e : Ex) (s1 : St), seqOps P Rr x ops l s = some (e, s1) → Gr s.h s1.h := by
  intro l
  induction l with
  | nil => intro s e s1 he; simp only [seqOps] at he; cases he; exact Gr.refl _
  | cons i l ih =>
    intro s e s1 he
    simp only [seqOps] at he
    split at he
    · cases he
    split at he
    · split at he
      · rename_i hop; have h2 := zbu G hop; have h3 := ih _ _ _ he; exact Gr.trans h2 h3
      · rename_i hop; cases he; exact zbu G hop
      · cases he
    · have h3 := ih _ _ _ he; exact h3
theorem zim (l : List (Nat × Nat × Blk)) : ∀ h : Heap, (hide l h).n = h.n := by
  induction l with
  | nil => intro h; rfl
  | cons p l ih => intro h; simp only [hide, List.foldl_cons]; exact ih _
theorem zhU (l : List (Nat × Nat × Blk)) : ∀ h : Heap, (unhide l h).n = h.n := by
  induction l with
  | nil => intro h; rfl
  | cons p l ih => intro h; simp only [unhide, List.foldl_cons]; exact ih _
theorem hide_gr (l : List (Nat × Nat × Blk)) : ∀ h : Heap, Gr h (hide l h) := by
  induction l with
  | nil => intro h; exact Gr.refl _
  | cons p l ih => intro h; simp only [hide, List.foldl_cons]; exact (Gr.set h p.2.1 (b := .dead) rfl).trans (ih _)
theorem zjS (l : List (Nat × Nat × Blk)) (hl : ∀ p ∈ l, ro p.2.2 = false) : ∀ h : Heap, Gr h (unhide l h) := by
  induction l with
  | nil => intro h; exact Gr.refl _
  | cons p l ih => intro h; simp only [unhide, List.foldl_cons]; exact (Gr.set h p.2.1 (hl p (by simp))).trans (ih (fun q hq => hl q (by simp [hq])) _)
def NewsOwn (z : Open) : Prop := ∀ p ∈ z.news, ro p.2.2 = false
theorem ziQ {z : Open} (hz : NewsOwn z) (ps : List (List Nat)) (i : Nat) : ∀ p ∈ unseen ps z.news i, ro p.2.2 = false := by
  intro p hp; exact hz p (List.mem_filter.1 hp).1
theorem zeD (G : Grows Rr) {x : Ctx} {ops : Array Oper} {ps : List (List Nat)} {z z1 : Open} {i : Nat} (hz : NewsOwn z)
    (e : openStep P Rr x ops ps z i = some z1) : Gr z.s.h z1.s.h ∧ NewsOwn z1 := by
  unfold openStep at e
  split at e
  · cases e
  split at e
  · split at e
    · unfold openSimple at e
      split at e
      · cases e
      · rename_i hs
        split at e
        · cases e; exact ⟨Gr.refl _, hz⟩
        · rename_i hne
          split at e
          · rename_i b hb
            cases e
            split at hs
            · have hg := zdn hs
              refine ⟨hg, fun p hp => ?_⟩
              rcases List.mem_cons.1 hp with rfl | hp
              · show ro b = false
                cases hr : ro b with
                | false => rfl
                | true => have := hg.ro _ _ hb hr; have := Heap.get_lt this; omega
              · exact hz p hp
            · cases hs
          · cases e
    · cases e; exact ⟨Gr.refl _, hz⟩
  split at e
  · unfold openAct at e
    split at e
    · rename_i hd
      split at e
      case isFalse => cases e
      cases e
      have h2 := zbu G hd
      exact ⟨(hide_gr _ _).trans (h2.trans (zjS _ (ziQ hz _ _) _)), hz⟩
    · cases e
  · cases e; exact ⟨Gr.refl _, hz⟩
theorem zeE (G : Grows Rr) {x : Ctx} {ops : Array Oper} {ps : List (List Nat)} : ∀ (l : List Nat) (z z1 : Open), NewsOwn z → l.foldlM (openStep P Rr x ops ps) z = some z1 → Gr z.s.h z1.s.h ∧ NewsOwn z1 := by
  intro l
  induction l with
  | nil => intro z z1 hz e; simp at e; subst e; exact ⟨Gr.refl _, hz⟩
  | cons i l ih =>
    intro z z1 hz e
    simp only [List.foldlM_cons, Option.bind_eq_bind, Option.bind_eq_some_iff] at e
    obtain ⟨z2, h2, h3⟩ := e
    have h4 := zeD G hz h2
    have h5 := ih _ _ h4.2 h3
    exact ⟨h4.1.trans h5.1, h5.2⟩
theorem zfi (G : Grows Rr) {x : Ctx} {ops : Array Oper} {s : St} {e : Ex} {s1 : St} (he : openOps P Rr x ops s = some (e, s1)) : Gr s.h s1.h := by
  unfold openOps at he
  split at he
  · split at he
    · rename_i z hz
      have h := zeE G _ _ _ (fun p hp => by cases hp) hz
      split at he
      · cases he; exact h.1
      · cases he
    · cases he
  · cases he
theorem zcr {x : Ctx} {s : St} {params : Array Tmp} {assign body : Code} {l : Nat} {m : List Deferred} {h1 : Heap} (e : enterLoopB x s params assign body = some (l, m, h1)) : Gr s.h h1 := by
  unfold enterLoopB at e
  split at e
  · split at e
    · cases e; exact Gr.push _ rfl
    · cases e
  · cases e; exact (Gr.push _ rfl).trans (Gr.push _ rfl)
theorem zdV (G : Grows Rr) {x : Ctx} {s : St} {f : Operand} {params : Array Tmp} {assign body : Code} {e : Ex} {s1 : St} (he : rangeFuncB P Rr x s f params assign body = some (e, s1)) : Gr s.h s1.h := by
  unfold rangeFuncB at he
  split at he
  · cases he
  rename_i hl
  have h0 := zcr hl
  simp only at he
  split at he
  · cases he
  split at he
  · split at he
    · rename_i hc
      have h1 := G.call _ _ _ _ _ _ _ _ hc
      split at he
      · split at he
        · cases he
        split at he
        · cases he; exact h0.trans (h1.trans (Gr.set _ _ rfl))
        · have h2 := G.code _ _ _ _ _ he
          exact h0.trans (h1.trans ((Gr.set _ _ rfl).trans h2))
      · cases he
    · rename_i hc
      have h1 := G.call _ _ _ _ _ _ _ _ hc
      cases he; exact h0.trans h1
    · cases he
  · cases he
theorem zhG (G : Grows Rr) {x : Ctx} {c : Code} {s : St} {e : Ex} {s1 : St} (he : codeF P Rr x c s = some (e, s1)) : Gr s.h s1.h := by
  unfold codeF at he
  split at he
  · cases he; exact Gr.refl _
  · cases he; exact Gr.refl _
  · split at he
    · exact zfi G he
    · exact zfO G _ _ _ _ he
  · split at he
    · rename_i h1; exact Gr.trans (G.code _ _ _ _ _ h1) (G.code _ _ _ _ _ he)
    · exact G.code _ _ _ _ _ he
  · split at he
    · exact G.code _ _ _ _ _ he
    · cases he
  · split at he
    · rename_i h1
      have := G.code _ _ _ _ _ h1
      split at he <;> (cases he; exact this)
    · exact G.code _ _ _ _ _ he
  · split at he
    · rename_i h1; exact Gr.trans (G.code _ _ _ _ _ h1) (G.code _ _ _ _ _ he)
    · exact G.code _ _ _ _ _ he
  · exact G.code _ _ _ _ _ he
  · cases he; exact Gr.refl _
  · cases he; exact Gr.refl _
  · exact zdV G he
  · cases he
  · cases he
theorem zho (G : Grows Rr) {fn : Func} {tm : Array Value} : ∀ (ds : List Deferred) (u : FrameMode) (h : Heap) (e : End) (h1 : Heap), leaveB P Rr fn tm ds u h = some (e, h1) → Gr h h1 := by
  intro ds
  induction ds with
  | nil =>
    intro u h e h1 he
    cases u with
    | run => simp [leaveB] at he
    | returning =>
      simp only [leaveB] at he
      cases hr : resultsB P fn tm h with
      | none => simp [hr] at he
      | some v => simp [hr] at he; rw [he.2]; exact Gr.refl _
    | panicking c => simp only [leaveB] at he; cases he; exact Gr.refl _
  | cons d ds ih =>
    intro u h e h1 he
    simp only [leaveB] at he
    split at he
    · cases he
    split at he
    · split at he
      · exact (Gr.set _ _ rfl).trans (ih _ _ _ _ he)
      · cases he
    · split at he
      · split at he
        · rename_i hc; exact Gr.trans (G.call _ _ _ _ _ _ _ _ hc) (ih _ _ _ _ he)
        · rename_i hc; exact Gr.trans (G.call _ _ _ _ _ _ _ _ hc) (ih _ _ _ _ he)
        · cases he
      · cases he
    · cases he
theorem zfh : ∀ (l : List (List Value × TypeId)) (h : Heap), Gr h (pushAll h l) := by
  intro l
  induction l with
  | nil => intro h; exact Gr.refl _
  | cons p l ih =>
    intro h
    refine Gr.trans ?_ (ih _)
    unfold layB
    cases Nat.beq p.2 killT with
    | true => exact Gr.set h _ rfl
    | false =>
      cases Nat.beq p.2 turnT with
      | false => exact Gr.push h rfl
      | true =>
        show Gr h (turnB h p.1)
        unfold turnB
        split
        · exact Gr.set h _ rfl
        · exact Gr.refl h
theorem zhI (G : Grows Rr) {K : Known} {f : FuncId} {args : Array Value} {dfr : Bool} {up : FrameMode} {h : Heap} {e : End} {up1 : FrameMode} {h1 : Heap} (he : callF P K Rr f args dfr up h = some (e, up1, h1)) : Gr h h1 := by
  unfold callF at he
  split at he
  · cases he; exact zfh _ _
  split at he
  · cases he
  split at he
  · cases he
  have hl : ∀ {fn : Func} {s : St} {u : FrameMode}, ((leaveB P Rr fn s.tm s.df u s.h).map fun (e, h) => (e, s.up, h)) = some (e, up1, h1) → Gr s.h h1 := by
    intro fn s u hq
    cases hr : leaveB P Rr fn s.tm s.df u s.h with
    | none => simp [hr] at hq
    | some q => simp [hr] at hq; have := zho G _ _ _ _ _ hr; rw [hq.2.2] at this; exact this
  split at he
  · rename_i hc; exact Gr.trans (G.code _ _ _ _ _ hc) (hl he)
  · rename_i hc; exact Gr.trans (G.code _ _ _ _ _ hc) (hl he)
  · rename_i hc; exact Gr.trans (G.code _ _ _ _ _ hc) (hl he)
  · cases he
theorem zeG {l : Nat} {jump : Option Code} {h : Heap} {e : End} {h1 : Heap} (he : endRoundB l jump h = some (e, h1)) : Gr h h1 := by
  unfold endRoundB at he
  split at he
  · cases he; exact Gr.set _ _ rfl
  · cases he
theorem zfR (G : Grows Rr) {l : Nat} {args : Array Value} {h : Heap} {e : End} {h1 : Heap} (he : roundF P Rr l args h = some (e, h1)) : Gr h h1 := by
  unfold roundF at he
  split at he
  · cases he
  split at he
  · cases he
  split at he
  · rename_i hc
    have h0 := G.code _ _ _ _ _ hc
    simp only at h0
    split at he
    · split at he
      · split at he
        all_goals first
          | (cases he; done)
          | (rename_i hc2
             have h2 := G.code _ _ _ _ _ hc2
             have h3 := h0.trans ((Gr.set _ _ rfl).trans h2)
             first
             | exact h3.trans (zeG he)
             | (split at he
                · cases he; exact h3
                · cases he))
      · cases he
    · cases he
  · cases he
theorem zfP (P : Program) (K : Known) : ∀ n, Grows (run P K n) := by
  intro n
  induction n with
  | zero => exact ⟨fun _ _ _ _ _ h => by simp [run] at h, fun _ _ _ _ _ _ _ _ h => by simp [run] at h, fun _ _ _ _ _ h => by simp [run] at h⟩
  | succ n ih => exact ⟨fun _ _ _ _ _ h => zhG ih h, fun _ _ _ _ _ _ _ _ h => zhI ih h, fun _ _ _ _ _ h => zfR ih h⟩
end
end Go.AX

namespace Go.AX
open Go.RowKit
section
variable {P : Program} {N : Nat → Prop} {w0 w : World} {ρ : Ren} {h : Heap}
theorem zir (r : R P N w0 ρ h w) {tm tm' : Array Value} (ht : XR ρ tm tm') {x : Operand} (hx : opOK P x = true) : VR ρ (ev tm x) (ev tm' x) := by
  cases x with
  | tmp t => exact ht.getD t
  | const v => exact zaW deep (show plain deep v = true from hx)
  | global g =>
    obtain ⟨s, h1, h2, h3⟩ := r.glob g (by simpa [opOK] using hx)
    exact .ptr ⟨s, h1, rfl, by simp [h2, h3]⟩
  | func f => exact VR.func' (by simp [FnR]) ⟨rfl, by simp⟩ ⟨rfl, by simp⟩
theorem zkz (r : R P N w0 ρ h w) {tm tm' : Array Value} (ht : XR ρ tm tm') {o : Oper} (hx : opsOK P o = true) : ∀ x ∈ o.op.operands, VR ρ (ev tm x) (ev tm' x) := by
  intro x hm
  unfold opsOK at hx
  rw [List.all_eq_true] at hx
  exact zir r ht (hx x (by simpa using hm))
theorem ze1 {tm tm' : Array Value} (ht : XR ρ tm tm') (ops : Array Oper) : yielded ops tm' = yielded ops tm := by
  funext j
  unfold yielded
  cases hd : (ops[j]?).bind (·.dst) with
  | none => rfl
  | some t =>
    simp only [Option.bind_some]
    cases hv : tm[t]? with
    | none => rw [ht.none hv]
    | some v =>
      obtain ⟨v', e', r⟩ := ht.get hv
      rw [e']
      cases r <;> rfl
theorem zeA {u m : FrameMode} (k : UpR ρ u m) : VR ρ (recoverB u).1 (recoverB m).1 ∧ UpR ρ (recoverB u).2 (recoverB m).2 := by
  cases k with
  | run => exact ⟨.nilIface, .run⟩
  | ret => exact ⟨.nilIface, .ret⟩
  | pan hc =>
    rename_i c c'
    cases c with
    | nil => rw [AllR.nil_inv hc]; exact ⟨.nilIface, .pan (AllR.nil _)⟩
    | cons a l =>
      obtain ⟨b, m, rfl, hab, hlm⟩ := AllR.inv hc
      obtain ⟨v, rec, gx⟩ := a
      obtain ⟨v', rec', gx'⟩ := b
      obtain ⟨h1, h2, h3⟩ := hab
      simp only at h1 h2 h3
      subst h2; subst h3
      cases rec' <;> cases gx' <;> first
        | exact ⟨h1, .pan (AllR.cons ⟨h1, rfl, rfl⟩ hlm)⟩
        | exact ⟨.nilIface, .pan (AllR.cons ⟨h1, rfl, rfl⟩ hlm)⟩
theorem zbX {tm : Array Value} {o : Oper} {r : Value × Heap} (e : simpleB P tm h o = some r) : ∀ c, o.op ≠ .defer c := by
  intro c hc; unfold simpleB at e; simp [hc] at e
theorem zbd {tm : Array Value} {o : Oper} {out : Out} {h1 : Heap} (e : effectB P tm h o = some (out, h1)) (hd : ∀ d, out ≠ .defer d) : ∀ c, o.op ≠ .defer c := by
  intro c hc
  unfold effectB at e
  obtain ⟨callee, args, ats⟩ := c
  simp only [hc] at e
  cases callee <;> simp at e
  split at e
  · simp at e; exact hd _ e.1.symm
  · cases e
theorem zdu {tm : Array Value} {o : Oper} {out : Out} {h1 : Heap} (e : effectB P tm h o = some (out, h1)) (hd : ∀ v, out ≠ .val v) : h1 = h := by
  have hvh : ∀ {u : Option (Value × Heap)}, (u.map fun (v, h) => (Out.val v, h)) = some (out, h1) → False := by
    intro u hu
    cases u with
    | none => simp at hu
    | some q => simp at hu; exact hd _ hu.1.symm
  have hhh : ∀ {u : Option Heap}, (u.map fun h => (Out.val undef, h)) = some (out, h1) → False := by
    intro u hu
    cases u with
    | none => simp at hu
    | some q => simp at hu; exact hd _ hu.1.symm
  have hoo : ∀ {u : Option Out}, (u.map fun r => (r, h)) = some (out, h1) → h1 = h := by
    intro u hu
    cases u with
    | none => simp at hu
    | some q => simp at hu; exact hu.2.symm
  unfold effectB at e
  simp only at e
  split at e
  all_goals first
    | exact (hvh e).elim
    | exact (hhh e).elim
    | exact hoo e
    | (cases e; rfl)
    | (split at e <;> first
        | exact (hvh e).elim
        | (cases e; rfl)
        | (split at e <;> first | (cases e; rfl) | cases e)
        | cases e)
    | cases e
end
structure SQ (P : Program) (N : Nat → Prop) (w0 : World) (ρ : Ren) (x : Ctx) (rd : Option Nat) (cs0 : List Frame) (s : St) (df' : List Deferred) (cs : List Frame) (w : World) : Prop where
  r : R P N w0 ρ s.h w
  df : DsR ρ s.df df'
  cs : CsR ρ x.dfr s.up cs0 cs
  rd : RdR ρ x.round rd
theorem zkC {P : Program} {Rr : Recs} {Good : World → Prop} (S : Sims P Rr Good) {N : Nat → Prop} {w0 : World} (hG : Safe Good N w0) {x : Ctx} {s s1 : St} {o : Oper} {d : Did} (e : doOp P Rr x s o = some (d, s1))
    {ρ : Ren} {rd : Option Nat} {cs0 : List Frame} {tm' : Array Value} {df' : List Deferred} {cs : List Frame} {w : World} (hs : SQ P N w0 ρ x rd cs0 s df' cs w) (hx : opsOK P o = true → ∀ x ∈ o.op.operands, VR ρ (ev s.tm x) (ev tm' x))
    {ops : Array Oper} {i : Nat} {rest : List Nat} {k : List Item} (ho : ops[i]? = some o) (hw : Region.wanted o (yielded ops tm') = true) :
    s1.tm = s.tm ∧ ∃ ρ1 df1 cs1 w1, Le ρ ρ1 ∧ (∀ A, A < s.h.n → ρ1 A = ρ A) ∧ SQ P N w0 ρ1 x rd cs0 s1 df1 cs1 w1 ∧
      match d with
      | .val v => ∃ v', VR ρ1 v v' ∧ Steps P (lone (F x.fn x.dfr rd tm' df' (.inRegion ops (i :: rest) :: k) .run) cs w) (lone (F x.fn x.dfr rd (put tm' o.dst v') df1 (.inRegion ops rest :: k) .run) cs1 w1)
      | .panic c => ∃ c', ChR ρ1 c c' ∧ Steps P (lone (F x.fn x.dfr rd tm' df' (.inRegion ops (i :: rest) :: k) .run) cs w) (lone (F x.fn x.dfr rd tm' df1 (.inRegion ops (i :: rest) :: k) (.panicking c')) cs1 w1) := by
  have hfin : ∀ (v' : Value), (F x.fn x.dfr rd tm' df' (.inRegion ops (i :: rest) :: k) .run).finish v' = F x.fn x.dfr rd (put tm' o.dst v') df' (.inRegion ops rest :: k) .run := by
    intro v'
    rw [zcg, ho]; rfl
  unfold doOp at e
  split at e
  · cases e
  rename_i hok
  have hx := hx (by simpa using hok)
  split at e
  · -- a simple operation
    rename_i v h1 hsimple
    cases e
    obtain ⟨ρ1, v', w1, hle, hag, hr, hv, hrun, _⟩ := zb2 hs.r hx hsimple
    exact ⟨rfl, ρ1, df', cs, w1, hle, hag, ⟨hr, hs.df.mono hle, hs.cs.mono hle, hs.rd.mono hle⟩, v', hv, .one (zdB ho hw (.inr (zbX hsimple)) hrun)⟩
  · split at e
    · cases e
    split at e
    · cases e
    · -- a value
      rename_i v h1 heff
      cases e
      obtain ⟨ρ1, w1, hle, hag, hr, ⟨v', hv, hrun⟩, _⟩ := zbH hs.r hx heff
      refine ⟨rfl, ρ1, df', cs, w1, hle, hag, ⟨hr, hs.df.mono hle, hs.cs.mono hle, hs.rd.mono hle⟩, v', hv, .one ?_⟩
      rcases hrun with hrun | ⟨rfl, hrun⟩
      · exact zdB ho hw (.inr (zbd heff (by simp))) hrun
      · exact ziU ho hw (.inr (zbd heff (by simp))) hrun
    · -- a call
      rename_i f args h1 heff
      obtain ⟨ρ1, w1, hle, hag, hr, ⟨args', ha, hrun⟩, _⟩ := zbH hs.r hx heff
      have hstep := st_enter (P := P) (fn := x.fn) (dfr := x.dfr) (rd := rd) (df := df') (k := k) (cs := cs) (rest := rest) ho hw (.inr (zbd heff (by simp))) hrun
      have hn : s.h.n ≤ h1.n := by rw [zdu heff (by simp)]; exact Nat.le_refl _
      split at e
      · rename_i v up1 h2 hcall
        cases e
        obtain ⟨ρ2, cs2, w2, e', fr, hle2, hag2, hr2, hcs2, hend, hsteps, hkind, hfn, hgo⟩ := S.call N w0 hG f args false .run h1 _ _ _ hcall ρ1 args' _ (F x.fn x.dfr rd tm' df' (.inRegion ops (i :: rest) :: k) .run :: cs) w1 hr ha rfl
        have hcs2' : cs2 = F x.fn x.dfr rd tm' df' (.inRegion ops (i :: rest) :: k) .run :: cs := by simpa [CsR] using hcs2
        subst hcs2'
        cases e' with
        | returned v' =>
          have hl : fr.leaving P w2 (.returned v') := ⟨hgo.1, hgo.2.1, by simpa using hkind, hgo.2.2⟩
          have h2 := step_leave_returned (c := F x.fn x.dfr rd tm' df' (.inRegion ops (i :: rest) :: k) .run) (cs := cs) hl
          rw [hfin] at h2
          have hle' := hle.trans hle2
          exact ⟨rfl, ρ2, df', cs, w2, hle', fun A hA => (hag2 A (by omega)).trans (hag A hA), ⟨hr2, hs.df.mono hle', hs.cs.mono hle', hs.rd.mono hle'⟩, v', hend, .head hstep (hsteps.trans (.one h2))⟩
        | panicked c => exact hend.elim
        | outgrown => exact hend.elim
      · rename_i c up1 h2 hcall
        cases e
        obtain ⟨ρ2, cs2, w2, e', fr, hle2, hag2, hr2, hcs2, hend, hsteps, hkind, hfn, hgo⟩ := S.call N w0 hG f args false .run h1 _ _ _ hcall ρ1 args' _ (F x.fn x.dfr rd tm' df' (.inRegion ops (i :: rest) :: k) .run :: cs) w1 hr ha rfl
        have hcs2' : cs2 = F x.fn x.dfr rd tm' df' (.inRegion ops (i :: rest) :: k) .run :: cs := by simpa [CsR] using hcs2
        subst hcs2'
        cases e' with
        | returned v' => exact hend.elim
        | panicked c' =>
          have hl : fr.leaving P w2 (.panicked c') := ⟨hgo.1, hgo.2.1, hgo.2.2⟩
          have h2 := step_leave_panicked (c := F x.fn x.dfr rd tm' df' (.inRegion ops (i :: rest) :: k) .run) (cs := cs) hl
          rw [zhS] at h2
          have hle' := hle.trans hle2
          exact ⟨rfl, ρ2, df', cs, w2, hle', fun A hA => (hag2 A (by omega)).trans (hag A hA), ⟨hr2, hs.df.mono hle', hs.cs.mono hle', hs.rd.mono hle'⟩, c', hend, .head hstep (hsteps.trans (.one h2))⟩
        | outgrown => exact hend.elim
      · cases e
    · -- a round
      rename_i l args h1 heff
      obtain ⟨ρ1, w1, hle, hag, hr, ⟨sl, args', hsl, ha, hrun⟩, _⟩ := zbH hs.r hx heff
      have hn : s.h.n ≤ h1.n := by rw [zdu heff (by simp)]; exact Nat.le_refl _
      split at e
      · rename_i v h2 hcall
        cases e
        obtain ⟨ρ2, w2, e', hle2, hag2, hr2, hend, fn, tmps, assign, body, hy, hsteps⟩ := S.round N w0 hG l args h1 _ _ hcall ρ1 sl args' (F x.fn x.dfr rd tm' df' (.inRegion ops (i :: rest) :: k) .run) cs w1 hr hsl ha
        have hstep := zhY (P := P) (fn := x.fn) (dfr := x.dfr) (rd := rd) (df := df') (k := k) (cs := cs) (rest := rest) ho hw (.inr (zbd heff (by simp))) (hrun.trans hy)
        have hle' := hle.trans hle2
        cases e' with
        | returned v' =>
          simp only at hsteps
          rw [hfin] at hsteps
          exact ⟨rfl, ρ2, df', cs, w2, hle', fun A hA => (hag2 A (by omega)).trans (hag A hA), ⟨hr2, hs.df.mono hle', hs.cs.mono hle', hs.rd.mono hle'⟩, v', hend, .head hstep hsteps⟩
        | panicked c => exact hend.elim
        | outgrown => exact hend.elim
      · rename_i c h2 hcall
        cases e
        obtain ⟨ρ2, w2, e', hle2, hag2, hr2, hend, fn, tmps, assign, body, hy, hsteps⟩ := S.round N w0 hG l args h1 _ _ hcall ρ1 sl args' (F x.fn x.dfr rd tm' df' (.inRegion ops (i :: rest) :: k) .run) cs w1 hr hsl ha
        have hstep := zhY (P := P) (fn := x.fn) (dfr := x.dfr) (rd := rd) (df := df') (k := k) (cs := cs) (rest := rest) ho hw (.inr (zbd heff (by simp))) (hrun.trans hy)
        have hle' := hle.trans hle2
        cases e' with
        | returned v' => exact hend.elim
        | panicked c' =>
          simp only [zhS] at hsteps
          exact ⟨rfl, ρ2, df', cs, w2, hle', fun A hA => (hag2 A (by omega)).trans (hag A hA), ⟨hr2, hs.df.mono hle', hs.cs.mono hle', hs.rd.mono hle'⟩, c', hend, .head hstep hsteps⟩
        | outgrown => exact hend.elim
      · cases e
    · -- a deferred call
      rename_i dd h1 heff
      split at e
      · cases e
      rename_i hrd
      cases e
      obtain ⟨ρ1, w1, hle, hag, hr, ⟨d', hd, hrun⟩, _⟩ := zbH hs.r hx heff
      have hrn : rd = none := by
        have := hs.rd
        cases hxr : x.round with
        | none => rw [hxr] at this; cases rd <;> simp_all [RdR]
        | some l => simp [hxr] at hrd
      refine ⟨rfl, ρ1, d' :: df', cs, w1, hle, hag, ⟨hr, AllR.cons hd (hs.df.mono hle), hs.cs.mono hle, hs.rd.mono hle⟩, undef, VR.undef _, .one (st_defer ho hw (.inl hrn) hrun)⟩
    · -- recover
      rename_i h1 heff
      split at e
      · cases e
      rename_i hrd
      obtain ⟨ρ1, w1, hle, hag, hr, hrun, _⟩ := zbH hs.r hx heff
      have hrn : rd = none := by
        have := hs.rd
        cases hxr : x.round with
        | none => rw [hxr] at this; cases rd <;> simp_all [RdR]
        | some l => simp [hxr] at hrd
      split at e
      · rename_i hdfr
        cases e
        obtain ⟨c0, restF, m, hc0, hcs, hup⟩ := (by simpa [CsR, hdfr] using hs.cs : ∃ c0 rest m, cs0 = c0 :: rest ∧ cs = { c0 with mode := m } :: rest ∧ UpR ρ s.up m)
        subst hcs
        have hst := zgR (P := P) (fn := x.fn) (dfr := x.dfr) (rd := rd) (df := df') (k := k) (rest := rest) ho hw (.inl hrn) (c0 := { c0 with mode := m }) (cs0 := restF) hdfr hrn hrun
        obtain ⟨hv, hu⟩ := zeA (hup.mono hle)
        refine ⟨rfl, ρ1, df', _, w1, hle, hag, ⟨hr, hs.df.mono hle, ?_, hs.rd.mono hle⟩, (recoverB m).1, hv, .one hst⟩
        rw [CsR, if_pos hdfr]
        exact ⟨c0, restF, (recoverB m).2, hc0, rfl, hu⟩
      · rename_i hdfr
        cases e
        exact ⟨rfl, ρ1, df', cs, w1, hle, hag, ⟨hr, hs.df.mono hle, hs.cs.mono hle, hs.rd.mono hle⟩, .nilIface, .nilIface, .one (zgQ ho hw (.inl hrn) (by simpa using hdfr) hrn hrun)⟩
    · -- panic
      rename_i v h1 heff
      cases e
      obtain ⟨ρ1, w1, hle, hag, hr, ⟨v', hv, hrun⟩, _⟩ := zbH hs.r hx heff
      exact ⟨rfl, ρ1, df', cs, w1, hle, hag, ⟨hr, hs.df.mono hle, hs.cs.mono hle, hs.rd.mono hle⟩, [{ v := v', recovered := false }], AllR.cons ⟨hv, rfl, rfl⟩ (AllR.nil _), .one (st_panic ho hw (.inr (zbd heff (by simp))) hrun)⟩
theorem op_sim {P : Program} {Rr : Recs} {Good : World → Prop} (S : Sims P Rr Good) {N : Nat → Prop} {w0 : World} (hG : Safe Good N w0) {x : Ctx} {s s1 : St} {o : Oper} {d : Did} (e : doOp P Rr x s o = some (d, s1))
    {ρ : Ren} {rd : Option Nat} {cs0 : List Frame} {tm' : Array Value} {df' : List Deferred} {cs : List Frame} {w : World} (hs : SR P N w0 ρ x rd cs0 s tm' df' cs w)
    {ops : Array Oper} {i : Nat} {rest : List Nat} {k : List Item} (ho : ops[i]? = some o) (hw : Region.wanted o (yielded ops tm') = true) :
    s1.tm = s.tm ∧ ∃ ρ1 df1 cs1 w1, Le ρ ρ1 ∧ (∀ A, A < s.h.n → ρ1 A = ρ A) ∧ SR P N w0 ρ1 x rd cs0 s1 tm' df1 cs1 w1 ∧
      match d with
      | .val v => ∃ v', VR ρ1 v v' ∧ Steps P (lone (F x.fn x.dfr rd tm' df' (.inRegion ops (i :: rest) :: k) .run) cs w) (lone (F x.fn x.dfr rd (put tm' o.dst v') df1 (.inRegion ops rest :: k) .run) cs1 w1)
      | .panic c => ∃ c', ChR ρ1 c c' ∧ Steps P (lone (F x.fn x.dfr rd tm' df' (.inRegion ops (i :: rest) :: k) .run) cs w) (lone (F x.fn x.dfr rd tm' df1 (.inRegion ops (i :: rest) :: k) (.panicking c')) cs1 w1) := by
  obtain ⟨h1, ρ1, df1, cs1, w1, a1, a2, a3, a4⟩ := zkC S hG e ⟨hs.r, hs.df, hs.cs, hs.rd⟩ (fun hok => zkz hs.r hs.tm hok) ho hw (rest := rest) (k := k)
  exact ⟨h1, ρ1, df1, cs1, w1, a1, a2, ⟨a3.r, by rw [h1]; exact hs.tm.mono a1, a3.df, a3.cs, a3.rd⟩, a4⟩
end Go.AX

namespace Go.AX
open Go.RowKit
theorem zfE {ρ : Ren} {tm tm' : Array Value} (ht : XR ρ tm tm') (ops : Array Oper) (o : Oper) : Region.wanted o (yielded ops tm') = wantedB ops tm o := by
  rw [ze1 ht]; rfl
theorem SR.put {P : Program} {N : Nat → Prop} {w0 : World} {ρ : Ren} {x : Ctx} {rd : Option Nat} {cs0 : List Frame} {s : St} {tm' : Array Value} {df' : List Deferred} {cs : List Frame} {w : World}
    (hs : SR P N w0 ρ x rd cs0 s tm' df' cs w) (d : Option Tmp) {v v' : Value} (hv : VR ρ v v') : SR P N w0 ρ x rd cs0 { s with tm := AX.put s.tm d v } (AX.put tm' d v') df' cs w :=
  ⟨hs.r, hs.tm.put d hv, hs.df, hs.cs, hs.rd⟩
theorem zi6 {P : Program} {Rr : Recs} {Good : World → Prop} (S : Sims P Rr Good) (G : Grows Rr) {N : Nat → Prop} {w0 : World} (hG : Safe Good N w0) {x : Ctx} {ops : Array Oper} : ∀ (l : List Nat) (s : St) (e : Ex) (s1 : St), seqOps P Rr x ops l s = some (e, s1) →
    SimCode P N w0 x [.inRegion ops l] s e s1 := by
  intro l
  induction l with
  | nil =>
    intro s e s1 he ρ rd cs0 tm' df' cs w k hs
    simp only [seqOps] at he
    cases he
    exact ⟨ρ, tm', df', cs, w, Le.refl _, fun _ _ => rfl, hs, .one zjW⟩
  | cons i l ih =>
    intro s e s1 he ρ rd cs0 tm' df' cs w k hs
    simp only [seqOps] at he
    split at he
    · cases he
    rename_i o ho
    have hwd := zfE hs.tm ops o
    split at he
    · rename_i hw
      split at he
      · rename_i v s2 hop
        obtain ⟨htm, ρ1, df1, cs1, w1, hle, hag, hs1, v', hv, hsteps⟩ := op_sim S hG hop hs (k := k) (rest := l) ho (hwd.trans hw)
        have hs2 := hs1.put o.dst hv
        obtain ⟨ρ2, tm2, df2, cs2, w2, hle2, hag2, hs3, hland⟩ := ih _ _ _ he ρ1 rd cs0 _ _ _ _ k hs2
        have hn := (zbu G hop).le
        exact ⟨ρ2, tm2, df2, cs2, w2, hle.trans hle2, fun A hA => (hag2 A (Nat.lt_of_lt_of_le hA hn)).trans (hag A hA), hs3, hland.steps hsteps⟩
      · rename_i c s2 hop
        cases he
        obtain ⟨htm, ρ1, df1, cs1, w1, hle, hag, hs1, c', hc, hsteps⟩ := op_sim S hG hop hs (k := k) (rest := l) ho (hwd.trans hw)
        exact ⟨ρ1, tm', df1, cs1, w1, hle, hag, hs1, _, c', hc, hsteps⟩
      · cases he
    · rename_i hw
      have hw' : ((ops[i]?).map (Region.wanted · (yielded ops tm'))).getD false = false := by
        rw [ho]; simp only [Option.map_some, Option.getD_some]; rw [hwd]; simpa using hw
      have hst := zcE (P := P) (fn := x.fn) (dfr := x.dfr) (rd := rd) (df := df') (k := k) (cs := cs) (rest := l) (w := w) hw'
      rw [ho] at hst
      simp only [Option.bind_some] at hst
      obtain ⟨ρ2, tm2, df2, cs2, w2, hle2, hag2, hs3, hland⟩ := ih _ _ _ he ρ rd cs0 _ _ _ _ k (hs.put o.dst (VR.undef ρ))
      exact ⟨ρ2, tm2, df2, cs2, w2, hle2, hag2, hs3, hland.steps (.one hst)⟩
end Go.AX

namespace Go.AX
open Go.RowKit
section
variable {P : Program} {N : Nat → Prop} {w0 : World} {x : Ctx}
theorem SimCode.step {c c' : List Item} {s s1 : St} {e : Ex} (h : SimCode P N w0 x c' s e s1)
    (hst : ∀ ρ rd cs0 tm' df' cs w k, SR P N w0 ρ x rd cs0 s tm' df' cs w → Go.step P (lone (F x.fn x.dfr rd tm' df' (c ++ k) .run) cs w) = .next (lone (F x.fn x.dfr rd tm' df' (c' ++ k) .run) cs w)) :
    SimCode P N w0 x c s e s1 := by
  intro ρ rd cs0 tm' df' cs w k hs
  obtain ⟨ρ1, tm1, df1, cs1, w1, a, b, d, l⟩ := h ρ rd cs0 tm' df' cs w k hs
  exact ⟨ρ1, tm1, df1, cs1, w1, a, b, d, l.steps (.one (hst _ _ _ _ _ _ _ _ hs))⟩
theorem SimCode.nil {s : St} : SimCode P N w0 x [] s .normal s := by
  intro ρ rd cs0 tm' df' cs w k hs
  exact ⟨ρ, tm', df', cs, w, Le.refl _, fun _ _ => rfl, hs, Steps.refl P _⟩
theorem SimCode.comp {c1 c2 : List Item} {s s1 s2 : St} {e : Ex} (h : SimCode P N w0 x c1 s .normal s1) (hn : s.h.n ≤ s1.h.n) (k : SimCode P N w0 x c2 s1 e s2) : SimCode P N w0 x (c1 ++ c2) s e s2 := by
  intro ρ rd cs0 tm' df' cs w k' hs
  obtain ⟨ρ1, tm1, df1, cs1, w1, a, b, d, l⟩ := h ρ rd cs0 tm' df' cs w (c2 ++ k') hs
  obtain ⟨ρ2, tm2, df2, cs2, w2, a2, b2, d2, l2⟩ := k ρ1 rd cs0 tm1 df1 cs1 w1 k' d
  refine ⟨ρ2, tm2, df2, cs2, w2, a.trans a2, fun A hA => (b2 A (Nat.lt_of_lt_of_le hA hn)).trans (b A hA), d2, ?_⟩
  rw [List.append_assoc]
  exact l2.steps l
theorem Land.skip {M : Machine} {ρ : Ren} {G : List Item → FrameMode → Machine} {c k : List Item} {e : Ex} (h : Land P ρ M G (c ++ k) e) (hn : e ≠ .normal) (hx : ∀ id, e = .exit id → exitTo id (c ++ k) = exitTo id k) : Land P ρ M G k e := by
  cases e with
  | normal => exact absurd rfl hn
  | ret => exact h
  | exit id => obtain ⟨k1, a, b⟩ := h; exact ⟨k1, a.trans (hx id rfl), b⟩
  | panic c => exact h
theorem SimCode.stop {c1 c2 : List Item} {s s1 : St} {e : Ex} (h : SimCode P N w0 x c1 s e s1) (hn : e ≠ .normal) (hx : ∀ id k, e = .exit id → exitTo id (c2 ++ k) = exitTo id k) : SimCode P N w0 x (c1 ++ c2) s e s1 := by
  intro ρ rd cs0 tm' df' cs w k' hs
  obtain ⟨ρ1, tm1, df1, cs1, w1, a, b, d, l⟩ := h ρ rd cs0 tm' df' cs w (c2 ++ k') hs
  refine ⟨ρ1, tm1, df1, cs1, w1, a, b, d, ?_⟩
  rw [List.append_assoc]
  exact l.skip hn fun id he => hx id k' he
theorem zjA {ρ : Ren} {tm tm' : Array Value} (ht : XR ρ tm tm') {c : Operand} {t : Bool} (e : ev tm c = .bool t) : ev tm' c = .bool t := by
  cases c with
  | tmp i =>
    have := ht.getD i
    rw [show ev tm (.tmp i) = tm.getD i undef from rfl] at e
    rw [e] at this
    rw [show ev tm' (.tmp i) = tm'.getD i undef from rfl]
    cases hv : tm'.getD i undef <;> rw [hv] at this <;> cases this
    rfl
  | const v => exact e
  | global g => exact e
  | func f => exact e
variable {Rr : Recs} {Good : World → Prop}
theorem zid (S : Sims P Rr Good) (G : Grows Rr) (hG : Safe Good N w0) {b : Code} {s : St} {e : Ex} {s1 : St} (he : codeF P Rr x (.loop b) s = some (e, s1)) : SimCode P N w0 x ([.code b] ++ [.inLoop b]) s e s1 := by
  simp only [codeF] at he
  split at he
  · rename_i h1
    exact (S.code N w0 hG _ _ _ _ _ h1).comp (G.code _ _ _ _ _ h1).le (S.loop N w0 hG _ _ _ _ _ he)
  · rename_i hne
    exact (S.code N w0 hG _ _ _ _ _ he).stop (fun h => by subst h; exact hne _ he) (fun _ _ _ => rfl)
theorem zlb (S : Sims P Rr Good) (G : Grows Rr) (hG : Safe Good N w0)
    (hOpen : ∀ x ops s e s1 fid, openOps P Rr x ops s = some (e, s1) → SimCode P N w0 x [.code (.region fid ops true)] s e s1)
    (hRange : ∀ x s f params assign body e s1, rangeFuncB P Rr x s f params assign body = some (e, s1) → SimCode P N w0 x [.code (.rangeFunc f params assign body)] s e s1)
    {c : Code} {s : St} {e : Ex} {s1 : St} (he : codeF P Rr x c s = some (e, s1)) : SimCode P N w0 x [.code c] s e s1 := by
  unfold codeF at he
  split at he
  · cases he; exact SimCode.nil.step (fun _ _ _ _ _ _ _ _ _ => st_skip)
  · cases he; exact SimCode.nil.step (fun _ _ _ _ _ _ _ _ _ => st_label)
  · split at he
    · rename_i hd; subst hd; exact hOpen _ _ _ _ _ _ he
    · rename_i hd
      simp only [Bool.not_eq_true] at hd
      subst hd
      exact (zi6 S G hG _ _ _ _ he).step (fun _ _ _ _ _ _ _ _ _ => zjU)
  · rename_i a b
    refine SimCode.step (c' := [.code a] ++ [.code b]) ?_ (fun _ _ _ _ _ _ _ _ _ => st_seq)
    split at he
    · rename_i h1
      exact (S.code N w0 hG _ _ _ _ _ h1).comp (G.code _ _ _ _ _ h1).le (S.code N w0 hG _ _ _ _ _ he)
    · rename_i hne
      exact (S.code N w0 hG _ _ _ _ _ he).stop (fun h => by subst h; exact hne _ he) (fun _ _ _ => rfl)
  · split at he
    · rename_i a b _ t ht
      refine SimCode.step (c' := [.code (if t then a else b)]) (S.code N w0 hG _ _ _ _ _ he) (fun ρ rd cs0 tm' df' cs w k hs => st_cond (zjA hs.tm ht))
    · cases he
  · rename_i id b
    refine SimCode.step (c' := [.code b] ++ [.inBlock id]) ?_ (fun _ _ _ _ _ _ _ _ _ => st_block)
    split at he
    · rename_i i s2 h1
      have h2 := S.code N w0 hG _ _ _ _ _ h1
      split at he
      · rename_i hi
        subst hi
        cases he
        intro ρ rd cs0 tm' df' cs w k' hs
        obtain ⟨ρ1, tm1, df1, cs1, w1, a, b', d, l⟩ := h2 ρ rd cs0 tm' df' cs w ([.inBlock i] ++ k') hs
        refine ⟨ρ1, tm1, df1, cs1, w1, a, b', d, ?_⟩
        obtain ⟨k1, hk1, hst⟩ := l
        rw [List.append_assoc]
        exact hst.trans (.one (st_exit (hk1.trans (by simp [exitTo]))))
      · rename_i hi
        cases he
        refine h2.stop (by simp) (fun id' k hid => ?_)
        cases hid
        have : ¬ id = i := fun h => hi h.symm
        simp [exitTo, this]
    · rename_i hne
      have h2 := S.code N w0 hG _ _ _ _ _ he
      by_cases hen : e = .normal
      · subst hen
        exact h2.comp (G.code _ _ _ _ _ he).le (SimCode.nil.step (fun _ _ _ _ _ _ _ _ _ => ziW))
      · exact h2.stop hen (fun id' k hid => by subst hid; exact absurd he (hne _ _))
  · rename_i b
    exact (zid S G hG (Rr := Rr) he).step (fun _ _ _ _ _ _ _ _ _ => st_loop)
  · rename_i b
    refine SimCode.step (c' := [.code b] ++ [.inScope b]) ?_ (fun _ _ _ _ _ _ _ _ _ => st_scope)
    have h2 := S.code N w0 hG _ _ _ _ _ he
    by_cases hen : e = .normal
    · subst hen
      exact h2.comp (G.code _ _ _ _ _ he).le (SimCode.nil.step (fun _ _ _ _ _ _ _ _ _ => ziV))
    · exact h2.stop hen (fun _ _ _ => rfl)
  · cases he
    intro ρ rd cs0 tm' df' cs w k hs
    exact ⟨ρ, tm', df', cs, w, Le.refl _, fun _ _ => rfl, hs, k, rfl, Steps.refl P _⟩
  · cases he
    intro ρ rd cs0 tm' df' cs w k hs
    exact ⟨ρ, tm', df', cs, w, Le.refl _, fun _ _ => rfl, hs, k, Steps.refl P _⟩
  · exact hRange _ _ _ _ _ _ _ _ he
  · cases he
  · cases he
end
end Go.AX

namespace Go.AX
open Go.RowKit
theorem zeg {ρ : Ren} : ∀ (c c' : List PanicEntry), ChR ρ c c' → ChR ρ (c.dropWhile (!·.goexit)) (c'.dropWhile (!·.goexit)) := by
  intro c
  induction c with
  | nil => intro c' h; rw [AllR.nil_inv h]; exact AllR.nil _
  | cons a l ih =>
    intro c' h
    obtain ⟨b, m, rfl, hab, hlm⟩ := AllR.inv h
    simp only [List.dropWhile_cons, hab.2.2]
    split
    · exact ih _ hlm
    · exact AllR.cons hab hlm
theorem zfN {ρ : Ren} {u m : FrameMode} (k : UpR ρ u m) : UpR ρ (settleB u) (settle m) := by
  cases k with
  | run => exact .run
  | ret => exact .ret
  | pan hc =>
    rename_i c c'
    cases c with
    | nil => rw [AllR.nil_inv hc]; exact .pan (AllR.nil _)
    | cons a l =>
      obtain ⟨b, m, rfl, hab, hlm⟩ := AllR.inv hc
      obtain ⟨v, rec, gx⟩ := a
      obtain ⟨v', rec', gx'⟩ := b
      obtain ⟨h1, h2, h3⟩ := hab
      simp only at h1 h2 h3
      subst h2; subst h3
      cases rec' with
      | false => exact .pan (AllR.cons ⟨h1, rfl, rfl⟩ hlm)
      | true =>
        have hd := zeg _ _ hlm
        simp only [settleB, settle]
        cases hq : List.dropWhile (fun x => !x.goexit) l with
        | nil => rw [hq] at hd; rw [AllR.nil_inv hd]; exact .ret
        | cons p q =>
          rw [hq] at hd
          obtain ⟨p', q', hpq, h1, h2⟩ := AllR.inv hd
          rw [hpq]
          exact .pan (AllR.cons h1 h2)
theorem zfV {ρ : Ren} {u m : FrameMode} (k : UpR ρ u m) {c c' : List PanicEntry} (hc : ChR ρ c c') : UpR ρ (raisedB u c) (raised m c') := by
  cases k with
  | run => exact .pan hc
  | ret => exact .pan hc
  | pan h => exact .pan (AllR.append hc h)
theorem zhr {ρ : Ren} {u m : FrameMode} (k : UpR ρ u m) (h : ¬ isRun u = true) : m ≠ .run := by
  cases k with
  | run => simp [isRun] at h
  | ret => simp
  | pan h => simp
section
variable {P : Program} {N : Nat → Prop} {w0 w : World} {ρ : Ren} {h : Heap}
def resS (tm : Array Value) (x : ResultVar) : Sem Value :=
  match x with
  | .tmp t => pure (tm.getD t undef)
  | .cell a t => do loadVar t (← asAddr (tm.getD a undef))
theorem zjb (fn : Func) (tm : Array Value) : results fn tm = (do let vs ← fn.results.mapM (resS tm); pure (if h : vs.size = 1 then vs[0] else .tuple vs)) := rfl
theorem zjc (r : R P N w0 ρ h w) {tm tm' : Array Value} (ht : XR ρ tm tm') {x : ResultVar} {v : Value} (e : resultB P tm h x = some v) :
    ∃ v', (resS tm' x).run P w = .ok v' w ∧ VR ρ v v' := by
  cases x with
  | tmp t => simp only [resultB] at e; cases e; exact ⟨_, rfl, ht.getD t⟩
  | cell a t =>
    simp only [resultB] at e
    obtain ⟨v', hr, hv⟩ := zhZ r (ht.getD a) e
    refine ⟨v', ?_, hv⟩
    unfold readB at e
    split at e
    · rename_i b o hq
      have := ht.getD a
      rw [hq] at this
      simp only [resS]
      cases hp : tm'.getD a undef <;> rw [hp] at this hr <;> cases this
      simpa [Instr.loadAt, Instr.sureAddr, asAddr] using hr
    · cases e
theorem mapM_sim (r : R P N w0 ρ h w) {tm tm' : Array Value} (ht : XR ρ tm tm') : ∀ (l : List ResultVar) (vs : List Value), l.mapM (resultB P tm h) = some vs →
    ∃ vs', (l.mapM (resS tm')).run P w = .ok vs' w ∧ LR ρ vs vs' := by
  intro l
  induction l with
  | nil => intro vs e; simp at e; subst e; exact ⟨[], by simp, LR.nil ρ⟩
  | cons x l ih =>
    intro vs e
    simp only [List.mapM_cons, Option.bind_eq_bind, Option.bind_eq_some_iff, Option.pure_def] at e
    obtain ⟨v, h1, vs1, h2, h3⟩ := e
    cases h3
    obtain ⟨v', hr, hv⟩ := zjc r ht h1
    obtain ⟨vs', hr2, hv2⟩ := ih _ h2
    refine ⟨v' :: vs', ?_, LR.cons hv hv2⟩
    simp only [List.mapM_cons, Sem.run_bind, hr, Result.andThen_ok, hr2, Sem.run_pure]
theorem zg6 (r : R P N w0 ρ h w) {fn : Func} {tm tm' : Array Value} (ht : XR ρ tm tm') {v : Value} (e : resultsB P fn tm h = some v) :
    ∃ v', (results fn tm').run P w = .ok v' w ∧ VR ρ v v' := by
  unfold resultsB at e
  simp only [Option.map_eq_some_iff] at e
  obtain ⟨vs, h1, h2⟩ := e
  obtain ⟨vs', hr, hv⟩ := mapM_sim r ht _ _ h1
  rw [zjb, Array.mapM_eq_mapM_toList]
  simp only [map_eq_pure_bind, Sem.run_bind, hr, Result.andThen_ok, Sem.run_pure]
  cases vs with
  | nil =>
    have : vs' = [] := by cases vs' with
      | nil => rfl
      | cons a b => have := hv.1; simp at this
    subst this
    exact ⟨_, rfl, by subst h2; exact VR.tuple' hv⟩
  | cons a vs =>
    cases vs' with
    | nil => have := hv.1; simp at this
    | cons a' vs' =>
      cases vs with
      | nil =>
        have : vs' = [] := by cases vs' with
          | nil => rfl
          | cons a b => have := hv.1; simp at this
        subst this
        exact ⟨a', by simp, by subst h2; exact hv.head⟩
      | cons b vs =>
        cases vs' with
        | nil => have := hv.1; simp at this
        | cons b' vs' => exact ⟨.tuple (a' :: b' :: vs').toArray, by simp, by subst h2; exact VR.tuple' hv⟩
theorem zkL {Rr : Recs} {Good : World → Prop} (S : Sims P Rr Good) (G : Grows Rr) (hG : Safe Good N w0) {fn : Func} {tm : Array Value} : ∀ (ds : List Deferred) (u : FrameMode) (h : Heap) (e : End) (h1 : Heap), leaveB P Rr fn tm ds u h = some (e, h1) →
    ∀ (ρ : Ren) (w : World) (fr : Frame) (cs : List Frame), R P N w0 ρ h w → XR ρ tm fr.tmps → DsR ρ ds fr.defers → UpR ρ u fr.mode → P.funcs[fr.fn]? = some fn →
    ∃ ρ1 w1 e' fr1, Le ρ ρ1 ∧ (∀ A, A < h.n → ρ1 A = ρ A) ∧ R P N w0 ρ1 h1 w1 ∧ EndR ρ1 e e' ∧ Steps P (lone fr cs w) (lone fr1 cs w1) ∧ fr1.kind = fr.kind ∧ fr1.fn = fr.fn ∧ fr1.going P w1 e' := by
  intro ds
  induction ds with
  | nil =>
    intro u h e h1 he ρ w fr cs r ht hd hu hf
    have hd' := AllR.nil_inv hd
    cases u with
    | run => simp [leaveB] at he
    | returning =>
      have hm : fr.mode = .returning := by cases hq : fr.mode <;> rw [hq] at hu <;> first | rfl | cases hu
      simp only [leaveB, Option.map_eq_some_iff] at he
      obtain ⟨v, h2, h3⟩ := he
      cases h3
      obtain ⟨v', hr, hv⟩ := zg6 r ht h2
      exact ⟨ρ, w, .returned v', fr, Le.refl _, fun _ _ => rfl, r, hv, Steps.refl P _, rfl, rfl, hm, hd', fn, hf, hr⟩
    | panicking c =>
      simp only [leaveB] at he
      cases he
      cases hq : fr.mode with
      | run => rw [hq] at hu; cases hu
      | returning => rw [hq] at hu; cases hu
      | panicking c' =>
        rw [hq] at hu
        cases hu with
        | pan hc => exact ⟨ρ, w, .panicked c', fr, Le.refl _, fun _ _ => rfl, r, hc, Steps.refl P _, rfl, rfl, hq, hd', fn, hf⟩
  | cons d ds ih =>
    intro u h e h1 he ρ w fr cs r ht hd hu hf
    obtain ⟨d', ds', hds, hdd, hdr⟩ := AllR.inv hd
    simp only [leaveB] at he
    split at he
    · cases he
    rename_i hnr
    have hm := zhr hu hnr
    split at he
    · rename_i A htar
      split at he
      · rename_i hg
        have hcol := hdd.1
        rw [htar] at hcol
        generalize htt : d'.target = T at hcol
        cases hcol with
        | col hs =>
          rename_i s
          have hb := r.blk A s _ hs hg
          cases hb with
          | obj o' hd0 hw hO =>
            cases hO
            obtain ⟨w', hrun, hr, hfr⟩ := zbb r hs hg hw (by intro a b c; simp) (o1 := .deferred none) (o1' := .deferred none) .none
            have hk : (Instr.takeDeferred s.g).run P w = .ok [] w' := by
              have h1 := run_takeDeferred (P := P) hw
              have h2 : (setObj s.g (.deferred none)).run P w = .ok () (w.putObj s.g (.deferred none)) := by simp [setObj, Sem.run, hw, World.putObj]
              rw [h2] at hrun
              cases hrun
              exact h1
            have hst := step_collected (cs := cs) hm hds htt hk
            obtain ⟨ρ1, w1, e', fr1, a1, a2, a3, a4, a5, a6, a7, a8⟩ := ih _ _ _ _ he ρ w' { fr with defers := [] ++ ds' } cs hr ht hdr hu hf
            exact ⟨ρ1, w1, e', fr1, a1, fun A hA => a2 A (by simpa [Heap.set] using hA), a3, a4, .head hst a5, a6, a7, a8⟩
      · cases he
    · rename_i g cap htar
      split at he
      · rename_i f args hcf
        have hcol := hdd.1
        rw [htar] at hcol
        generalize htt : d'.target = T at hcol
        cases hcol with
        | fn g hcap =>
          rename_i cap'
          have hargs : XR ρ (d.args ++ cap) (d'.args ++ cap') := hdd.2.append hcap
          obtain ⟨args', ha, hinv⟩ := zck hargs hcf w
          have hinv' : (invoke d'.target d'.args).run P w = .ok (.enter f args') w := by rw [htt]; exact hinv
          have hst := step_defer (cs := cs) hm hds htt (by rw [htt] at hinv'; rw [htt]; exact hinv')
          have hcs : CsR ρ true u ({ fr with defers := ds' } :: cs) ({ fr with defers := ds' } :: cs) := by
            rw [CsR, if_pos rfl]
            exact ⟨_, cs, fr.mode, rfl, rfl, hu⟩
          split at he
          · rename_i v u1 h2 hc
            obtain ⟨ρ1, cs1, w1, e', fr1, a1, a2, a3, a4, a5, a6, a7, a8, a9⟩ := S.call N w0 hG _ _ _ _ _ _ _ _ hc ρ args' _ _ w r ha hcs
            rw [CsR, if_pos rfl] at a4
            obtain ⟨c0, rest, m, hc0, hc1, hum⟩ := a4
            cases hc0
            subst hc1
            have hn := (G.call _ _ _ _ _ _ _ _ hc).le
            cases e' with
            | returned v' =>
              have h3 := step_going_returned (cs := cs) (c := { { fr with defers := ds' } with mode := m }) (by simpa using a7) a9
              obtain ⟨ρ2, w2, e2, fr2, b1, b2, b3, b4, b5, b6, b7, b8⟩ := ih _ _ _ _ he ρ1 w1 { { { fr with defers := ds' } with mode := m } with mode := settle m } cs a3 (ht.mono a1) (show DsR ρ1 ds ds' from DsR.mono a1 (show DsR ρ ds ds' from hdr)) (zfN hum) hf
              exact ⟨ρ2, w2, e2, fr2, a1.trans b1, fun A hA => (b2 A (Nat.lt_of_lt_of_le hA hn)).trans (a2 A hA), b3, b4, .head hst (a6.trans (.head h3 b5)), b6, b7, b8⟩
            | panicked c => exact a5.elim
            | outgrown => exact a5.elim
          · rename_i c u1 h2 hc
            obtain ⟨ρ1, cs1, w1, e', fr1, a1, a2, a3, a4, a5, a6, a7, a8, a9⟩ := S.call N w0 hG _ _ _ _ _ _ _ _ hc ρ args' _ _ w r ha hcs
            rw [CsR, if_pos rfl] at a4
            obtain ⟨c0, rest, m, hc0, hc1, hum⟩ := a4
            cases hc0
            subst hc1
            have hn := (G.call _ _ _ _ _ _ _ _ hc).le
            cases e' with
            | returned v' => exact a5.elim
            | panicked c' =>
              have h3 := step_going_panicked (cs := cs) (c := { { fr with defers := ds' } with mode := m }) a9
              obtain ⟨ρ2, w2, e2, fr2, b1, b2, b3, b4, b5, b6, b7, b8⟩ := ih _ _ _ _ he ρ1 w1 { { { fr with defers := ds' } with mode := m } with mode := raised m c' } cs a3 (ht.mono a1) (show DsR ρ1 ds ds' from DsR.mono a1 (show DsR ρ ds ds' from hdr)) (zfV hum a5) hf
              exact ⟨ρ2, w2, e2, fr2, a1.trans b1, fun A hA => (b2 A (Nat.lt_of_lt_of_le hA hn)).trans (a2 A hA), b3, b4, .head hst (a6.trans (.head h3 b5)), b6, b7, b8⟩
            | outgrown => exact a5.elim
          · cases he
      · cases he
    · cases he
def KOK (P : Program) (K : Known) (Good : World → Prop) : Prop :=
  ∀ f args h v l, K f args h = some (v, l) → ∀ N w0, Safe Good N w0 → ∀ up, SimCall P N w0 f args false up h (.ret v) up (pushAll h l)
theorem zkt {Good : World → Prop} {f : FuncId} {args : Array Value} {v : Value} {h : Heap} {up : FrameMode} (k1 : args.toList.all (plain deep) = true) (k2 : plain deep v = true)
    (k3 : ∀ w, Good w → Calls P f args w fun e w' => e = .returned v ∧ Below w.heap.size w w') (hG : Safe Good N w0) : SimCall P N w0 f args false up h (.ret v) up h := by
  intro ρ args' cs0 cs w r ha hcs
  have hargs := zeM k1 ha
  subst hargs
  obtain ⟨e', w', fr, ⟨rfl, hB⟩, hc, hfn, hl⟩ := k3 w (hG w r.below) cs
  have hm : More w w' := ⟨hB.os, hB.tape, hB.output, hB.size, hB.block⟩
  have hcs' : cs = cs0 := by simpa [CsR] using hcs
  subst hcs'
  exact ⟨ρ, cs, w', .returned v, fr, Le.refl _, fun _ _ => rfl, r.more hm, by simp [CsR], zaW deep k2, hc, by simpa using hl.2.2.1, hfn, hl.1, hl.2.1, hl.2.2.2⟩
theorem zgC {Rr : Recs} {Good : World → Prop} (S : Sims P Rr Good) (G : Grows Rr) (hG : Safe Good N w0) {K : Known} (hK : KOK P K Good)
    {f : FuncId} {args : Array Value} {dfr : Bool} {up : FrameMode} {h : Heap} {e : End} {up1 : FrameMode} {h1 : Heap} (he : callF P K Rr f args dfr up h = some (e, up1, h1)) : SimCall P N w0 f args dfr up h e up1 h1 := by
  intro ρ args' cs0 cs w r ha hcs
  unfold callF at he
  split at he
  · rename_i q hk
    split at hk
    · cases hk
    rename_i hdfr
    simp only [Bool.not_eq_true] at hdfr
    subst hdfr
    cases he
    exact hK f args h q.1 q.2 hk N w0 hG up ρ args' cs0 cs w r ha hcs
  split at he
  · cases he
  rename_i fn hf
  split at he
  · cases he
  rename_i c hb
  have henter : Frame.enter P f args' (if dfr = true then CallKind.deferred else .normal) = F f dfr none (args' ++ Array.replicate (fn.ntmps - args'.size) undef) [] [.code c] .run := by
    simp [Frame.enter, F, hf, hb]
  have hinit : SR P N w0 ρ { fn := f, round := none, dfr } none cs0 { tm := args ++ Array.replicate (fn.ntmps - args.size) undef, df := [], up, h } (args' ++ Array.replicate (fn.ntmps - args'.size) undef) [] cs w := by
    refine ⟨r, ?_, AllR.nil _, hcs, trivial⟩
    rw [← ha.size]
    refine ha.append ⟨rfl, fun i v v' e1 e2 => ?_⟩
    rw [e1] at e2
    cases e2
    have := List.mem_of_getElem? e1
    simp at this
    rw [this.2]; exact VR.undef ρ
  have hgo : ∀ {s : St} {ex : Ex} {u : FrameMode}, Rr.code { fn := f, round := none, dfr } c { tm := args ++ Array.replicate (fn.ntmps - args.size) undef, df := [], up, h } = some (ex, s) →
      ((leaveB P Rr fn s.tm s.df u s.h).map fun (e, h) => (e, s.up, h)) = some (e, up1, h1) →
      (∀ ρ1 tm1 df1 cs1 w1 M, Land P ρ1 M (fun todo mode => lone (F f dfr none tm1 df1 todo mode) cs1 w1) [] ex → ∃ todo u', UpR ρ1 u u' ∧ Steps P M (lone (F f dfr none tm1 df1 todo u') cs1 w1)) →
      ∃ ρ1 cs1 w1 e' fr, Le ρ ρ1 ∧ (∀ A, A < h.n → ρ1 A = ρ A) ∧ R P N w0 ρ1 h1 w1 ∧ CsR ρ1 dfr up1 cs0 cs1 ∧ EndR ρ1 e e' ∧
        Steps P (lone (Frame.enter P f args' (if dfr then .deferred else .normal)) cs w) (lone fr cs1 w1) ∧ fr.kind = (if dfr then .deferred else .normal) ∧ fr.fn = f ∧ fr.going P w1 e' := by
    intro s ex u hcode hleave hland
    simp only [Option.map_eq_some_iff] at hleave
    obtain ⟨⟨e2, h2⟩, hl, heq⟩ := hleave
    cases heq
    obtain ⟨ρ1, tm1, df1, cs1, w1, a1, a2, a3, a4⟩ := S.code N w0 hG _ _ _ _ _ hcode ρ none cs0 _ _ _ _ [] hinit
    obtain ⟨todo, u', hu, hst⟩ := hland ρ1 tm1 df1 cs1 w1 _ a4
    have hn := (G.code _ _ _ _ _ hcode).le
    obtain ⟨ρ2, w2, e', fr1, b1, b2, b3, b4, b5, b6, b7, b8⟩ := zkL S G hG _ _ _ _ _ hl ρ1 w1 (F f dfr none tm1 df1 todo u') cs1 a3.r a3.tm a3.df hu hf
    refine ⟨ρ2, cs1, w2, e', fr1, a1.trans b1, fun A hA => (b2 A (Nat.lt_of_lt_of_le hA hn)).trans (a2 A hA), b3, a3.cs.mono b1, b4, ?_, b6.trans rfl, b7.trans rfl, b8⟩
    rw [henter]
    exact hst.trans b5
  split at he
  · rename_i hcode
    refine hgo hcode he fun ρ1 tm1 df1 cs1 w1 M hl => ⟨[], .returning, .ret, hl.trans (.one (st_end rfl))⟩
  · rename_i hcode
    refine hgo hcode he fun ρ1 tm1 df1 cs1 w1 M hl => ?_
    obtain ⟨k1, hst⟩ := hl
    exact ⟨_, .returning, .ret, hst.trans (.one (st_ret rfl))⟩
  · rename_i hcode
    refine hgo hcode he fun ρ1 tm1 df1 cs1 w1 M hl => ?_
    obtain ⟨k1, ch', hc, hst⟩ := hl
    exact ⟨k1, .panicking ch', .pan hc, hst⟩
  · cases he
end
end Go.AX
