/- What rounds, ranges over functions and the beginnings of open regions are in the machine. -/
import Derived.Test.YtjdopbcoaocllaaGreatDoorAxB
import Derived.RangeFuncNested
namespace Go.AX
open Go.RowKit
def bF (fn : FuncId) (dfr : Bool) (rd : Option Nat) : Frame := { (default : Frame) with fn, kind := if dfr then .deferred else .normal, roundOf := rd }
theorem zhT (fn : FuncId) (dfr : Bool) (rd : Option Nat) (tm : Array Value) (df : List Deferred) (todo : List Item) : F fn dfr rd tm df todo .run = (bF fn dfr rd).atR { tmps := tm, defers := df } todo := rfl
section
variable {P : Program} {N : Nat → Prop} {w0 w : World} {ρ : Ren} {h : Heap}
theorem ze4 {fn : FuncId} {dfr : Bool} {tm : Array Value} {df : List Deferred} {k : List Item} {cs : List Frame} {l : Nat} {w' : World} (hr : (Instr.beginRound l).run P w = .ok () w') :
    step P (lone (F fn dfr (some l) tm df (.beginRound :: k) .run) cs w) = .next (lone (F fn dfr (some l) tm df k .run) cs w') := by
  rw [zhT, zhT]; exact stepR_beginRound rfl hr
theorem st_rEnd {fn : FuncId} {tm : Array Value} {df : List Deferred} {c : Frame} {cs : List Frame} {l : Nat} {v : Value} {w' : World} (hr : (Instr.endRound l none).run P w = .ok v w') :
    step P (lone (F fn false (some l) tm df [] .run) (c :: cs) w) = .next (lone (c.finish v) cs w') := by
  rw [zhT]; exact stepR_round_end rfl rfl hr
theorem st_rRet {fn : FuncId} {tm : Array Value} {df : List Deferred} {k : List Item} {c : Frame} {cs : List Frame} {l : Nat} {v : Value} {w' : World} (hr : (Instr.endRound l (some .ret)).run P w = .ok v w') :
    step P (lone (F fn false (some l) tm df (.code .ret :: k) .run) (c :: cs) w) = .next (lone (c.finish v) cs w') := by
  rw [zhT]; exact stepR_round_ret rfl rfl hr
theorem st_rExit {fn : FuncId} {tm : Array Value} {df : List Deferred} {k : List Item} {c : Frame} {cs : List Frame} {l id : Nat} {v : Value} {w' : World} (hx : exitTo id k = none) (hr : (Instr.endRound l (some (.exit id))).run P w = .ok v w') :
    step P (lone (F fn false (some l) tm df (.code (.exit id) :: k) .run) (c :: cs) w) = .next (lone (c.finish v) cs w') := by
  rw [zhT]; exact stepR_round_exit rfl rfl hx hr
theorem zbG (r : R P N w0 ρ h w) {l : Nat} {sl : Slot} {r0 : Loop} (hl : ρ l = some sl) (e : loopB h l = some r0) :
    ∃ r' s, h.get? l = some (.obj (.loop r0)) ∧ w.heap[sl.g]? = some (.loop r') ∧ r'.state = r0.state ∧ r'.pending = r0.pending ∧ r'.fn = r0.fn ∧ XR ρ r0.tmps r'.tmps ∧ r'.params = r0.params ∧ r'.assign = r0.assign ∧ r'.body = r0.body ∧ ρ r0.defers = some s ∧ r'.defers = s.g := by
  unfold loopB at e
  split at e
  · rename_i r1 hg
    cases e
    have hb := r.blk l sl _ hl hg
    cases hb with
    | obj o' hd hw hO =>
      cases hO with
      | loop h1 h2 h3 h4 h5 h6 h7 h8 h9 => exact ⟨_, _, hg, hw, h1, h2, h3, h4, h5, h6, h7, h8, h9⟩
  · cases e
theorem ze7 (r : R P N w0 ρ h w) {l : Nat} {sl : Slot} {r0 : Loop} (hl : ρ l = some sl) (e : loopB h l = some r0) {r' : Loop} (hw : w.heap[sl.g]? = some (.loop r')) {r1 r1' : Loop} (hO : OR ρ (.loop r1) (.loop r1')) :
    R P N w0 ρ (h.set l (.obj (.loop r1))) (w.putObj sl.g (.loop r1')) := by
  obtain ⟨r2, s, hg, hw2, _⟩ := zbG r hl e
  obtain ⟨w', hrun, hr, _⟩ := zbb r hl hg hw (by intro a b c; simp) hO
  have h2 : (setObj sl.g (.loop r1')).run P w = .ok () (w.putObj sl.g (.loop r1')) := run_setObj_loop _ hw
  rw [h2] at hrun
  cases hrun
  exact hr
theorem zgu {ρ : Ren} : ∀ (ps : List Tmp) (as as' : List Value) (tm tm' : Array Value), LR ρ as as' → XR ρ tm tm' →
    XR ρ ((ps.zip as).foldl (fun tm (p : Tmp × Value) => tm.setIfInBounds p.1 p.2) tm) ((ps.zip as').foldl (fun tm (p : Tmp × Value) => tm.setIfInBounds p.1 p.2) tm') := by
  intro ps
  induction ps with
  | nil => intro as as' tm tm' _ ht; simpa using ht
  | cons p ps ih =>
    intro as as' tm tm' ha ht
    cases as with
    | nil =>
      cases as' with
      | nil => simpa using ht
      | cons b l => have := ha.1; simp at this
    | cons a as =>
      cases as' with
      | nil => have := ha.1; simp at this
      | cons b l =>
        simp only [List.zip_cons_cons, List.foldl_cons]
        exact ih _ _ _ _ ha.tail (ht.setIf p ha.head)
theorem zf2 {ps : Array Tmp} {as as' tm tm' : Array Value} (ha : XR ρ as as') (ht : XR ρ tm tm') :
    XR ρ ((ps.zip as).foldl (fun tm (t, a) => tm.setIfInBounds t a) tm) ((ps.zip as').foldl (fun tm (t, a) => tm.setIfInBounds t a) tm') := by
  have := zgu (ρ := ρ) ps.toList as.toList as'.toList tm tm' ha ht
  rw [← Array.foldl_toList, ← Array.foldl_toList, Array.toList_zip, Array.toList_zip]
  exact this
theorem zcs (r : R P N w0 ρ h w) {l : Nat} {sl : Slot} (hl : ρ l = some sl) {jump : Option Code} {e : End} {h1 : Heap} (he : endRoundB l jump h = some (e, h1)) :
    e = .ret (.bool jump.isNone) ∧ ∃ w', (Instr.endRound sl.g jump).run P w = .ok (.bool jump.isNone) w' ∧ R P N w0 ρ h1 w' := by
  unfold endRoundB at he
  split at he
  · rename_i r0 hr0
    cases he
    obtain ⟨r', s, hg, hw, e1, e2, e3, e4, e5, e6, e7, e8, e9⟩ := zbG r hl hr0
    exact ⟨rfl, _, run_endRound jump hw, ze7 r hl hr0 hw (.loop rfl rfl e3 e4 e5 e6 e7 e8 e9)⟩
  · cases he
theorem zja {Rr : Recs} {Good : World → Prop} (S : Sims P Rr Good) (G : Grows Rr) (hG : Safe Good N w0) {l : Nat} {args : Array Value} {h : Heap} {e : End} {h1 : Heap}
    (he : roundF P Rr l args h = some (e, h1)) : SimRound P N w0 l args h e h1 := by
  intro ρ sl args' c cs w r hl ha
  unfold roundF at he
  split at he
  · cases he
  rename_i r0 hr0
  split at he
  · cases he
  rename_i hsz
  obtain ⟨r', sd, hg, hw, e1, e2, e3, e4, e5, e6, e7, e8, e9⟩ := zbG r hl hr0
  have hy := run_yield (P := P) hw (args := args') (by rw [← ha.size, e5]; simpa using hsz)
  split at he
  · rename_i s hcode
    have hinit : SR P N w0 ρ { fn := r0.fn, round := some l, dfr := false } (some sl.g) (c :: cs) { tm := (r0.params.zip args).foldl (fun tm (t, a) => tm.setIfInBounds t a) r0.tmps, df := [], up := .run, h }
        ((r'.params.zip args').foldl (fun tm (t, a) => tm.setIfInBounds t a) r'.tmps) [] (c :: cs) w := by
      refine ⟨r, ?_, AllR.nil _, by simp [CsR], ⟨sl, hl, rfl⟩⟩
      rw [e5]; exact zf2 ha e4
    obtain ⟨ρ1, tm1, df1, cs1, w1, a1, a2, a3, a4⟩ := S.code N w0 hG _ _ _ _ _ hcode ρ (some sl.g) (c :: cs) _ _ _ _ [.beginRound, .code r0.body] hinit
    have hn1 := (G.code _ _ _ _ _ hcode).le
    have hcs1 : cs1 = c :: cs := by simpa [CsR] using a3.cs
    subst hcs1
    have hround : Frame.round sl.g r'.fn ((r'.params.zip args').foldl (fun tm (t, a) => tm.setIfInBounds t a) r'.tmps) r'.assign r'.body .normal =
        F r0.fn false (some sl.g) ((r'.params.zip args').foldl (fun tm (t, a) => tm.setIfInBounds t a) r'.tmps) [] ([.code r0.assign] ++ [.beginRound, .code r0.body]) .run := by
      rw [e3, e6, e7]; rfl
    split at he
    · rename_i r1 hr1
      split at he
      · rename_i hready
        have hl1 := a1 l sl hl
        obtain ⟨r1', sd1, hg1, hw1, f1, f2, f3, f4, f5, f6, f7, f8, f9⟩ := zbG a3.r hl1 hr1
        have hrd : r1'.state = .ready := by rw [f1]; simpa using hready
        have hbr := run_beginRound (P := P) hw1 hrd
        have hset := ze7 a3.r hl1 hr1 hw1 (r1 := { r1 with state := .busy }) (r1' := { r1' with state := .busy }) (.loop rfl f2 f3 f4 f5 f6 f7 f8 f9)
        have hst := ze4 (fn := r0.fn) (dfr := false) (tm := tm1) (df := df1) (k := [.code r0.body]) (cs := c :: cs) hbr
        have hmid : ∀ {e2 : Ex} {s2 : St}, Rr.code { fn := r0.fn, round := some l, dfr := false } r0.body { s with h := s.h.set l (.obj (.loop { r1 with state := .busy })) } = some (e2, s2) →
            ∃ ρ2 tm2 df2 w2, Le ρ ρ2 ∧ (∀ A, A < h.n → ρ2 A = ρ A) ∧ R P N w0 ρ2 s2.h w2 ∧ DsR ρ2 s2.df df2 ∧
              Land P ρ2 (lone (Frame.round sl.g r'.fn ((r'.params.zip args').foldl (fun tm (t, a) => tm.setIfInBounds t a) r'.tmps) r'.assign r'.body .normal) (c :: cs) w) (fun todo mode => lone (F r0.fn false (some sl.g) tm2 df2 todo mode) (c :: cs) w2) [] e2 := by
          intro e2 s2 hcode2
          have hinit2 : SR P N w0 ρ1 { fn := r0.fn, round := some l, dfr := false } (some sl.g) (c :: cs) { s with h := s.h.set l (.obj (.loop { r1 with state := .busy })) } tm1 df1 (c :: cs) (w1.putObj sl.g (.loop { r1' with state := .busy })) :=
            ⟨hset, a3.tm, a3.df, by simp [CsR], ⟨sl, hl1, rfl⟩⟩
          obtain ⟨ρ2, tm2, df2, cs2, w2, b1, b2, b3, b4⟩ := S.code N w0 hG _ _ _ _ _ hcode2 ρ1 (some sl.g) (c :: cs) _ _ _ _ [] hinit2
          have hcs2 : cs2 = c :: cs := by simpa [CsR] using b3.cs
          subst hcs2
          refine ⟨ρ2, tm2, df2, w2, a1.trans b1, fun A hA => (b2 A (by simp only [Heap.set]; exact Nat.lt_of_lt_of_le hA hn1)).trans (a2 A hA), b3.r, b3.df, ?_⟩
          rw [hround]
          have a4' : Steps P _ _ := a4
          exact b4.steps (a4'.trans (.one hst))
        split at he
        · rename_i s2 hcode2
          obtain ⟨ρ2, tm2, df2, w2, c1, c2, c3, c4, c5⟩ := hmid hcode2
          obtain ⟨rfl, w3, d1, d2⟩ := zcs c3 (c1 l sl hl) he
          refine ⟨ρ2, w3, .returned _, c1, c2, d2, .bool _, _, _, _, _, hy, ?_⟩
          exact (show Steps P _ _ from c5).trans (.one (st_rEnd d1))
        · rename_i s2 hcode2
          obtain ⟨ρ2, tm2, df2, w2, c1, c2, c3, c4, c5⟩ := hmid hcode2
          obtain ⟨rfl, w3, d1, d2⟩ := zcs c3 (c1 l sl hl) he
          refine ⟨ρ2, w3, .returned _, c1, c2, d2, .bool _, _, _, _, _, hy, ?_⟩
          obtain ⟨k1, hs⟩ := c5
          exact hs.trans (.one (st_rRet d1))
        · rename_i id s2 hcode2
          obtain ⟨ρ2, tm2, df2, w2, c1, c2, c3, c4, c5⟩ := hmid hcode2
          obtain ⟨rfl, w3, d1, d2⟩ := zcs c3 (c1 l sl hl) he
          refine ⟨ρ2, w3, .returned _, c1, c2, d2, .bool _, _, _, _, _, hy, ?_⟩
          obtain ⟨k1, hk1, hs⟩ := c5
          exact hs.trans (.one (st_rExit (by rw [hk1]; rfl) d1))
        · rename_i ch s2 hcode2
          obtain ⟨ρ2, tm2, df2, w2, c1, c2, c3, c4, c5⟩ := hmid hcode2
          split at he
          · rename_i hcond
            cases he
            simp only [Bool.and_eq_true, List.isEmpty_iff] at hcond
            obtain ⟨k1, ch', hch, hs⟩ := c5
            refine ⟨ρ2, w2, .panicked ch', c1, c2, c3, hch, _, _, _, _, hy, ?_⟩
            have hdf2 : df2 = [] := by have := c4; rw [hcond.1] at this; exact AllR.nil_inv this
            subst hdf2
            obtain ⟨fn, hfn⟩ := Option.isSome_iff_exists.1 hcond.2
            exact hs.trans (.one (step_leave_panicked ⟨rfl, rfl, fn, hfn⟩))
          · cases he
        · cases he
      · cases he
    · cases he
  · cases he
end
end Go.AX

namespace Go.AX
open Go.RowKit
section
variable {P : Program} {N : Nat → Prop} {w0 w : World} {ρ : Ren} {h : Heap}
theorem zfH {fn : FuncId} {dfr : Bool} {rd : Option Nat} {tm : Array Value} {df : List Deferred} {k : List Item} {cs : List Frame} {g : Operand} {ps : Array Tmp} {assign body : Code} {l : Nat} {mark : List Deferred} {w1 w2 : World} {f : FuncId} {args : Array Value}
    (he : (Instr.enterLoop fn tm ps assign body rd).run P w = .ok (l, mark) w1)
    (hres : (do let d ← Deferred.ofValue (ev tm g) #[.func (.yield l) #[] #[]]; invoke d.target d.args : Sem Next).run P w1 = .ok (.enter f args) w2) :
    step P (lone (F fn dfr rd tm df (.code (.rangeFunc g ps assign body) :: k) .run) cs w) =
      .next (lone (Frame.enter P f args .normal) (F fn dfr rd tm (mark ++ df) (.inRangeFunc l :: k) .run :: cs) w2) := by
  have hev := zlB fn dfr rd tm (mark ++ df) (.inRangeFunc l :: k) .run
  have hres2 : (do let d ← resolve (ev tm) { callee := .value g, args := #[.const (.func (.yield l) #[] #[])], argTypes := #[] } 0; invoke d.target d.args : Sem Next).run P w1 = .ok (.enter f args) w2 := by
    simp [resolve, ev] at hres ⊢; exact hres
  refine step_lone_go ?_
  simp only [F] at hev ⊢
  simp only [stepG, stepG.exec, Sem.runT_eq, he, GStep.bare_after]
  simp only [stepG.apply, hev]
  simp [hres2]
theorem zft (r : R P N w0 ρ h w) {x : Ctx} {s : St} (hsh : s.h = h) {params : Array Tmp} {assign body : Code} {l : Nat} {m : List Deferred} {h1 : Heap} {rd : Option Nat} {tm' : Array Value}
    (hrd : RdR ρ x.round rd) (ht : XR ρ s.tm tm') (e : enterLoopB x s params assign body = some (l, m, h1)) :
    ∃ ρ1 w1 sl m', Le ρ ρ1 ∧ (∀ A, A < h.n → ρ1 A = ρ A) ∧ R P N w0 ρ1 h1 w1 ∧ ρ1 l = some sl ∧ DsR ρ1 m m' ∧ (Instr.enterLoop x.fn tm' params assign body rd).run P w = .ok (sl.g, m') w1 := by
  subst hsh
  unfold enterLoopB at e
  split at e
  · rename_i l0 hx
    split at e
    · rename_i r0 hr0
      cases e
      rw [hx] at hrd
      cases rd with
      | none => exact hrd.elim
      | some l0' =>
        obtain ⟨s0, hs0, rfl⟩ := hrd
        obtain ⟨r', sd, hg, hw, e1, e2, e3, e4, e5, e6, e7, e8, e9⟩ := zbG r hs0 hr0
        have hrun := run_enterLoop_inner (P := P) hw x.fn tm' params assign body
        have hle := Le.upd (⟨w.heap.size, 0, 0⟩ : Slot) r.fresh
        obtain ⟨hle, hr⟩ := r.push (More.alloc w (.loop { state := .ready, pending := none, fn := x.fn, tmps := tm', params, assign, body, defers := r'.defers })) (.obj (.loop { state := .ready, pending := none, fn := x.fn, tmps := s.tm, params, assign, body, defers := r0.defers })) ⟨w.heap.size, 0, 0⟩ (Nat.le_refl _) (by simp)
          (.obj (.loop { state := .ready, pending := none, fn := x.fn, tmps := tm', params, assign, body, defers := r'.defers }) rfl (by show (w.heap.push _)[w.heap.size]? = _; simp) (.loop rfl rfl rfl (ht.mono hle) rfl rfl rfl (hle _ _ e8) e9))
        exact ⟨_, _, _, [], hle, fun A hA => zbJ hA, hr, zbn _ _ _, AllR.nil _, hrun⟩
    · cases e
  · rename_i hx
    cases e
    rw [hx] at hrd
    cases rd with
    | some l' => exact hrd.elim
    | none =>
      have hrun := run_enterLoop_outer (P := P) (w := w) x.fn tm' params assign body
      obtain ⟨hle, hr⟩ := r.push (More.alloc w (.deferred (some []))) (.obj (.deferred (some []))) ⟨w.heap.size, 0, 0⟩ (Nat.le_refl _) (by simp)
        (.obj (.deferred (some [])) rfl (by show (w.heap.push _)[w.heap.size]? = _; simp) .empty)
      have hle1 := Le.upd (⟨(w.alloc (.deferred (some []))).heap.size, 0, 0⟩ : Slot) hr.fresh
      obtain ⟨hle2, hr2⟩ := hr.push (More.alloc _ (.loop { state := .ready, pending := none, fn := x.fn, tmps := tm', params, assign, body, defers := w.heap.size })) (.obj (.loop { state := .ready, pending := none, fn := x.fn, tmps := s.tm, params, assign, body, defers := s.h.n })) ⟨(w.alloc (.deferred (some []))).heap.size, 0, 0⟩ (Nat.le_refl _) (by simp)
        (.obj (.loop { state := .ready, pending := none, fn := x.fn, tmps := tm', params, assign, body, defers := w.heap.size }) rfl (World.alloc_heap_new _ _) (.loop rfl rfl rfl ((ht.mono hle).mono hle1) rfl rfl rfl (hle1 _ _ (zbn _ _ _)) rfl))
      refine ⟨_, _, ⟨w.heap.size + 1, 0, 0⟩, [{ target := .collected w.heap.size, args := #[] }], hle.trans hle2, fun A hA => ?_, hr2, ?_, AllR.cons ⟨.col (hle2 _ _ (zbn ρ s.h.n ⟨w.heap.size, 0, 0⟩)), XR.mk rfl (by simp)⟩ (AllR.nil _), hrun⟩
      · rw [zbJ (by simp [Heap.push]; omega), zbJ hA]
      · rw [zbn]; simp
theorem zdQ {fn : FuncId} {dfr : Bool} {rd : Option Nat} {tm : Array Value} {df : List Deferred} {k : List Item} {cs : List Frame} {l : Nat} {jump : Option Code} {w' : World} (hr : (Instr.endLoop l).run P w = .ok jump w') :
    step P (lone (F fn dfr rd tm df (.endRangeFunc l :: k) .run) cs w) = .next (lone (F fn dfr rd tm df ((jump.map Item.code).toList ++ k) .run) cs w') := by
  rw [zhT, zhT]; exact stepR_endRangeFunc hr
theorem zfg {Rr : Recs} {Good : World → Prop} (S : Sims P Rr Good) (G : Grows Rr) (hG : Safe Good N w0) {x : Ctx} {s : St} {f : Operand} {params : Array Tmp} {assign body : Code} {e : Ex} {s1 : St}
    (he : rangeFuncB P Rr x s f params assign body = some (e, s1)) : SimCode P N w0 x [.code (.rangeFunc f params assign body)] s e s1 := by
  intro ρ rd cs0 tm' df' cs w k hs
  unfold rangeFuncB at he
  split at he
  · cases he
  rename_i l mark h0 henter
  have hn0 := (zcr henter).le
  simp only at he
  split at he
  · cases he
  rename_i hok
  obtain ⟨ρ1, w1, sl, m', a1, a2, a3, a4, a5, a6⟩ := zft hs.r rfl hs.rd hs.tm henter
  have hf : VR ρ1 (ev s.tm f) (ev tm' f) := (zir hs.r hs.tm (by simpa using hok)).mono a1
  have hy : VR ρ1 (.func (.yield l) #[] #[]) (.func (.yield sl.g) #[] #[]) := VR.func' ⟨sl, a4, rfl⟩ (XR.mk rfl (by simp)) (XR.mk rfl (by simp))
  split at he
  · rename_i g args hcv
    obtain ⟨args', ha, hrun⟩ := zcR hf (show XR ρ1 #[.func (.yield l) #[] #[]] #[.func (.yield sl.g) #[] #[]] from LR.cons hy (LR.nil _)) hcv w1
    have hst := zfH (P := P) (dfr := x.dfr) (df := df') (k := k) (cs := cs) a6 hrun
    split at he
    · rename_i v up1 h2 hc
      have hn1 := (G.call _ _ _ _ _ _ _ _ hc).le
      obtain ⟨ρ2, cs2, w2, e', fr, b1, b2, b3, b4, b5, b6, b7, b8, b9⟩ := S.call N w0 hG _ _ _ _ _ _ _ _ hc ρ1 args' _ (F x.fn x.dfr rd tm' (m' ++ df') (.inRangeFunc sl.g :: k) .run :: cs) w1 a3 ha rfl
      have hcs2 : cs2 = F x.fn x.dfr rd tm' (m' ++ df') (.inRangeFunc sl.g :: k) .run :: cs := by simpa [CsR] using b4
      subst hcs2
      cases e' with
      | panicked c => exact b5.elim
      | outgrown => exact b5.elim
      | returned v' =>
        have h3 := step_leave_returned (c := F x.fn x.dfr rd tm' (m' ++ df') (.inRangeFunc sl.g :: k) .run) (cs := cs) (fr := fr) (w := w2) (v := v') ⟨b9.1, b9.2.1, by simpa using b7, b9.2.2⟩
        have hfin : (F x.fn x.dfr rd tm' (m' ++ df') (.inRangeFunc sl.g :: k) .run).finish v' = F x.fn x.dfr rd tm' (m' ++ df') (.endRangeFunc sl.g :: k) .run := rfl
        rw [hfin] at h3
        split at he
        · rename_i r0 hr0
          split at he
          · cases he
          rename_i hbusy
          have hl2 := b1 l sl a4
          obtain ⟨r', sd, hg, hw, e1, e2, e3, e4, e5, e6, e7, e8, e9⟩ := zbG b3 hl2 hr0
          have hend := run_endLoop (P := P) hw (by rw [e1]; simpa using hbusy)
          have hset := ze7 b3 hl2 hr0 hw (r1 := { r0 with state := .exhausted }) (r1' := { r' with state := .exhausted }) (.loop rfl e2 e3 e4 e5 e6 e7 e8 e9)
          have hst2 : ∀ jump, r'.pending = jump → step P (lone (F x.fn x.dfr rd tm' (m' ++ df') (.endRangeFunc sl.g :: k) .run) cs w2) =
              .next (lone (F x.fn x.dfr rd tm' (m' ++ df') ((jump.map Item.code).toList ++ k) .run) cs (w2.putObj sl.g (.loop { r' with state := .exhausted }))) :=
            fun jump hj => zdQ (hend.trans (by rw [hj]))
          have hle := a1.trans b1
          have hsr : SR P N w0 ρ2 x rd cs0 { s with h := h2.set l (.obj (.loop { r0 with state := .exhausted })), df := mark ++ s.df } tm' (m' ++ df') cs (w2.putObj sl.g (.loop { r' with state := .exhausted })) :=
            ⟨hset, hs.tm.mono hle, AllR.append (DsR.mono b1 a5) (DsR.mono hle hs.df), hs.cs.mono hle, hs.rd.mono hle⟩
          have hag : ∀ A, A < s.h.n → ρ2 A = ρ A := fun A hA => (b2 A (Nat.lt_of_lt_of_le hA hn0)).trans (a2 A hA)
          split at he
          · rename_i hp
            cases he
            have hst2 := hst2 none (e2.trans hp)
            exact ⟨ρ2, tm', m' ++ df', cs, _, hle, hag, hsr, .head hst (b6.trans (.head h3 (.one hst2)))⟩
          · rename_i c hp
            have hst2 := hst2 (some c) (e2.trans hp)
            obtain ⟨ρ3, tm3, df3, cs3, w3, c1, c2, c3, c4⟩ := S.code N w0 hG _ _ _ _ _ he ρ2 rd cs0 tm' (m' ++ df') cs _ k hsr
            refine ⟨ρ3, tm3, df3, cs3, w3, hle.trans c1, fun A hA => (c2 A ?_).trans (hag A hA), c3, c4.steps (.head hst (b6.trans (.head h3 (.one hst2))))⟩
            simp only [Heap.set]; exact Nat.lt_of_lt_of_le hA (Nat.le_trans hn0 hn1)
        · cases he
    · rename_i c up1 h2 hc
      obtain ⟨ρ2, cs2, w2, e', fr, b1, b2, b3, b4, b5, b6, b7, b8, b9⟩ := S.call N w0 hG _ _ _ _ _ _ _ _ hc ρ1 args' _ (F x.fn x.dfr rd tm' (m' ++ df') (.inRangeFunc sl.g :: k) .run :: cs) w1 a3 ha rfl
      have hcs2 : cs2 = F x.fn x.dfr rd tm' (m' ++ df') (.inRangeFunc sl.g :: k) .run :: cs := by simpa [CsR] using b4
      subst hcs2
      cases e' with
      | returned v' => exact b5.elim
      | outgrown => exact b5.elim
      | panicked c' =>
        have h3 := step_leave_panicked (c := F x.fn x.dfr rd tm' (m' ++ df') (.inRangeFunc sl.g :: k) .run) (cs := cs) (fr := fr) (w := w2) (chain := c') ⟨b9.1, b9.2.1, b9.2.2⟩
        cases he
        have hle := a1.trans b1
        exact ⟨ρ2, tm', m' ++ df', cs, w2, hle, fun A hA => (b2 A (Nat.lt_of_lt_of_le hA hn0)).trans (a2 A hA), ⟨b3, hs.tm.mono hle, AllR.append (DsR.mono b1 a5) (DsR.mono hle hs.df), hs.cs.mono hle, hs.rd.mono hle⟩,
          _, c', b5, .head hst (b6.trans (.one h3))⟩
    · cases he
  · cases he
end
end Go.AX

namespace Go.AX
section
variable {P : Program} {h h1 : Heap} {v : Value} {tm : Array Value} {o : Oper}
def Sub (h H : Heap) : Prop := ∀ A b, h.get? A = some b → H.get? A = some b
def Kind (P : Program) (tm : Array Value) (o : Oper) (h : Heap) (v : Value) (h1 : Heap) : Prop :=
  (h1 = h ∧ (looks o = false → ∀ H, simpleB P tm H o = some (v, H)) ∧ ∀ H, Sub h H → simpleB P tm H o = some (v, H)) ∨
  (∃ b, h1 = h.push b ∧ own b = true ∧ live b = true ∧ ro b = false ∧ ∀ H, H.n = h.n → simpleB P tm H o = some (v, H.push b))
theorem Kind.keep (f : Option Value) (hf : ∀ H, simpleB P tm H o = f.map fun v => (v, H)) (e : simpleB P tm h o = some (v, h1)) : Kind P tm o h v h1 := by
  rw [hf] at e
  cases f with
  | none => cases e
  | some u =>
    simp at e
    obtain ⟨rfl, rfl⟩ := e
    exact .inl ⟨rfl, fun _ H => by rw [hf]; rfl, fun H _ => by rw [hf]; rfl⟩
theorem Kind.read (g : Heap → Option Value) (hf : ∀ H, simpleB P tm H o = (g H).map fun v => (v, H)) (hl : looks o = true) (hm : ∀ H v, Sub h H → g h = some v → g H = some v) (e : simpleB P tm h o = some (v, h1)) : Kind P tm o h v h1 := by
  rw [hf] at e
  cases hg : g h with
  | none => rw [hg] at e; cases e
  | some u =>
    rw [hg] at e
    simp at e
    obtain ⟨rfl, rfl⟩ := e
    exact .inl ⟨rfl, (fun hn => by rw [hl] at hn; cases hn), fun H hH => by rw [hf, hm H _ hH hg]; rfl⟩
theorem Kind.new (c : Option (Blk × (Nat → Value))) (hf : ∀ H, simpleB P tm H o = c.map fun p => (p.2 H.n, H.push p.1)) (ho : ∀ p, c = some p → own p.1 = true ∧ live p.1 = true ∧ ro p.1 = false) (e : simpleB P tm h o = some (v, h1)) : Kind P tm o h v h1 := by
  rw [hf] at e
  cases c with
  | none => cases e
  | some p =>
    simp at e
    obtain ⟨rfl, rfl⟩ := e
    obtain ⟨a, b, c⟩ := ho p rfl
    exact .inr ⟨p.1, rfl, a, b, c, fun H hn => by rw [hf]; simp [hn]⟩
theorem zjk {t : TypeId} {a : Value} (H : Heap) (v : Value) (hs : Sub h H) (e : readB P h t a = some v) : readB P H t a = some v := by
  unfold readB at *
  split at e
  · split at e
    · rename_i hg; rw [hs _ _ hg]; exact e
    · cases e
  · cases e
theorem zkh {s n : Nat} {y : Value} {l : List Value} (H : Heap) (hs : Sub h H) (e : rowB h s n y = some l) : rowB H s n y = some l := by
  unfold rowB at *
  split at e
  · exact e
  · split at e
    · cases e
    rename_i h1
    split at e
    · rename_i h2; rw [if_neg h1, if_pos h2]; exact e
    rename_i h2
    split at e
    · rename_i hg; rw [if_neg h1, if_neg h2, hs _ _ hg]; exact e
    · cases e
  · exact e
  · cases e
theorem zeO {m : Value} {q : Nat × Array MapEntry × Nat} (H : Heap) (hs : Sub h H) (e : mapOf h m = some q) : mapOf H m = some q := by
  unfold mapOf at *
  split at e
  · split at e
    · rename_i hg; rw [hs _ _ hg]; exact e
    · cases e
  · cases e
theorem zgf {m : Value} {q : Array MapEntry} (H : Heap) (hs : Sub h H) (e : mapRows h m = some q) : mapRows H m = some q := by
  unfold mapRows at *
  split at e
  · exact e
  · split at e
    · rename_i hg; rw [zeO H hs hg]; exact e
    · cases e
theorem zhn {t : TypeId} {m k : Value} {ok : Bool} (H : Heap) (v : Value) (hs : Sub h H) (e : lookupB P h t m k ok = some v) : lookupB P H t m k ok = some v := by
  unfold lookupB at *
  split at e
  · split at e
    · rename_i h1 h2; rw [zgf H hs h1]; simp only [h2]; exact e
    · cases e
  · cases e
theorem Kind.same (hf : ∀ H, simpleB P tm H o = some (v, H)) (e : simpleB P tm h o = some (v, h1)) : Kind P tm o h v h1 :=
  Kind.keep (some v) (fun H => by rw [hf]; rfl) e
theorem zgB {src dst : TypeId} {x : Operand} (ho : o.op = .convert src dst x) (e : simpleB P tm h o = some (v, h1)) : Kind P tm o h v h1 := by
  have hs : ∀ H, simpleB P tm H o = convertB P tm H o src dst (ev tm x) := fun H => by simp only [simpleB, ho]
  have hl : looks o = true := by simp [looks, ho]
  have hplain : (∀ H, simpleB P tm H o = (plainOp P tm o).map fun v => (v, H)) → Kind P tm o h v h1 := fun hf => Kind.keep _ hf e
  cases hx : ev tm x with
  | slice a len cap =>
    cases hu : P.underlying src with
    | none => rw [hs, hx] at e; simp [convertB, hu] at e
    | some us =>
    cases hd : P.underlying dst with
    | none => rw [hs, hx] at e; simp [convertB, hu, hd] at e
    | some ud =>
    refine Kind.read (fun H => match us, ud with
      | .slice e, .string => match P.underlying e, rowB H 1 len (.slice a len 0) with
        | some (.int .u8), some c => if sizeB P e != some 1 then none else (strOf c .empty).map fun s => .string s
        | _, _ => none
      | _, _ => none) (fun H => ?_) hl ?_ e
    · rw [hs, hx]
      simp only [convertB, hu, hd]
      cases us <;> cases ud <;> try rfl
      simp only
      split
      · rename_i h1 h2
        simp only [h1, h2]
        split
        · rfl
        · cases strOf _ _ <;> rfl
      · simp_all
    · intro H v hH hg
      cases us <;> cases ud <;> try (cases hg; done)
      simp only at hg ⊢
      split at hg
      · rename_i c h1 h2
        rw [zkh H hH h2]
        simp only [h1]
        exact hg
      · cases hg
  | string s =>
    cases hd : P.underlying dst with
    | none => exact hplain fun H => by rw [hs, hx]; simp only [convertB, hd]
    | some ud =>
      cases ud with
      | slice el =>
        refine Kind.new (match P.underlying el with
          | some (.int .u8) => if sizeB P el != some 1 || (P.underlying src).isNone then none else some (.cells (s.data.toList.map fun b => .int .u8 b.toNat) el true, fun n => .slice (some ⟨n, 0, none⟩) s.size anyCap)
          | _ => none) (fun H => ?_) ?_ e
        · rw [hs, hx]
          simp only [convertB, hd]
          split
          · rename_i h1
            simp only [h1]
            split <;> rfl
          · simp_all
        · intro p hp
          split at hp
          · split at hp
            · cases hp
            · cases hp; exact ⟨rfl, rfl, rfl⟩
          · cases hp
      | _ => exact hplain fun H => by rw [hs, hx]; simp only [convertB, hd]
  | _ => exact hplain fun H => by rw [hs, hx]; simp only [convertB]
theorem zb7 (e : simpleB P tm h o = some (v, h1)) : Kind P tm o h v h1 := by
  have e0 := e
  unfold simpleB at e
  simp only at e
  split at e
  · rename_i x ho; exact Kind.keep (some (ev tm x)) (fun H => by simp [simpleB, ho]) e0
  · rename_i x ho; exact Kind.keep (some (ev tm x)) (fun H => by simp [simpleB, ho]) e0
  · rename_i c a b ho
    split at e
    · rename_i t ht; exact Kind.keep (some (if t then ev tm a else ev tm b)) (fun H => by simp [simpleB, ho, ht]) e0
    · cases e
  · -- alloc
    rename_i el ho
    refine Kind.new (match zeroB P el with | some z => (match sizeB P el with | some n => if z.cells.size = n ∧ z.cells.toList.all oneB then some (.cells z.cells.toList el true, fun n => .pointer (some ⟨n, 0, none⟩)) else none | none => none) | none => none) (fun H => ?_) ?_ e0
    · simp only [simpleB, ho]
      cases hz : zeroB P el with
      | none => rfl
      | some z =>
        simp only [boxB, newB]
        cases hs : sizeB P el with
        | none => rfl
        | some n => simp only; split <;> rfl
    · intro p hp
      repeat' split at hp
      all_goals first | (cases hp; done) | (cases hp; exact ⟨rfl, rfl, rfl⟩)
  · -- box
    rename_i el x ho
    refine Kind.new (match sizeB P el with | some n => if (ev tm x).cells.size = n ∧ (ev tm x).cells.toList.all oneB then some (.cells (ev tm x).cells.toList el true, fun n => .pointer (some ⟨n, 0, none⟩)) else none | none => none) (fun H => ?_) ?_ e0
    · simp only [simpleB, ho, boxB, newB]
      cases hs : sizeB P el with
      | none => rfl
      | some n => simp only; split <;> rfl
    · intro p hp
      repeat' split at hp
      all_goals first | (cases hp; done) | (cases hp; exact ⟨rfl, rfl, rfl⟩)
  · rename_i t parts ho; exact Kind.keep (fillB P t (parts.toList.map fun (i, x) => (i, ev tm x))) (fun H => by simp only [simpleB, ho]) e0
  · -- buildSlice
    rename_i t len parts ho
    refine Kind.new (match P.underlying t with
      | some (.slice e) =>
        match sizeB P e, zeroB P e with
        | some s, some z =>
          if len * s ≤ 16777216 ∧ z.cells.size = s ∧ len ≤ 16777216 then
            match Instr.fill (fun i => some (i * s, s)) (zerosB z.cells (len * s)) (parts.toList.map fun (i, x) => (i, ev tm x)) with
            | some cells => if !(cells.toList.all oneB) || cells.size != len * s then none else some (.cells cells.toList e true, fun n => .slice (some ⟨n, 0, none⟩) len len)
            | none => none
          else none
        | _, _ => none
      | _ => none) (fun H => ?_) ?_ e0
    · simp only [simpleB, ho, buildSliceB]
      repeat' split
      all_goals first | rfl | simp_all
    · intro p hp
      repeat' split at hp
      all_goals first | (cases hp; done) | (cases hp; exact ⟨rfl, rfl, rfl⟩)
  · rename_i t a ho; exact Kind.read (fun H => readB P H t (ev tm a)) (fun H => by simp only [simpleB, ho]) (by simp [looks, ho]) (fun H v hH hg => zjk H v hH hg) e0
  · -- nilCheck
    rename_i x ho
    split at e
    · rename_i a hx; exact Kind.keep (some (.pointer (some a))) (fun H => by simp [simpleB, ho, hx]) e0
    · rename_i t u hx; exact Kind.keep (some (.iface t u)) (fun H => by simp [simpleB, ho, hx]) e0
    · rename_i f a b hx; exact Kind.keep (some (.func (.func f) a b)) (fun H => by simp [simpleB, ho, hx]) e0
    · cases e
  · -- makeInterface
    rename_i t x ho
    split at e
    · cases e
    · cases e
    · rename_i d hn hu
      cases e
      exact Kind.keep (some (.iface t (ev tm x))) (fun H => by simp only [simpleB, ho, hu]; cases d <;> first | rfl | exact absurd rfl (hn _)) e0
  · -- makeFunc
    rename_i fn first cap ho
    split at e
    · cases e
    · rename_i hne; cases e; exact Kind.keep (some (.func fn (first.map (ev tm)) (cap.map (ev tm)))) (fun H => by simp only [simpleB, ho]; cases fn <;> simp_all) e0
  · -- makeMap
    rename_i t ho
    exact Kind.new (some (.obj (.map #[] 0), fun n => .map (some n))) (fun H => by simp only [simpleB, ho]; rfl) (fun p hp => by cases hp; exact ⟨rfl, rfl, rfl⟩) e0
  · -- makeSlice
    rename_i t l c ho
    refine Kind.new (match P.underlying t, ev tm l, ev tm c with
      | some (.slice e), .int _ l, .int _ c =>
        match sizeB P e, bytesB P e, zeroB P e with
        | some s, some by_, some z =>
          if 0 ≤ l ∧ l ≤ c ∧ c ≤ 1048576 ∧ by_ ≤ 1048576 ∧ (zerosB z.cells (c.toNat * s)).toList.all oneB ∧ z.cells.size = s then
            some (.cells (zerosB z.cells (c.toNat * s)).toList e true, fun n => .slice (some ⟨n, 0, none⟩) l.toNat c.toNat)
          else none
        | _, _, _ => none
      | _, _, _ => none) (fun H => ?_) ?_ e0
    · simp only [simpleB, ho, makeSliceB]
      cases hu : P.underlying t with
      | none => rfl
      | some d =>
        cases d <;> try rfl
        cases hl : ev tm l <;> try rfl
        cases hc : ev tm c <;> try rfl
        simp only
        rename_i el _ _ _ _
        cases h1 : sizeB P el <;> cases h2 : bytesB P el <;> cases h3 : zeroB P el <;> try rfl
        simp only
        split <;> rfl
    · intro p hp
      repeat' split at hp
      all_goals first | (cases hp; done) | (cases hp; exact ⟨rfl, rfl, rfl⟩)
  · -- slice
    rename_i t x lo hi mx ho
    split at e
    · rename_i s hx; exact Kind.keep (plainOp P tm o) (fun H => by simp only [simpleB, ho, hx]) e0
    · rename_i hx; exact Kind.keep (sliceB P t (ev tm x) (lo.map (ev tm)) (hi.map (ev tm)) (mx.map (ev tm))) (fun H => by simp only [simpleB, ho]) e0
  · rename_i t x f ho; exact Kind.keep (fieldAtB P t (ev tm x) f) (fun H => by simp only [simpleB, ho]) e0
  · rename_i t x f ho; exact Kind.keep (fieldB P t (ev tm x) f) (fun H => by simp only [simpleB, ho]) e0
  · rename_i t x f ho; exact Kind.keep (indexAtB P t (ev tm x) (ev tm f)) (fun H => by simp only [simpleB, ho]) e0
  · rename_i t x ho; exact Kind.keep (arrayAtB P t (ev tm x)) (fun H => by simp only [simpleB, ho]) e0
  · -- extract
    rename_i t i ho
    split at e
    · rename_i vs hx; exact Kind.keep vs[i]? (fun H => by simp only [simpleB, ho, hx]) e0
    · cases e
  · rename_i t m k ok ho; exact Kind.read (fun H => lookupB P H t (ev tm m) (ev tm k) ok) (fun H => by simp only [simpleB, ho]) (by simp [looks, ho]) (fun H v hH hg => zhn H v hH hg) e0
  · -- range
    rename_i t x ho
    refine Kind.new (match P.underlying t, ev tm x with
      | some .string, .string s => some (.obj (.stringIter s 0), fun n => .pointer (some ⟨n, 0, none⟩))
      | _, _ => none) (fun H => ?_) ?_ e0
    · simp only [simpleB, ho, rangeB]
      repeat' split
      all_goals first | rfl | simp_all
    · intro p hp
      repeat' split at hp
      all_goals first | (cases hp; done) | (cases hp; exact ⟨rfl, rfl, rfl⟩)
  · rename_i x t a ok ho; exact Kind.keep (assertB P (ev tm x) a ok) (fun H => by simp only [simpleB, ho]) e0
  · -- binOp
    rename_i op t x y u ho
    split at e
    · rename_i v' hp; exact Kind.keep (some v') (fun H => by simp only [simpleB, ho, hp]; rfl) e0
    · rename_i hp
      split at e
      · exact Kind.keep ((nilEqB P t (ev tm x) (ev tm y)).map .bool) (fun H => by simp only [simpleB, ho, hp]) e0
      · exact Kind.keep ((nilEqB P t (ev tm x) (ev tm y)).map fun b => .bool (!b)) (fun H => by simp only [simpleB, ho, hp]) e0
      · cases e
  · -- len
    rename_i args ats ho
    split at e
    · rename_i t x ht hx
      split at e
      · rename_i u el n hu hv
        exact Kind.keep (some (goInt el)) (fun H => by simp [simpleB, ho, ht, hx, hu, hv]) e0
      · rename_i k el r hu hv
        refine Kind.read (fun H => (mapOf H (ev tm x)).map fun r => goInt r.2.1.size) (fun H => by simp only [simpleB, ho, ht, hx, hu, hv]) (by simp [looks, ho]) (fun H v hH hg => ?_) e0
        cases hm : mapOf h (ev tm x) with
        | none => simp [hm] at hg
        | some q => simp only [hm] at hg; simp only [zeO H hH hm]; exact hg
      · rename_i n el hu
        exact Kind.keep (some (goInt n)) (fun H => by simp [simpleB, ho, ht, hx, hu]) e0
      · rename_i h1 h2 h3
        refine Kind.keep (plainOp P tm o) (fun H => ?_) e0
        simp only [simpleB, ho, ht, hx]
        repeat' split
        all_goals first | rfl | simp_all
    · cases e
  · -- cap
    rename_i args ats ho
    split at e
    · rename_i t x ht hx
      split at e
      · rename_i u el n c hu hv
        split at e
        · rename_i hcu
          exact Kind.keep (some (goInt c)) (fun H => by simp [simpleB, ho, ht, hx, hu, hv, hcu]) e0
        · cases e
      · cases e
    · cases e
  · rename_i src dst x ho; exact zgB ho e0
  · rename_i ho; exact Kind.keep (plainOp P tm o) (fun H => by simp only [simpleB, ho]) e0
  · rename_i t x i ho; exact Kind.keep (indexV P tm o t (ev tm x) (ev tm i)) (fun H => by simp only [simpleB, ho]) e0
  · rename_i ho; exact Kind.keep (plainOp P tm o) (fun H => by simp only [simpleB, ho]) e0
  · rename_i ho; exact Kind.keep (plainOp P tm o) (fun H => by simp only [simpleB, ho]) e0
  · cases e
end
end Go.AX

namespace Go.AX
def predsOf (ps : List (List Nat)) (o : Oper) : List Nat := o.after.toList.foldl (fun l e => if binds e then e.on :: (ps.getD e.on [] ++ l) else l) []
theorem zdf (l : List Oper) (o : Oper) : preds (l ++ [o]) = preds l ++ [predsOf (preds l) o] := by
  simp [preds, List.foldl_append, predsOf]
theorem zdE {α : Type} {p : List α → Prop} (h0 : p []) (h1 : ∀ l a, p l → p (l ++ [a])) (l : List α) : p l := by
  rw [← List.reverse_reverse l]
  induction l.reverse with
  | nil => exact h0
  | cons a m ih => rw [List.reverse_cons]; exact h1 _ _ ih
theorem zbP (l : List Oper) : (preds l).length = l.length := by
  refine zdE (p := fun l => (preds l).length = l.length) rfl (fun l o ih => ?_) l
  rw [zdf]; simp [ih]
theorem zd6 (ps : List (List Nat)) (o : Oper) (i : Nat) : i ∈ predsOf ps o ↔ ∃ e ∈ o.after.toList, binds e = true ∧ (i = e.on ∨ i ∈ ps.getD e.on []) := by
  unfold predsOf
  have : ∀ (es : List Edge) (l : List Nat), i ∈ es.foldl (fun l e => if binds e then e.on :: (ps.getD e.on [] ++ l) else l) l ↔ i ∈ l ∨ ∃ e ∈ es, binds e = true ∧ (i = e.on ∨ i ∈ ps.getD e.on []) := by
    intro es
    induction es with
    | nil => intro l; simp
    | cons e es ih =>
      intro l
      rw [List.foldl_cons, ih]
      by_cases hb : binds e = true
      · rw [if_pos hb]
        constructor
        · rintro (h | ⟨e', h1, h2⟩)
          · rcases List.mem_cons.1 h with h | h
            · exact .inr ⟨e, by simp, hb, .inl h⟩
            · rcases List.mem_append.1 h with h | h
              · exact .inr ⟨e, by simp, hb, .inr h⟩
              · exact .inl h
          · exact .inr ⟨e', by simp [h1], h2⟩
        · rintro (h | ⟨e', h1, h2, h3⟩)
          · exact .inl (by simp [h])
          · rcases List.mem_cons.1 h1 with rfl | h1
            · rcases h3 with h3 | h3
              · exact .inl (by simp [h3])
              · exact .inl (List.mem_cons.2 (.inr (List.mem_append.2 (.inl h3))))
            · exact .inr ⟨e', h1, h2, h3⟩
      · rw [if_neg hb]
        constructor
        · rintro (h | ⟨e', h1, h2⟩)
          · exact .inl h
          · exact .inr ⟨e', by simp [h1], h2⟩
        · rintro (h | ⟨e', h1, h2, h3⟩)
          · exact .inl h
          · rcases List.mem_cons.1 h1 with rfl | h1
            · exact absurd h2 hb
            · exact .inr ⟨e', h1, h2, h3⟩
  rw [this]; simp
def Down (l : List Oper) : Prop := ∀ (j : Nat) (o : Oper), l[j]? = some o → ∀ e ∈ o.after.toList, binds e = true → e.on < j
theorem zdX (l : List Oper) (hd : Down l) : ∀ (j : Nat) (o : Oper), l[j]? = some o → ∀ i, i ∈ (preds l).getD j [] ↔ ∃ e ∈ o.after.toList, binds e = true ∧ (i = e.on ∨ i ∈ (preds l).getD e.on []) := by
  revert hd
  refine zdE (p := fun l => Down l → ∀ (j : Nat) (o : Oper), l[j]? = some o → ∀ i, i ∈ (preds l).getD j [] ↔ ∃ e ∈ o.after.toList, binds e = true ∧ (i = e.on ∨ i ∈ (preds l).getD e.on [])) ?_ ?_ l
  · intro _ j o h; simp at h
  · intro l p ih hd j o h i
    have hd' : Down l := fun j o h e he hb => hd j o (by rw [List.getElem?_append_left (List.getElem?_eq_some_iff.1 h).1]; exact h) e he hb
    rw [zdf]
    have hlen := zbP l
    have hlow : ∀ m, m < l.length → (preds l ++ [predsOf (preds l) p]).getD m [] = (preds l).getD m [] := by
      intro m hm
      rw [List.getD_eq_getElem?_getD, List.getD_eq_getElem?_getD, List.getElem?_append_left (by omega)]
    by_cases hj : j < l.length
    · rw [List.getElem?_append_left hj] at h
      rw [hlow j hj, ih hd' j o h i]
      constructor
      · rintro ⟨e, h1, h2, h3⟩
        have := hd' j o h e h1 h2
        exact ⟨e, h1, h2, by rw [hlow _ (by omega)]; exact h3⟩
      · rintro ⟨e, h1, h2, h3⟩
        have := hd' j o h e h1 h2
        exact ⟨e, h1, h2, by rw [hlow _ (by omega)] at h3; exact h3⟩
    · have hj2 : j = l.length := by
        have := (List.getElem?_eq_some_iff.1 h).1; simp at this; omega
      subst hj2
      have hdo := hd l.length o h
      have ho : o = p := by simp at h; exact h.symm
      subst ho
      have : (preds l ++ [predsOf (preds l) o]).getD l.length [] = predsOf (preds l) o := by
        rw [List.getD_eq_getElem?_getD, List.getElem?_append_right (by omega)]; simp [hlen]
      rw [this, zd6]
      constructor
      · rintro ⟨e, h1, h2, h3⟩
        have := hdo e h1 h2
        exact ⟨e, h1, h2, by rw [hlow _ (by omega)]; exact h3⟩
      · rintro ⟨e, h1, h2, h3⟩
        have := hdo e h1 h2
        exact ⟨e, h1, h2, by rw [hlow _ (by omega)] at h3; exact h3⟩
theorem zcV (l : List Oper) (hd : Down l) : ∀ (j i : Nat), j < l.length → i ∈ (preds l).getD j [] → i < j := by
  intro j
  induction j using Nat.strongRecOn with
  | _ j ih =>
    intro i hj hi
    obtain ⟨e, h1, h2, h3⟩ := (zdX l hd j l[j] (List.getElem?_eq_getElem hj) i).1 hi
    have hlt := hd j l[j] (List.getElem?_eq_getElem hj) e h1 h2
    rcases h3 with rfl | h3
    · exact hlt
    · have := ih e.on hlt i (by omega) h3; omega
theorem zhc (l : List Oper) (hd : Down l) : ∀ (k i j : Nat), k < l.length → i ∈ (preds l).getD j [] → j ∈ (preds l).getD k [] → i ∈ (preds l).getD k [] := by
  intro k
  induction k using Nat.strongRecOn with
  | _ k ih =>
    intro i j hk hi hj
    have hm := zdX l hd k l[k] (List.getElem?_eq_getElem hk)
    obtain ⟨e, h1, h2, h3⟩ := (hm j).1 hj
    have hlt := hd k l[k] (List.getElem?_eq_getElem hk) e h1 h2
    refine (hm i).2 ⟨e, h1, h2, .inr ?_⟩
    rcases h3 with rfl | h3
    · exact hi
    · exact ih e.on hlt i j (by omega) hi h3
structure OK (ops : Array Oper) : Prop where
  down : Down ops.toList
  acts : ∀ (i j : Nat) (p o : Oper), i ≠ j → ops[i]? = some p → ops[j]? = some o → isSimple p = false → isSimple o = false → i ∈ (preds ops.toList).getD j [] ∨ j ∈ (preds ops.toList).getD i []
  tmps : ∀ (i j : Nat) (p o : Oper) (t : Tmp), i ≠ j → ops[i]? = some p → ops[j]? = some o → p.dst = some t → (t ∈ readsOf ops o ∨ o.dst = some t) → i ∈ (preds ops.toList).getD j [] ∨ j ∈ (preds ops.toList).getD i []
theorem zkB {ops : Array Oper} (h : openOK ops = true) : OK ops := by
  unfold openOK at h
  simp only [List.all_eq_true, List.mem_range] at h
  refine ⟨fun j o ho e he hb => ?_, fun i j p o hij hp ho h1 h2 => ?_, fun i j p o t hij hp ho ht hr => ?_⟩
  · have hj : j < ops.size := by have := (List.getElem?_eq_some_iff.1 ho).1; simpa using this
    have := h j hj
    have ho' : ops[j]? = some o := by simpa using ho
    rw [ho'] at this
    simp only [Bool.and_eq_true, List.all_eq_true] at this
    have := this.1 e he
    simp [hb] at this
    exact this
  · have hj : j < ops.size := (Array.getElem?_eq_some_iff.1 ho).1
    have hi : i < ops.size := (Array.getElem?_eq_some_iff.1 hp).1
    have := h j hj
    rw [ho] at this
    simp only [Bool.and_eq_true, List.all_eq_true, List.mem_range] at this
    have := this.2 i hi
    rw [hp] at this
    simp [hij, h1, h2] at this
    rcases this.1 with q | q
    · exact .inl q
    · exact .inr q
  · have hj : j < ops.size := (Array.getElem?_eq_some_iff.1 ho).1
    have hi : i < ops.size := (Array.getElem?_eq_some_iff.1 hp).1
    have := h j hj
    rw [ho] at this
    simp only [Bool.and_eq_true, List.all_eq_true, List.mem_range] at this
    have := this.2 i hi
    rw [hp] at this
    simp [hij, ht] at this
    have := this.2
    rcases this with q | q
    · rcases hr with hr | hr
      · exact absurd hr q.1
      · exact absurd hr q.2
    · rcases q with q | q
      · exact .inl q
      · exact .inr q
end Go.AX

namespace Go.AX
open Go.RowKit
theorem fold_seq {α : Type} {f : α → Nat → Option α} : ∀ (n : Nat) (z0 zf : α), (List.range n).foldlM f z0 = some zf → ∃ z : Nat → α, z 0 = z0 ∧ z n = zf ∧ ∀ i, i < n → f (z i) i = some (z (i + 1)) := by
  intro n
  induction n with
  | zero => intro z0 zf h; simp at h; exact ⟨fun _ => z0, rfl, h, fun i hi => absurd hi (by omega)⟩
  | succ n ih =>
    intro z0 zf h
    rw [List.range_succ, List.foldlM_append] at h
    simp only [Option.bind_eq_bind, Option.bind_eq_some_iff] at h
    obtain ⟨z1, h1, h2⟩ := h
    obtain ⟨z, a, b, c⟩ := ih z0 z1 h1
    simp only [List.foldlM_cons, List.foldlM_nil, Option.bind_eq_bind, Option.bind_eq_some_iff, Option.pure_def, Option.some.injEq] at h2
    obtain ⟨z2, h3, h4⟩ := h2
    subst h4
    refine ⟨fun i => if i ≤ n then z i else z2, by simp [a], by simp [show ¬ n + 1 ≤ n from by omega], fun i hi => ?_⟩
    by_cases hin : i < n
    · simp only [show i ≤ n from by omega, show i + 1 ≤ n from by omega, if_true]; exact c i hin
    · have : i = n := by omega
      subst this
      simp only [Nat.le_refl, if_true, show ¬ i + 1 ≤ i from by omega, if_false]
      rw [b]; exact h3
inductive Stp (P : Program) (Rr : Recs) (x : Ctx) (ops : Array Oper) (ps : List (List Nat)) (z : Open) (i : Nat) (o : Oper) (z1 : Open) : Prop
  | keep (v : Value) (hs : isSimple o = true) (hw : wantedB ops z.s.tm o = true) (hok : opsOK P o = true) (he : simpleB P z.s.tm z.s.h o = some (v, z.s.h))
      (h1 : z1.s = { z.s with tm := put z.s.tm o.dst v }) (h2 : z1.hs = z.hs) (h3 : z1.news = z.news) (h4 : looks o = true → { o, tm := z.s.tm, v, n := z.s.h.n, lo := actsIn ops (ps.getD i []), hi := actsMost ops ps i } ∈ z1.looks) (h5 : ∀ l ∈ z.looks, l ∈ z1.looks)
  | new (v : Value) (b : Blk) (hs : isSimple o = true) (hw : wantedB ops z.s.tm o = true) (hok : opsOK P o = true) (he : simpleB P z.s.tm z.s.h o = some (v, z.s.h.push b)) (hb : own b = true ∧ live b = true ∧ ro b = false) (hf : ∀ H : Heap, H.n = z.s.h.n → simpleB P z.s.tm H o = some (v, H.push b))
      (h1 : z1.s = { z.s with h := z.s.h.push b, tm := put z.s.tm o.dst v }) (h2 : z1.hs = z.hs) (h3 : z1.news = (i, z.s.h.n, b) :: z.news) (h5 : ∀ l ∈ z.looks, l ∈ z1.looks)
  | skip (hs : isSimple o = true) (hw : wantedB ops z.s.tm o = false) (h1 : z1.s = { z.s with tm := put z.s.tm o.dst undef }) (h2 : z1.hs = z.hs) (h3 : z1.news = z.news) (h5 : ∀ l ∈ z.looks, l ∈ z1.looks)
  | act (v : Value) (s : St) (hs : isSimple o = false) (hw : wantedB ops z.s.tm o = true) (he : doOp P Rr x { z.s with h := hide (unseen ps z.news i) z.s.h } o = some (.val v, s))
      (hwf : ∀ p ∈ unseen ps z.news i, (s.h.get? p.2.1).isSome = true)
      (h1 : z1.s = { s with tm := put s.tm o.dst v, h := unhide (unseen ps z.news i) s.h }) (h2 : z1.hs = unhide (unseen ps z.news i) s.h :: z.hs) (h3 : z1.news = z.news) (h5 : ∀ l ∈ z.looks, l ∈ z1.looks)
  | rest (hs : isSimple o = false) (hw : wantedB ops z.s.tm o = false) (h1 : z1.s = { z.s with tm := put z.s.tm o.dst undef }) (h2 : z1.hs = z.s.h :: z.hs) (h3 : z1.news = z.news) (h5 : ∀ l ∈ z.looks, l ∈ z1.looks)
theorem zf4 {P : Program} {Rr : Recs} {x : Ctx} {ops : Array Oper} {ps : List (List Nat)} {z z1 : Open} {i : Nat} (e : openStep P Rr x ops ps z i = some z1) : ∃ o, ops[i]? = some o ∧ Stp P Rr x ops ps z i o z1 := by
  unfold openStep at e
  split at e
  · cases e
  rename_i o ho
  refine ⟨o, ho, ?_⟩
  split at e
  · rename_i hs
    split at e
    · rename_i hw
      unfold openSimple at e
      split at e
      · cases e
      rename_i v h1 hq
      split at hq
      · rename_i hok
        have hk := zb7 hq
        split at e
        · rename_i hn
          rcases hk with ⟨rfl, _, _⟩ | ⟨b, rfl, _⟩
          · cases e
            refine .keep v hs hw hok hq rfl rfl rfl (fun hl => ?_) (fun l hl => ?_)
            · simp [hl]
            · dsimp only; split
              · exact List.mem_cons_of_mem _ hl
              · exact hl
          · simp [Heap.push] at hn
        · rename_i hn
          rcases hk with ⟨rfl, _, _⟩ | ⟨b, rfl, hb1, hb2, hb3, hb4⟩
          · simp at hn
          · have hg : (z.s.h.push b).get? z.s.h.n = some b := by rw [Heap.get_push, if_pos rfl]
            rw [hg] at e
            cases e
            exact .new v b hs hw hok hq ⟨hb1, hb2, hb3⟩ hb4 rfl rfl rfl (fun l hl => hl)
      · cases hq
    · rename_i hw
      cases e
      exact .skip hs (by simpa using hw) rfl rfl rfl (fun l hl => hl)
  · rename_i hs
    have hs' : isSimple o = false := by simpa using hs
    split at e
    · rename_i hw
      unfold openAct at e
      split at e
      · rename_i v s hq
        split at e
        · rename_i hc
          cases e
          exact .act v s hs' hw hq (List.all_eq_true.1 hc) rfl rfl rfl (fun l hl => hl)
        · cases e
      · cases e
    · rename_i hw
      cases e
      exact .rest hs' (by simpa using hw) rfl rfl rfl (fun l hl => hl)
structure Seq (P : Program) (Rr : Recs) (x : Ctx) (ops : Array Oper) (s : St) (z : Nat → Open) : Prop where
  ok : OK ops
  zero : z 0 = { s, hs := [s.h], looks := [], news := [] }
  step : ∀ i, i < ops.size → ∃ o, ops[i]? = some o ∧ Stp P Rr x ops (preds ops.toList) (z i) i o (z (i + 1))
  look : (z ops.size).hs.length ≤ 1 ∨ ∀ l ∈ (z ops.size).looks, lookOK P (z ops.size).hs l = true
theorem zhh {P : Program} {Rr : Recs} {x : Ctx} {ops : Array Oper} {s : St} {e : Ex} {s1 : St} (he : openOps P Rr x ops s = some (e, s1)) : ∃ z, Seq P Rr x ops s z ∧ e = .normal ∧ s1 = (z ops.size).s := by
  unfold openOps at he
  split at he
  · rename_i hok
    split at he
    · rename_i zf hz
      split at he
      · rename_i hl
        cases he
        obtain ⟨z, h1, h2, h3⟩ := fold_seq _ _ _ hz
        refine ⟨z, ⟨zkB hok, h1, fun i hi => zf4 (h3 i hi), ?_⟩, rfl, by rw [h2]⟩
        rw [h2]
        simp only [Bool.or_eq_true, decide_eq_true_eq, List.all_eq_true] at hl
        exact hl
      · cases he
    · cases he
  · cases he
end Go.AX

namespace Go.AX
open Go.RowKit
def actAt (ops : Array Oper) (i : Nat) : Prop := ∃ o, ops[i]? = some o ∧ isSimple o = false
def writesAt (ops : Array Oper) (i : Nat) (t : Tmp) : Prop := ∃ o, ops[i]? = some o ∧ o.dst = some t
theorem set_get {h : Heap} {i : Nat} (hs : (h.get? i).isSome = true) (b : Blk) (j : Nat) : (h.set i b).get? j = if j = i then some b else h.get? j := by
  obtain ⟨x, hx⟩ := Option.isSome_iff_exists.1 hs
  exact Heap.get_set hx b j
theorem zj9 (h : Heap) {i j : Nat} (hi : i < h.n) (hij : j ≠ i) (b : Blk) : (h.set i b).get? j = h.get? j := by
  rw [Heap.get_set' h hi, if_neg hij]
theorem zdm : ∀ (l : List (Nat × Nat × Blk)) (h : Heap) (A : Nat), (∀ p ∈ l, p.2.1 < h.n ∧ p.2.1 ≠ A) → (unhide l h).get? A = h.get? A := by
  intro l
  induction l with
  | nil => intro h A _; rfl
  | cons p l ih =>
    intro h A hl
    simp only [unhide, List.foldl_cons]
    have h1 := hl p (by simp)
    rw [show (l.foldl (fun h p => h.set p.2.1 p.2.2) (h.set p.2.1 p.2.2)) = unhide l (h.set p.2.1 p.2.2) from rfl, ih (h.set p.2.1 p.2.2) A (fun q hq => hl q (by simp [hq]))]
    exact zj9 h h1.1 (Ne.symm h1.2) _
theorem set_wf {h : Heap} {i : Nat} (b : Blk) (hi : i < h.n) {j : Nat} (hs : (h.get? j).isSome = true) : ((h.set i b).get? j).isSome = true := by
  rw [Heap.get_set' h hi]
  split
  · rename_i c; subst c; simpa using hs
  · exact hs
theorem ziR : ∀ (l : List (Nat × Nat × Blk)) (h : Heap) (A : Nat) (b : Blk), (∀ p ∈ l, (h.get? p.2.1).isSome = true) → (∀ p ∈ l, p.2.1 < h.n) → (∃ p ∈ l, p.2.1 = A) → (∀ p ∈ l, p.2.1 = A → p.2.2 = b) → (unhide l h).get? A = some b := by
  intro l
  induction l with
  | nil => intro h A b _ _ ⟨p, hp, _⟩ _; cases hp
  | cons p l ih =>
    intro h A b hwf hlt hex hall
    simp only [unhide, List.foldl_cons]
    rw [show (l.foldl (fun h p => h.set p.2.1 p.2.2) (h.set p.2.1 p.2.2)) = unhide l (h.set p.2.1 p.2.2) from rfl]
    by_cases hq : ∃ q ∈ l, q.2.1 = A
    · exact ih (h.set p.2.1 p.2.2) A b (fun q hq => set_wf _ (hlt p (by simp)) (hwf q (by simp [hq]))) (fun q hq => hlt q (by simp [hq])) hq (fun q hq => hall q (by simp [hq]))
    · have hpA : p.2.1 = A := by
        obtain ⟨q, h1, h2⟩ := hex
        rcases List.mem_cons.1 h1 with rfl | h1
        · exact h2
        · exact absurd ⟨q, h1, h2⟩ hq
      rw [zdm l (h.set p.2.1 p.2.2) A (fun q hq' => ⟨hlt q (by simp [hq']), fun e => hq ⟨q, hq', e⟩⟩)]
      rw [set_get (hwf p (by simp)), if_pos hpA.symm, hall p (by simp) hpA]
section
variable {P : Program} {Rr : Recs} {x : Ctx} {ops : Array Oper} {s : St} {z : Nat → Open} (Q : Seq P Rr x ops s z) (G : Grows Rr)
include Q
theorem Seq.tm_size (i : Nat) (hi : i ≤ ops.size) : (z i).s.tm.size = s.tm.size := by
  induction i with
  | zero => rw [Q.zero]
  | succ i ih =>
    have := ih (by omega)
    obtain ⟨o, ho, st⟩ := Q.step i (by omega)
    have hput : ∀ (tm : Array Value) (d : Option Tmp) (v : Value), (put tm d v).size = tm.size := by intro tm d v; cases d <;> simp [put]
    cases st with
    | keep v hs hw hok he h1 => rw [h1]; simp [hput, this]
    | new v b hs hw hok he hb hf h1 => rw [h1]; simp [hput, this]
    | skip hs hw h1 => rw [h1]; simp [hput, this]
    | act v s2 hs hw he hwf h1 => rw [h1]; have := zk9 he; simp at this; simp [hput, this]; assumption
    | rest hs hw h1 => rw [h1]; simp [hput, this]
theorem Seq.tm_step {i : Nat} (hi : i < ops.size) {t : Tmp} (ht : ¬ writesAt ops i t) : (z (i + 1)).s.tm.getD t undef = (z i).s.tm.getD t undef := by
  obtain ⟨o, ho, st⟩ := Q.step i hi
  have hput : ∀ (tm : Array Value) (v : Value), (put tm o.dst v).getD t undef = tm.getD t undef := by
    intro tm v
    cases hd : o.dst with
    | none => rfl
    | some d =>
      have : d ≠ t := fun e => ht ⟨o, ho, by rw [hd, e]⟩
      simp [put, this]
  cases st with
  | keep v hs hw hok he h1 => rw [h1]; simp only; exact hput _ _
  | new v b hs hw hok he hb hf h1 => rw [h1]; simp only; exact hput _ _
  | skip hs hw h1 => rw [h1]; simp only; exact hput _ _
  | act v s2 hs hw he hwf h1 => rw [h1]; have := zk9 he; simp only at this ⊢; rw [hput, this]
  | rest hs hw h1 => rw [h1]; simp only; exact hput _ _
theorem Seq.tm_keep {a b : Nat} (hab : a ≤ b) (hb : b ≤ ops.size) {t : Tmp} (ht : ∀ j, a ≤ j → j < b → ¬ writesAt ops j t) : (z b).s.tm.getD t undef = (z a).s.tm.getD t undef := by
  induction b with
  | zero => have : a = 0 := by omega
            subst this; rfl
  | succ b ih =>
    by_cases h : a = b + 1
    · subst h; rfl
    · rw [Q.tm_step (by omega) (ht b (by omega) (by omega))]
      exact ih (by omega) (by omega) (fun j h1 h2 => ht j h1 (by omega))
include G
theorem Seq.n_step {i : Nat} (hi : i < ops.size) : (z i).s.h.n ≤ (z (i + 1)).s.h.n := by
  obtain ⟨o, ho, st⟩ := Q.step i hi
  cases st with
  | keep v hs hw hok he h1 => rw [h1]; exact Nat.le_refl _
  | new v b hs hw hok he hb hf h1 => rw [h1]; simp [Heap.push]
  | skip hs hw h1 => rw [h1]; exact Nat.le_refl _
  | act v s2 hs hw he hwf h1 =>
    rw [h1]
    have h2 := (zbu G he).le
    simp only [zim] at h2
    simp only [zhU]; exact h2
  | rest hs hw h1 => rw [h1]; exact Nat.le_refl _
theorem Seq.n_mono {a b : Nat} (hab : a ≤ b) (hb : b ≤ ops.size) : (z a).s.h.n ≤ (z b).s.h.n := by
  induction b with
  | zero => have : a = 0 := by omega
            subst this; exact Nat.le_refl _
  | succ b ih =>
    by_cases h : a = b + 1
    · subst h; exact Nat.le_refl _
    · exact Nat.le_trans (ih (by omega) (by omega)) (Q.n_step G (by omega))
def Laid (z : Nat → Open) (ops : Array Oper) (i A : Nat) (b : Blk) : Prop :=
  (z i).s.h.n = A ∧ (z (i + 1)).s.h = (z i).s.h.push b ∧ own b = true ∧ live b = true ∧ ro b = false ∧ ∃ o, ops[i]? = some o ∧ isSimple o = true
theorem Seq.news {m : Nat} (hm : m ≤ ops.size) : ∀ p ∈ (z m).news, p.1 < m ∧ Laid z ops p.1 p.2.1 p.2.2 := by
  have _ := G
  induction m with
  | zero => intro p hp; rw [Q.zero] at hp; cases hp
  | succ m ih =>
    intro p hp
    have ih := ih (by omega)
    obtain ⟨o, ho, st⟩ := Q.step m (by omega)
    have old : p ∈ (z m).news → p.1 < m + 1 ∧ Laid z ops p.1 p.2.1 p.2.2 := fun h => ⟨by have := (ih p h).1; omega, (ih p h).2⟩
    cases st with
    | keep v hs hw hok he h1 h2 h3 => rw [h3] at hp; exact old hp
    | new v b hs hw hok he hb hf h1 h2 h3 =>
      rw [h3] at hp
      rcases List.mem_cons.1 hp with rfl | hp
      · exact ⟨by simp, rfl, by rw [h1], hb.1, hb.2.1, hb.2.2, o, ho, hs⟩
      · exact old hp
    | skip hs hw h1 h2 h3 => rw [h3] at hp; exact old hp
    | act v s2 hs hw he hwf h1 h2 h3 => rw [h3] at hp; exact old hp
    | rest hs hw h1 h2 h3 => rw [h3] at hp; exact old hp
theorem Seq.laid_lt {i A : Nat} {b : Blk} (_hi : i < ops.size) (h : Laid z ops i A b) : A < (z (i + 1)).s.h.n := by
  have _ := Q
  have _ := G
  rw [h.2.1, ← h.1]; simp [Heap.push]
theorem Seq.laid_one {i j A : Nat} {b c : Blk} (hi : i < ops.size) (hj : j < ops.size) (h : Laid z ops i A b) (k : Laid z ops j A c) : i = j ∧ b = c := by
  have hij : i = j := by
    rcases Nat.lt_trichotomy i j with hlt | heq | hgt
    · have h1 := Q.laid_lt G hi h
      have h2 := Q.n_mono G (a := i + 1) (b := j) (by omega) (by omega)
      have := k.1; omega
    · exact heq
    · have h1 := Q.laid_lt G hj k
      have h2 := Q.n_mono G (a := j + 1) (b := i) (by omega) (by omega)
      have := h.1; omega
  subst hij
  refine ⟨rfl, ?_⟩
  have e1 := h.2.1
  have e2 := k.2.1
  rw [e1] at e2
  have : ((z i).s.h.push b).get? (z i).s.h.n = ((z i).s.h.push c).get? (z i).s.h.n := by rw [e2]
  rw [Heap.get_push, Heap.get_push, if_pos rfl, if_pos rfl] at this
  cases this; rfl
theorem Seq.content {i A : Nat} {b : Blk} (hi : i < ops.size) (h : Laid z ops i A b) : ∀ m, i < m → m ≤ ops.size → (i, A, b) ∈ (z m).news ∧ ((∀ j, i < j → j < m → actAt ops j → i ∉ (preds ops.toList).getD j []) → (z m).s.h.get? A = some b) := by
  intro m
  induction m with
  | zero => intro h0; omega
  | succ m ih =>
    intro him hm
    obtain ⟨o, ho, st⟩ := Q.step m (by omega)
    by_cases hmi : m = i
    · subst hmi
      have hA := h.1
      cases st with
      | keep v hs hw hok he h1 => have h2 := h.2.1; rw [h1] at h2; have := congrArg Heap.n h2; simp [Heap.push] at this
      | new v c hs hw hok he hb hf h1 h2 h3 =>
        have h4 := h.2.1
        rw [h1] at h4
        have : ((z m).s.h.push c).get? (z m).s.h.n = ((z m).s.h.push b).get? (z m).s.h.n := by rw [show (z m).s.h.push c = (z m).s.h.push b from h4]
        rw [Heap.get_push, Heap.get_push, if_pos rfl, if_pos rfl] at this
        cases this
        refine ⟨by rw [h3, hA]; simp, fun _ => ?_⟩
        rw [h1, ← hA]; simp only [Heap.get_push, if_true]
      | skip hs hw h1 => have h2 := h.2.1; rw [h1] at h2; have := congrArg Heap.n h2; simp [Heap.push] at this
      | act v s2 hs => obtain ⟨o', ho', hs'⟩ := h.2.2.2.2.2; rw [ho] at ho'; cases ho'; rw [hs] at hs'; cases hs'
      | rest hs => obtain ⟨o', ho', hs'⟩ := h.2.2.2.2.2; rw [ho] at ho'; cases ho'; rw [hs] at hs'; cases hs'
    · obtain ⟨h5, h6⟩ := ih (by omega) (by omega)
      have h6' : (∀ j, i < j → j < m + 1 → actAt ops j → i ∉ (preds ops.toList).getD j []) → (z m).s.h.get? A = some b := fun hj => h6 fun j a b c => hj j a (by omega) c
      cases st with
      | keep v hs hw hok he h1 h2 h3 => exact ⟨by rw [h3]; exact h5, fun hj => by rw [h1]; exact h6' hj⟩
      | new v c hs hw hok he hb hf h1 h2 h3 =>
        refine ⟨by rw [h3]; exact List.mem_cons_of_mem _ h5, fun hj => ?_⟩
        have := h6' hj
        rw [h1]; simp only [Heap.get_push]
        rw [if_neg (by have := Heap.get_lt this; omega)]; exact this
      | skip hs hw h1 h2 h3 => exact ⟨by rw [h3]; exact h5, fun hj => by rw [h1]; exact h6' hj⟩
      | act v s2 hs hw he hwf h1 h2 h3 =>
        refine ⟨by rw [h3]; exact h5, fun hj => ?_⟩
        have hun : (i, A, b) ∈ unseen (preds ops.toList) (z m).news m := by
          refine List.mem_filter.2 ⟨h5, ?_⟩
          have := hj m (by omega) (by omega) ⟨o, ho, hs⟩
          simpa using this
        have hle := (zbu G he).le
        simp only [zim] at hle
        have hlt : ∀ p ∈ unseen (preds ops.toList) (z m).news m, p.2.1 < s2.h.n := by
          intro p hp
          obtain ⟨q1, q2⟩ := Q.news G (m := m) (by omega) p (List.mem_filter.1 hp).1
          have := Q.laid_lt G (by omega) q2
          have := Q.n_mono G (a := p.1 + 1) (b := m) (by omega) (by omega)
          omega
        rw [h1]
        refine ziR _ _ _ _ ?_ hlt ⟨_, hun, rfl⟩ (fun p hp hpA => ?_)
        · exact hwf
        · obtain ⟨q1, q2⟩ := Q.news G (m := m) (by omega) p (List.mem_filter.1 hp).1
          rw [hpA] at q2
          exact (Q.laid_one G (by omega) (by omega) q2 h).2
      | rest hs hw h1 h2 h3 => exact ⟨by rw [h3]; exact h5, fun hj => by rw [h1]; exact h6' hj⟩
end
end Go.AX

namespace Go.AX
open Go.RowKit
def ofFn (M : Nat) (f : Nat → Blk) : Heap := ⟨M, .ofL ((List.range M).map f).reverse⟩
theorem get_ofL (l : List Blk) : ∀ i, (Bt.ofL l).get i = l[i]? := by
  induction l with
  | nil => intro i; rfl
  | cons b l ih =>
    intro i
    cases i with
    | zero => exact (Bt.get_cons _ _).1
    | succ i => exact ((Bt.get_cons _ _).2 i).trans ((ih i).trans (by simp))
theorem zbQ (M : Nat) (f : Nat → Blk) (A : Nat) : (ofFn M f).get? A = if A < M then some (f A) else none := by
  unfold Heap.get? ofFn
  dsimp only
  rw [get_ofL]
  by_cases h : A < M
  · rw [if_pos h, if_pos h, List.getElem?_reverse (by simp; omega)]
    simp only [List.length_map, List.length_range, List.getElem?_map]
    rw [show M - 1 - (M - 1 - A) = A from by omega, List.getElem?_range h]; rfl
  · rw [if_neg h, if_neg h]
section
variable {P : Program} {Rr : Recs} {x : Ctx} {ops : Array Oper} {s : St} {z : Nat → Open}
open Classical in
noncomputable def initB (z : Nat → Open) (ops : Array Oper) (A : Nat) : Blk :=
  if h : ∃ b i, i < ops.size ∧ Laid z ops i A b then h.choose else .dead
noncomputable def HB (z : Nat → Open) (ops : Array Oper) (m : Nat) : Heap :=
  ofFn (z ops.size).s.h.n fun A => if A < (z m).s.h.n then ((z m).s.h.get? A).getD .dead else initB z ops A
theorem HB_n (m : Nat) : (HB z ops m).n = (z ops.size).s.h.n := rfl
variable (Q : Seq P Rr x ops s z) (G : Grows Rr)
include Q G
theorem Seq.init_laid {i A : Nat} {b : Blk} (hi : i < ops.size) (h : Laid z ops i A b) : initB z ops A = b := by
  have hex : ∃ b i, i < ops.size ∧ Laid z ops i A b := ⟨b, i, hi, h⟩
  unfold initB
  rw [dif_pos hex]
  obtain ⟨j, hj, k⟩ := hex.choose_spec
  exact (Q.laid_one G hj hi k h).2
theorem Seq.HB_low {m A : Nat} {b : Blk} (hm : m ≤ ops.size) (h : (z m).s.h.get? A = some b) : (HB z ops m).get? A = some b := by
  have h1 := Heap.get_lt h
  have h2 := Q.n_mono G (a := m) (b := ops.size) hm (Nat.le_refl _)
  unfold HB
  rw [zbQ, if_pos (by omega), if_pos h1, h]; rfl
omit Q G in
theorem HB_high {m A : Nat} (h : (z m).s.h.n ≤ A) (hA : A < (z ops.size).s.h.n) : (HB z ops m).get? A = some (initB z ops A) := by
  unfold HB
  rw [zbQ, if_pos hA, if_neg (by omega)]
omit Q G in
theorem zlA {m A : Nat} {b : Blk} (h : (HB z ops m).get? A = some b) : A < (z ops.size).s.h.n ∧ ((A < (z m).s.h.n ∧ ((z m).s.h.get? A = some b ∨ b = .dead)) ∨ ((z m).s.h.n ≤ A ∧ b = initB z ops A)) := by
  unfold HB at h
  rw [zbQ] at h
  split at h
  · rename_i hA
    refine ⟨hA, ?_⟩
    cases h
    by_cases hl : A < (z m).s.h.n
    · refine .inl ⟨hl, ?_⟩
      simp only [if_pos hl]
      cases hg : (z m).s.h.get? A with
      | none => exact .inr rfl
      | some c => exact .inl rfl
    · exact .inr ⟨by omega, by rw [if_neg hl]⟩
  · cases h
theorem Seq.HB_step {m : Nat} (hm : m < ops.size) (hs : ¬ actAt ops m) : HB z ops (m + 1) = HB z ops m := by
  obtain ⟨o, ho, st⟩ := Q.step m hm
  have same : (z (m + 1)).s.h = (z m).s.h → HB z ops (m + 1) = HB z ops m := by intro h; unfold HB; rw [h]
  cases st with
  | keep v hs hw hok he h1 => exact same (by rw [h1])
  | new v b hs2 hw hok he hb hf h1 =>
    have hl : Laid z ops m (z m).s.h.n b := ⟨rfl, by rw [h1], hb.1, hb.2.1, hb.2.2, o, ho, hs2⟩
    unfold HB
    congr 1
    funext A
    rw [h1]
    simp only [Heap.get_push]
    have hn : ((z m).s.h.push b).n = (z m).s.h.n + 1 := rfl
    rw [hn]
    by_cases h2 : A < (z m).s.h.n
    · rw [if_pos h2, if_pos (by omega), if_neg (by omega)]
    · by_cases h3 : A = (z m).s.h.n
      · subst h3
        rw [if_pos (by omega), if_pos rfl, if_neg (by omega), Q.init_laid G hm hl]; rfl
      · rw [if_neg (by omega), if_neg h2]
  | skip hs hw h1 => exact same (by rw [h1])
  | act v s2 hs2 => exact absurd ⟨o, ho, hs2⟩ hs
  | rest hs2 => exact absurd ⟨o, ho, hs2⟩ hs
theorem Seq.frame_step {m : Nat} (hm : m < ops.size) (hs : ¬ actAt ops m) : (z (m + 1)).s.df = (z m).s.df ∧ (z (m + 1)).s.up = (z m).s.up := by
  have _ := G
  obtain ⟨o, ho, st⟩ := Q.step m hm
  cases st with
  | keep v hs hw hok he h1 => rw [h1]; exact ⟨rfl, rfl⟩
  | new v b hs2 hw hok he hb hf h1 => rw [h1]; exact ⟨rfl, rfl⟩
  | skip hs hw h1 => rw [h1]; exact ⟨rfl, rfl⟩
  | act v s2 hs2 => exact absurd ⟨o, ho, hs2⟩ hs
  | rest hs2 => exact absurd ⟨o, ho, hs2⟩ hs
theorem Seq.move {a b : Nat} (hab : a ≤ b) (hb : b ≤ ops.size) (hs : ∀ j, a ≤ j → j < b → ¬ actAt ops j) : HB z ops b = HB z ops a ∧ (z b).s.df = (z a).s.df ∧ (z b).s.up = (z a).s.up := by
  induction b with
  | zero => have : a = 0 := by omega
            subst this; exact ⟨rfl, rfl, rfl⟩
  | succ b ih =>
    by_cases h : a = b + 1
    · subst h; exact ⟨rfl, rfl, rfl⟩
    · obtain ⟨h1, h2, h3⟩ := ih (by omega) (by omega) (fun j p q => hs j p (by omega))
      have h4 := Q.frame_step G (m := b) (by omega) (hs b (by omega) (by omega))
      exact ⟨(Q.HB_step G (by omega) (hs b (by omega) (by omega))).trans h1, h4.1.trans h2, h4.2.trans h3⟩
end
def cut (ρ : Ren) (n : Nat) : Ren := fun A => if A < n then ρ A else none
theorem cut_some {ρ : Ren} {n A : Nat} {s : Slot} : cut ρ n A = some s ↔ A < n ∧ ρ A = some s := by
  unfold cut; split
  · rename_i h; simp [h]
  · rename_i h; simp [h]
theorem zej (ρ : Ren) (n : Nat) : Le (cut ρ n) ρ := fun _A _s h => (cut_some.1 h).2
theorem za0 {ρ ρ' : Ren} (h : Le ρ ρ') {a b : Nat} (hab : a ≤ b) : Le (cut ρ a) (cut ρ' b) := fun A s e => by
  obtain ⟨h1, h2⟩ := cut_some.1 e
  exact cut_some.2 ⟨by omega, h _ _ h2⟩
end Go.AX

namespace Go.AX
open Go.RowKit
theorem ziP {ρ : Ren} {n : Nat} : ∀ (k : Nat) {v v' : Value}, within k n v = true → VR ρ v v' → VR (cut ρ n) v v' := by
  intro k
  induction k with
  | zero => intro v v' h; simp [within] at h
  | succ k ih =>
    have hl : ∀ {a a' : Array Value}, a.toList.all (within k n) = true → (∀ (i : Nat) (v v' : Value), a[i]? = some v → a'[i]? = some v' → VR ρ v v') → ∀ (i : Nat) (v v' : Value), a[i]? = some v → a'[i]? = some v' → VR (cut ρ n) v v' := by
      intro a a' hp h i v v' e e'
      rw [List.all_eq_true] at hp
      exact ih (hp v (List.mem_of_getElem? (by simpa using e))) (h i v v' e e')
    intro v v' h r
    cases r with
    | bool b => exact .bool b
    | int k n => exact .int k n
    | string s => exact .string s
    | nilFunc => exact .nilFunc
    | nilIface => exact .nilIface
    | nilPtr => exact .nilPtr
    | nilMap => exact .nilMap
    | nilSlice l c => exact .nilSlice l c
    | ptr a =>
      obtain ⟨s, h0, h1, h2⟩ := a
      exact .ptr ⟨s, cut_some.2 ⟨by simpa [within] using h, h0⟩, h1, h2⟩
    | slice s h0 h1 h2 hc => exact .slice s (cut_some.2 ⟨by simpa [within] using h, h0⟩) h1 h2 hc
    | slice0 h1 h2 hc => exact .slice0 h1 h2 hc
    | map h0 => exact .map (cut_some.2 ⟨by simpa [within] using h, h0⟩)
    | func hf ha hb ia ib =>
      rename_i f f' a a' b b'
      simp only [within, Bool.and_eq_true] at h
      refine .func ?_ ha hb (hl h.1.2 ia) (hl h.2 ib)
      have hfn := h.1.1
      clear h ia ib ha hb
      cases f with
      | yield l =>
        cases f' with
        | yield l' =>
          obtain ⟨s, h1, h2⟩ := hf
          exact ⟨s, cut_some.2 ⟨by simpa using hfn, h1⟩, h2⟩
        | _ => exact hf.elim
      | _ => cases f' <;> first | exact hf.elim | exact hf
    | iface t hv => exact .iface t (ih (by simpa [within] using h) hv)
    | agg ha ia => exact .agg ha (hl (by simpa [within] using h) ia)
    | tuple ha ia => exact .tuple ha (hl (by simpa [within] using h) ia)
theorem same_eq : ∀ (k : Nat) {a b : Value}, same k a b = true → a = b := by
  intro k
  induction k with
  | zero => intro a b h; simp [same] at h
  | succ k ih =>
    have hl : ∀ (l m : List Value), same.all2 k l m = true → l = m := by
      intro l
      induction l with
      | nil => intro m h; cases m with
        | nil => rfl
        | cons a b => simp [same.all2] at h
      | cons a l ihl =>
        intro m h
        cases m with
        | nil => simp [same.all2] at h
        | cons b m =>
          simp only [same.all2, Bool.and_eq_true] at h
          rw [ih h.1, ihl m h.2]
    have hx : ∀ {a b : Array Value}, same.all2 k a.toList b.toList = true → a = b := fun h => Array.toList_inj.1 (hl _ _ h)
    intro a b h
    unfold same at h
    split at h
    all_goals first
      | (simp only [Bool.and_eq_true, beq_iff_eq] at h; simp_all; done)
      | (rename_i x y
         simp only [beq_iff_eq] at h
         have : x = y := by
           cases x; cases y; congr 1; exact Array.toList_inj.1 h
         rw [this])
      | (simp only [Bool.and_eq_true, beq_iff_eq] at h; rw [h.1.1, hx h.1.2, hx h.2])
      | (simp only [Bool.and_eq_true, beq_iff_eq] at h; rw [h.1, ih h.2])
      | rw [hx h]
      | cases h
end Go.AX

namespace Go.AX
open Go.RowKit
def deads (n : Nat) : Heap := ofFn n fun _ => .dead
section
variable {P : Program} {Rr : Recs} {x : Ctx} {ops : Array Oper} {s : St} {z : Nat → Open}
theorem dead_R {N : Nat → Prop} {w0 w : World} {ρ : Ren} {h : Heap} (r : R P N w0 ρ h w) {n : Nat} (hg : ∀ g, g < P.globals.size → g < n) : R P (fun g => g < w.heap.size) w (cut ρ n) (deads n) w where
  below := Kept.refl _ _
  size := fun g hg => hg
  dom := fun A s e => (cut_some.1 e).1
  glob := fun g h => by
    obtain ⟨s, h1, h2⟩ := r.glob g h
    exact ⟨s, cut_some.2 ⟨hg g h, h1⟩, h2⟩
  blk := fun A s b _ e => by
    unfold deads at e; rw [zbQ] at e; split at e
    · cases e; exact .dead
    · cases e
  mine := fun A s b _ e ho => by
    unfold deads at e; rw [zbQ] at e; split at e
    · cases e; cases ho
    · cases e
  inj := fun A B s t b c _ _ e _ ho => by
    unfold deads at e; rw [zbQ] at e; split at e
    · cases e; cases ho
    · cases e
structure Inv (P : Program) (x : Ctx) (ops : Array Oper) (s : St) (z : Nat → Open) (N : Nat → Prop) (w0 : World) (rd : Option Nat) (cs0 : List Frame) (ρ0 : Ren) (E : Nat → Prop) (m : Nat) (ρ : Ren) (tm' : Array Value) (df' : List Deferred) (cs : List Frame) (w : World) : Prop where
  mle : m ≤ ops.size
  below : ∀ j, j < m → actAt ops j → E j
  above : ∀ j, m ≤ j → actAt ops j → ¬ E j
  inn : ∀ j, E j → j < ops.size
  dn : ∀ j i, E j → i ∈ (preds ops.toList).getD j [] → E i
  r : R P N w0 ρ (HB z ops m) w
  fine : ∀ A sl b, ρ A = some sl → (HB z ops m).get? A = some b → BR P (cut ρ (max (z m).s.h.n (A + 1))) w sl b
  dom : ∀ A sl, ρ A = some sl → (∀ i b, i < ops.size → Laid z ops i A b → E i) ∧ (A < (z m).s.h.n ∨ ∃ i b, E i ∧ i < ops.size ∧ Laid z ops i A b)
  ag : ∀ A, A < s.h.n → ρ A = ρ0 A
  glob : ∀ g, g < P.globals.size → g < s.h.n
  size : tm'.size = s.tm.size
  tm : ∀ q t, q ≤ ops.size → (∀ j, E j → writesAt ops j t → j < q) → (∀ j, j < q → writesAt ops j t → E j) → VR (cut ρ (z q).s.h.n) ((z q).s.tm.getD t undef) (tm'.getD t undef)
  df : DsR (cut ρ (z m).s.h.n) (z m).s.df df'
  cs : CsR (cut ρ (z m).s.h.n) x.dfr (z m).s.up cs0 cs
  rd : RdR (cut ρ s.h.n) x.round rd
variable {N : Nat → Prop} {w0 w : World} {rd : Option Nat} {cs0 cs : List Frame} {ρ0 ρ : Ren} {E : Nat → Prop} {m : Nat} {tm' : Array Value} {df' : List Deferred}
theorem Inv.move (Q : Seq P Rr x ops s z) (G : Grows Rr) (I : Inv P x ops s z N w0 rd cs0 ρ0 E m ρ tm' df' cs w) {b : Nat} (hab : m ≤ b) (hb : b ≤ ops.size) (hs : ∀ j, m ≤ j → j < b → ¬ actAt ops j) :
    Inv P x ops s z N w0 rd cs0 ρ0 E b ρ tm' df' cs w := by
  obtain ⟨h1, h2, h3⟩ := Q.move G hab hb hs
  have hn := Q.n_mono G hab hb
  exact {
    mle := hb
    below := fun j hj ha => by
      by_cases h : j < m
      · exact I.below j h ha
      · exact absurd ha (hs j (by omega) hj)
    above := fun j hj ha => I.above j (by omega) ha
    inn := I.inn
    dn := I.dn
    r := by rw [h1]; exact I.r
    fine := fun A sl c e f => by rw [h1] at f; exact (I.fine A sl c e f).keep (za0 (Le.refl _) (by omega)) rfl
    dom := fun A sl e => ⟨(I.dom A sl e).1, by
      rcases (I.dom A sl e).2 with h | h
      · exact .inl (by omega)
      · exact .inr h⟩
    ag := I.ag
    glob := I.glob
    size := I.size
    tm := I.tm
    df := by rw [h2]; exact I.df.mono (za0 (Le.refl _) hn)
    cs := by rw [h3]; exact I.cs.mono (za0 (Le.refl _) hn)
    rd := I.rd }
theorem Inv.back (Q : Seq P Rr x ops s z) (G : Grows Rr) (I : Inv P x ops s z N w0 rd cs0 ρ0 E m ρ tm' df' cs w) : s.h.n ≤ (z m).s.h.n := by
  have := Q.n_mono G (a := 0) (b := m) (by omega) I.mle
  rw [Q.zero] at this; exact this
theorem Inv.reads (Q : Seq P Rr x ops s z) (I : Inv P x ops s z N w0 rd cs0 ρ0 E m ρ tm' df' cs w) {i : Nat} {o : Oper} (ho : ops[i]? = some o) (hE : ¬ E i) (hp : ∀ j, j ∈ (preds ops.toList).getD i [] → E j) {t : Tmp} (ht : t ∈ readsOf ops o) :
    VR (cut ρ (z i).s.h.n) ((z i).s.tm.getD t undef) (tm'.getD t undef) := by
  have hi : i < ops.size := (Array.getElem?_eq_some_iff.1 ho).1
  refine I.tm i t (by omega) (fun j hj hw => ?_) (fun j hj hw => ?_)
  · obtain ⟨p, hpj, hd⟩ := hw
    have hne : j ≠ i := fun e => hE (e ▸ hj)
    rcases Q.ok.tmps j i p o t hne hpj ho hd (.inl ht) with h | h
    · exact zcV _ Q.ok.down i j (by simpa using hi) h
    · exact absurd (I.dn j i hj h) hE
  · obtain ⟨p, hpj, hd⟩ := hw
    rcases Q.ok.tmps j i p o t (by omega) hpj ho hd (.inl ht) with h | h
    · exact hp j h
    · have := zcV _ Q.ok.down j i (by have := (Array.getElem?_eq_some_iff.1 hpj).1; simpa using this) h
      omega
theorem Inv.operands (Q : Seq P Rr x ops s z) (G : Grows Rr) (I : Inv P x ops s z N w0 rd cs0 ρ0 E m ρ tm' df' cs w) {i : Nat} {o : Oper} (ho : ops[i]? = some o) (hE : ¬ E i) (hp : ∀ j, j ∈ (preds ops.toList).getD i [] → E j) (hok : opsOK P o = true) :
    ∀ y ∈ o.op.operands, VR (cut ρ (z i).s.h.n) (ev (z i).s.tm y) (ev tm' y) := by
  intro y hy
  have hi : i < ops.size := (Array.getElem?_eq_some_iff.1 ho).1
  unfold opsOK at hok
  rw [List.all_eq_true] at hok
  have hyo := hok y (by simpa using hy)
  cases y with
  | tmp t =>
    refine I.reads Q ho hE hp (t := t) ?_
    unfold readsOf
    refine List.mem_append.2 (.inl (List.mem_filterMap.2 ⟨.tmp t, by simpa using hy, rfl⟩))
  | const v => exact zaW deep (show plain deep v = true from hyo)
  | global g =>
    have hg : g < P.globals.size := by simpa [opOK] using hyo
    obtain ⟨sl, h1, h2, h3⟩ := I.r.glob g hg
    have h4 := I.glob g hg
    have h5 := Q.n_mono G (a := 0) (b := i) (by omega) (by omega)
    rw [Q.zero] at h5
    exact .ptr ⟨sl, cut_some.2 ⟨by simp only at h5; show g < _; omega, h1⟩, rfl, by simp [h2, h3]⟩
  | func f => exact VR.func' (by simp [FnR]) ⟨rfl, by simp⟩ ⟨rfl, by simp⟩
theorem Inv.wanted (Q : Seq P Rr x ops s z) (I : Inv P x ops s z N w0 rd cs0 ρ0 E m ρ tm' df' cs w) {i : Nat} {o : Oper} (ho : ops[i]? = some o) (hE : ¬ E i) (hp : ∀ j, j ∈ (preds ops.toList).getD i [] → E j) :
    Region.wanted o (yielded ops tm') = wantedB ops (z i).s.tm o := by
  have hi : i < ops.size := (Array.getElem?_eq_some_iff.1 ho).1
  unfold wantedB Region.wanted
  cases hgd : o.guard with
  | none => rfl
  | some q =>
    obtain ⟨g, want⟩ := q
    simp only
    have : yielded ops tm' g = yielded ops (z i).s.tm g := by
      unfold yielded
      cases hd : (ops[g]?).bind (·.dst) with
      | none => rfl
      | some t =>
        simp only [Option.bind_some]
        have hv := I.reads Q ho hE hp (t := t) (by unfold readsOf; rw [hgd]; simp [hd])
        have hsz : tm'.size = (z i).s.tm.size := by rw [I.size, Q.tm_size i (by omega)]
        rw [Array.getD_eq_getD_getElem?, Array.getD_eq_getD_getElem?] at hv
        by_cases ht : t < tm'.size
        · have ht2 : t < (z i).s.tm.size := hsz ▸ ht
          rw [Array.getElem?_eq_getElem ht, Array.getElem?_eq_getElem ht2] at hv ⊢
          simp only [Option.getD_some] at hv
          generalize (z i).s.tm[t] = v at hv
          generalize tm'[t] = v' at hv
          cases hv <;> rfl
        · have ht2 : ¬ t < (z i).s.tm.size := hsz ▸ ht
          rw [Array.getElem?_eq_none (Nat.le_of_not_lt ht), Array.getElem?_eq_none (Nat.le_of_not_lt ht2)]
    rw [this]
end
end Go.AX
