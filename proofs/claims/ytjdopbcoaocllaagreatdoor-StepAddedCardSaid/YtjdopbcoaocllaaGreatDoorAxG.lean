/- The same: calls, open regions, maps; pieces of a run. -/
import Derived.Test.YtjdopbcoaocllaaGreatDoorAxF
import Derived.Test.YtjdopbcoaocllaaGreatDoorAxE
import Derived.Test.YtjdopbcoaocllaaGreatDoorAxX
namespace Go.AX
def noAlloc (o : Oper) : Bool :=
  match o.op with
  | .move _ | .assign _ | .pick .. | .build .. | .load .. | .nilCheck _ | .makeInterface .. | .makeFunc .. | .fieldAddr .. | .field .. | .indexAddr .. | .sliceToArrayPointer .. | .extract .. | .lookup .. | .typeAssert .. | .binOp .. | .unOp .. | .index .. | .slice .. => true
  | .call { callee := .builtin .len, .. } | .call { callee := .builtin .min, .. } | .call { callee := .builtin .max, .. } => true
  | _ => false
theorem zaZ {v : Value} {h h' : Heap} {r : Option Value} (e : (r.map fun v => (v, h)) = some (v, h')) : h' = h := by
  cases r with
  | none => cases e
  | some w => cases e; rfl
theorem zdr {P : Program} {tm : Array Value} {h h' : Heap} {o : Oper} {v : Value} (hn : noAlloc o = true) (e : simpleB P tm h o = some (v, h')) : h' = h := by
  unfold noAlloc at hn
  unfold simpleB at e
  cases ho : o.op with
  | move a => rw [ho] at e; cases e; rfl
  | assign a => rw [ho] at e; cases e; rfl
  | pick c a b => rw [ho] at e; simp only [] at e; split at e <;> cases e; rfl
  | build t ps => rw [ho] at e; exact zaZ e
  | load t a => rw [ho] at e; exact zaZ e
  | nilCheck a => rw [ho] at e; simp only [] at e; split at e <;> cases e <;> rfl
  | makeInterface t a => rw [ho] at e; simp only [] at e; split at e <;> cases e; rfl
  | makeFunc fn a b => rw [ho] at e; simp only [] at e; split at e <;> cases e; rfl
  | fieldAddr t a f => rw [ho] at e; exact zaZ e
  | field t a f => rw [ho] at e; exact zaZ e
  | indexAddr t a f => rw [ho] at e; exact zaZ e
  | sliceToArrayPointer t a => rw [ho] at e; exact zaZ e
  | extract a i => rw [ho] at e; simp only [] at e; split at e; exact zaZ e; cases e
  | lookup t a k ok => rw [ho] at e; exact zaZ e
  | typeAssert a t u ok => rw [ho] at e; exact zaZ e
  | binOp op t a b y =>
    rw [ho] at e; simp only [] at e
    split at e
    · cases e; rfl
    · split at e
      · exact zaZ e
      · exact zaZ e
      · cases e
  | unOp op t a => rw [ho] at e; exact zaZ e
  | index t a i => rw [ho] at e; exact zaZ e
  | slice t a lo hi mx => rw [ho] at e; simp only [] at e; split at e <;> exact zaZ e
  | call c =>
    obtain ⟨callee, args, argTypes⟩ := c
    rw [ho] at e hn
    cases callee with
    | builtin b =>
      cases b with
      | len =>
        simp only [] at e
        split at e
        · split at e
          · cases e; rfl
          · exact zaZ e
          · cases e; rfl
          · exact zaZ e
        · cases e
      | min => exact zaZ e
      | max => exact zaZ e
      | _ => cases hn
    | _ => cases hn
  | _ => rw [ho] at hn; cases hn
def actsAhead (ops : Array Oper) (i : Nat) : Nat := ((List.range i).filter fun j => match ops[j]? with | some o => !isSimple o | none => false).length
def actsInm (ops : Array Oper) (i : Nat) : Nat := ((List.range ops.size).filter fun j => Nat.testBit ((masks ops.toList).getD i 0) j && (match ops[j]? with | some o => !isSimple o | none => false)).length
theorem ziD (ops : Array Oper) (i : Nat) : actsIn ops ((preds ops.toList).getD i []) = actsInm ops i := by
  unfold actsIn actsInm
  simp only [zcW]
  rfl
def tightAt (ops : Array Oper) (i : Nat) : Bool := Nat.beq (actsInm ops i) (actsAhead ops i) && Nat.beq (actsMostm ops i) (actsAhead ops i)
def calmAt (o : Oper) : Bool := !isSimple o || noAlloc o
def calm (ops : Array Oper) : Bool := ops.toList.all calmAt
noncomputable def quickV (v : Value) (n : Nat) : Bool := match v with | .int _ _ => true | .bool _ => true | v => same 20 v v && within 20 n v
theorem zks {v : Value} {n : Nat} (h : quickV v n = true) : same 20 v v = true ∧ within 20 n v = true := by
  have gen : (same 20 v v && within 20 n v) = true → same 20 v v = true ∧ within 20 n v = true := fun h => by simpa using h
  cases v with
  | int k m => exact ⟨by simp [same], by simp [within]⟩
  | bool b => exact ⟨by simp [same], by simp [within]⟩
  | _ => exact gen h
section
variable {β : Type}
abbrev UN (β : Type) := Vt → Heap → Rest → List Heap → List LookC → Option β
abbrev UOp (β : Type) := RecK → Ctx → Vt → Heap → Rest → List Heap → List LookC → UN β → Option β
noncomputable def noEx (_ : Ex) (_ : Vt) (_ : Heap) (_ : Rest) : Option β := none
noncomputable def seeK (P : Program) (N : Nat) (o : Oper) : Bx (Vt → Heap → Option Value) :=
  match o.op with
  | .load ty a => ⟨fun t h => readC P ty h ((evC N a).f t)⟩
  | _ => ⟨fun t h => match simC P N o t h with | some p => some p.1 | none => none⟩
noncomputable def lookK (P : Program) (N : Nat) (ops : Array Oper) (i : Nat) (o : Oper) : Bx (UOp β) :=
  bif tightAt ops i then ⟨fun _ _ t h r hs lk k => someK ((seeK P N o).f t h) fun v => bif quickV v h.n then k ((putC N o.dst).f t v) h r hs lk else none⟩
  else ⟨fun _ _ t h r hs lk k => someK ((seeK P N o).f t h) fun v => k ((putC N o.dst).f t v) h r hs ({ o, i, t, v, n := h.n } :: lk)⟩
noncomputable def calmK (P : Program) (N : Nat) (ops : Array Oper) (i : Nat) (o : Oper) : Bx (UOp β) :=
  bif opsOK P o then
    bif isSimple o then bif looks o then lookK P N ops i o else ⟨fun C x t h r hs lk k => (opK P N o).f C x t h r (fun t h r => k t h r hs lk) noEx⟩
    else ⟨fun C x t h r hs lk k => (opK P N o).f C x t h r (fun t h r => k t h r (h :: hs) lk) noEx⟩
  else ⟨fun _ _ _ _ _ _ _ _ => none⟩
noncomputable def ustepK (P : Program) (N : Nat) (ops : Array Oper) (i : Nat) (o : Oper) : Bx (UOp β) :=
  match o.guard with
  | none => calmK P N ops i o
  | some _ => ⟨fun C x t h r hs lk k => bif (wantC N ops o).f t then (calmK P N ops i o).f C x t h r hs lk k else k ((putC N o.dst).f t undef) h r (bif isSimple o then hs else h :: hs) lk⟩
noncomputable def useqK (P : Program) (N : Nat) (ops : Array Oper) : List (Nat × Oper) → Bx (UOp β) :=
  @List.rec (Nat × Oper) (fun _ => Bx (UOp β)) ⟨fun _ _ t h r hs lk k => k t h r hs lk⟩ (fun p _ ih => ⟨fun C x t h r hs lk k => (ustepK P N ops p.1 p.2).f C x t h r hs lk (fun t h r hs lk => ih.f C x t h r hs lk k)⟩)
def LookFine (P : Program) (hs : List Heap) (l : Look) : Prop :=
  l.lo < hs.length ∧ l.hi = l.lo ∧ ∃ hk, hs[hs.length - 1 - l.lo]? = some hk ∧ simpleB P l.tm hk l.o = some (l.v, hk) ∧ same 20 l.v l.v = true ∧ within 20 l.n l.v = true
theorem LookFine.more {P : Program} {hs : List Heap} {l : Look} (f : LookFine P hs l) (h : Heap) : LookFine P (h :: hs) l := by
  obtain ⟨h1, h2, hk, h3, h4⟩ := f
  refine ⟨by simp only [List.length_cons]; omega, h2, hk, ?_, h4⟩
  rw [show (h :: hs).length - 1 - l.lo = hs.length - 1 - l.lo + 1 by simp only [List.length_cons]; omega, List.getElem?_cons_succ]
  exact h3
theorem LookFine.ok {P : Program} {hs : List Heap} {l : Look} (f : LookFine P hs l) : lookOK P hs l = true := by
  obtain ⟨h1, h2, hk, h3, h4, h5, h6⟩ := f
  unfold lookOK
  rw [List.all_eq_true]
  intro k hk'
  by_cases h7 : k < l.lo
  · simp [h7]
  · by_cases h8 : l.hi < k
    · simp [h8]
    · have : k = l.lo := by omega
      subst this
      simp only [Bool.or_eq_true]; right
      rw [h3]; simp only [h4, h5, h6, Bool.true_and, Bool.and_true]
      exact beq_self_eq_true _
structure CalmZ (P : Program) (N : Nat) (ops : Array Oper) (k : Nat) (z : Open) (t : Vt) (h : Heap) (r : Rest) (hs : List Heap) (lk : List LookC) : Prop where
  s : z.s = FS.st N ⟨t, r.df, r.up, h⟩
  news : z.news = []
  hsq : z.hs = hs
  head : ∃ l, hs = h :: l
  len : hs.length = k + 1
  looks : ∀ l ∈ z.looks, LookFine P hs l ∨ l ∈ lk.map (LookC.look ops N)
theorem zjR {P : Program} {K : Known} {C : RecK} (hC : OkK P K C) {N : Nat} {x : Ctx} {ops : Array Oper} {i : Nat} {o : Oper} (hi : ops[i]? = some o) (ht : calmAt o = true) {k : UN β} {b : β} {t : Vt} {h : Heap} {r : Rest} {hs : List Heap} {lk : List LookC} {z : Open} (hz : CalmZ P N ops (actsAhead ops i) z t h r hs lk)
    (e : (ustepK P N ops i o).f C x t h r hs lk k = some b) : ∃ z' t' h' r' hs' lk', openStep P (lim P K) x ops (preds ops.toList) z i = some z' ∧ CalmZ P N ops (actsAhead ops (i + 1)) z' t' h' r' hs' lk' ∧ k t' h' r' hs' lk' = some b := by
  have hahead : actsAhead ops (i + 1) = actsAhead ops i + (if isSimple o then 0 else 1) := by
    unfold actsAhead
    rw [List.range_succ, List.filter_append, List.length_append]
    congr 1
    simp only [List.filter_cons, List.filter_nil, hi]
    cases isSimple o <;> rfl
  have key : (bif (wantC N ops o).f t then (calmK P N ops i o).f C x t h r hs lk k else k ((putC N o.dst).f t undef) h r (bif isSimple o then hs else h :: hs) lk) = some b := by
    unfold ustepK at e
    cases hg : o.guard with
    | none => rw [hg] at e; rw [show (wantC N ops o).f t = true by unfold wantC; rw [hg]]; exact e
    | some p => rw [hg] at e; exact e
  obtain ⟨hl, hhd⟩ := hz.head
  have hnews := hz.news
  have hlen := hz.len
  have hlooks := hz.looks
  have hs1 := hz.s
  have hs2 := hz.hsq
  obtain ⟨zs, zh, zl, zn⟩ := z
  simp only at hs1 hs2 hnews hlooks
  subst hs1; subst hs2; subst hnews; subst hhd
  rw [zdA] at key
  unfold openStep; simp only [hi]
  cases hw : wantedB ops (toArr N t) o with
  | false =>
    rw [hw] at key; simp only [cond_false] at key
    have hw' : wantedB ops (FS.st N ⟨t, r.df, r.up, h⟩).tm o = false := hw
    cases hsi : isSimple o with
    | true =>
      rw [hsi] at hahead key
      refine ⟨_, _, _, _, _, _, by simp only [hw', Bool.false_eq_true, if_false, if_true]; rfl, ⟨?_, rfl, rfl, ⟨hl, rfl⟩, by simpa [hahead] using hlen, hlooks⟩, key⟩
      simp only [FS.st, zbg]
    | false =>
      rw [hsi] at hahead key
      refine ⟨_, _, _, _, _, _, by simp only [hw', Bool.false_eq_true, if_false]; rfl, ⟨?_, rfl, rfl, ⟨h :: hl, rfl⟩, by simp only [List.length_cons, hahead] at hlen ⊢; simp; omega, fun l hm => (hlooks l hm).imp (fun q => q.more _) id⟩, key⟩
      simp only [FS.st, zbg]
  | true =>
    rw [hw] at key; simp only [cond_true] at key
    have hw' : wantedB ops (FS.st N ⟨t, r.df, r.up, h⟩).tm o = true := hw
    unfold calmK at key
    cases hk : opsOK P o with
    | false => rw [hk] at key; cases key
    | true =>
    rw [hk] at key; simp only [cond_true] at key
    cases hsi : isSimple o with
    | false =>
      rw [hsi] at hahead key
      simp only [cond_false] at key
      obtain ⟨d, s1, hop, hgo⟩ := zkD key
      have hdo : doOp P (lim P K) x (FS.st N ⟨t, r.df, r.up, h⟩) o = some (d, s1.st N) := by
        refine zgb hC.under ?_
        unfold okC; rw [hk]; exact hop
      cases d with
      | panic c => cases hgo
      | val v =>
        simp only [hw', Bool.false_eq_true, if_false, if_true]
        unfold openAct
        have e1 : unseen (preds ops.toList) [] i = [] := rfl
        have e2 : ({ FS.st N ⟨t, r.df, r.up, h⟩ with h := (FS.st N ⟨t, r.df, r.up, h⟩).h } : St) = FS.st N ⟨t, r.df, r.up, h⟩ := rfl
        simp only [e1, hide, unhide, List.foldl_nil, List.all_nil, if_true, e2, hdo]
        refine ⟨_, _, _, _, _, _, rfl, ⟨?_, rfl, rfl, ⟨h :: hl, rfl⟩, by simp only [List.length_cons, hahead] at hlen ⊢; simp; omega, fun l hm => (hlooks l hm).imp (fun q => q.more _) id⟩, hgo⟩
        simp only [FS.st, zbg]
    | true =>
      rw [hsi] at hahead key
      simp only [cond_true] at key
      unfold calmAt at ht
      rw [hsi] at ht
      simp only [Bool.not_true, Bool.false_or] at ht
      have hna := ht
      simp only [hw', if_true]
      have fin : ∀ v t1 lk', toArr N t1 = toArr N t → simpleB P (toArr N t) h o = some (v, h) → k ((putC N o.dst).f t1 v) h r (h :: hl) lk' = some b →
          (∀ l ∈ lk, l ∈ lk') → (looks o = true → tightAt ops i = true ∧ same 20 v v = true ∧ within 20 h.n v = true ∨ ⟨o, i, t, v, h.n⟩ ∈ lk') →
          ∃ z' t' h' r' hs' lk', openSimple P ops (preds ops.toList) ⟨FS.st N ⟨t, r.df, r.up, h⟩, h :: hl, zl, []⟩ i o = some z' ∧ CalmZ P N ops (actsAhead ops (i + 1)) z' t' h' r' hs' lk' ∧ k t' h' r' hs' lk' = some b := by
        intro v t1 lk' ht1 hv hkn hsub hq
        unfold openSimple
        rw [hk]; simp only [if_true]
        have hv' : simpleB P (FS.st N ⟨t, r.df, r.up, h⟩).tm (FS.st N ⟨t, r.df, r.up, h⟩).h o = some (v, h) := hv
        rw [hv']
        have hb : (h.n == (FS.st N ⟨t, r.df, r.up, h⟩).h.n) = true := beq_self_eq_true _
        simp only [hb, if_true]
        have old : ∀ l ∈ zl, LookFine P (h :: hl) l ∨ l ∈ lk'.map (LookC.look ops N) := fun l hm => (hlooks l hm).imp id fun q => by
          obtain ⟨a, ha, rfl⟩ := List.mem_map.1 q
          exact List.mem_map.2 ⟨a, hsub _ ha, rfl⟩
        refine ⟨_, (putC N o.dst).f t1 v, h, r, h :: hl, lk', rfl, ⟨?_, rfl, rfl, ⟨hl, rfl⟩, by simpa [hahead] using hlen, ?_⟩, hkn⟩
        · simp only [FS.st, zbg, ht1]
        · intro l hm
          cases hlk : looks o with
          | false => rw [hlk] at hm; exact old l hm
          | true =>
            rw [hlk] at hm
            simp only [if_true] at hm
            rcases List.mem_cons.1 hm with rfl | hm
            · rcases hq hlk with ⟨h0, h3, h4⟩ | h0
              · left
                unfold tightAt at h0
                rw [Bool.and_eq_true] at h0
                have h1 : actsIn ops ((preds ops.toList).getD i []) = actsAhead ops i := (ziD ops i).trans (Nat.eq_of_beq_eq_true h0.1)
                have h2 : actsMost ops (preds ops.toList) i = actsAhead ops i := (zcB ops i).trans (Nat.eq_of_beq_eq_true h0.2)
                have hlen' : (h :: hl).length = actsAhead ops i + 1 := hlen
                refine ⟨by show actsIn _ _ < (h :: hl).length; omega, by show actsMost _ _ _ = actsIn _ _; omega, h, ?_, hv, h3, h4⟩
                show (h :: hl)[(h :: hl).length - 1 - actsIn ops ((preds ops.toList).getD i [])]? = some h
                rw [show (h :: hl).length - 1 - actsIn ops ((preds ops.toList).getD i []) = 0 by omega]; rfl
              · right; exact List.mem_map.2 ⟨_, h0, rfl⟩
            · exact old l hm
      have viaOp : DidK P N o C x t h r (fun t h1 r => k t h1 r (h :: hl) lk) noEx b → ∃ v t1, toArr N t1 = toArr N t ∧ simpleB P (toArr N t) h o = some (v, h) ∧ k ((putC N o.dst).f t1 v) h r (h :: hl) lk = some b := by
        rintro ⟨d, s1, hop, hgo⟩
        have hth := zkE hC.under hop
        rw [zcz, zby hsi] at hth
        have hth : valF (FS.st N ⟨t, r.df, r.up, h⟩) (simpleB P (toArr N t) h o) = some (d, s1.st N) := hth
        cases hb : simpleB P (toArr N t) h o with
        | none => rw [hb] at hth; cases hth
        | some p =>
          obtain ⟨v, h1⟩ := p
          have hh := zdr hna hb
          rw [hb] at hth
          simp only [valF, heapF, Option.some.injEq, Prod.mk.injEq] at hth
          obtain ⟨e1, e2⟩ := hth
          subst e1
          obtain ⟨t1, d1, u1, h2⟩ := s1
          simp only [FS.st, St.mk.injEq] at e2
          obtain ⟨e3, rfl, rfl, rfl⟩ := e2
          rw [hh]
          refine ⟨v, t1, e3.symm, rfl, ?_⟩
          have hgo : k ((putC N o.dst).f t1 v) h1 r (h :: hl) lk = some b := hgo
          rw [hh] at hgo; exact hgo
      cases hlk : looks o with
      | true =>
        rw [hlk] at key; simp only [cond_true] at key
        have see : ∀ v, (seeK P N o).f t h = some v → simpleB P (toArr N t) h o = some (v, h) := by
          intro v e
          unfold seeK at e
          have gen : (match simC P N o t h with | some p => some p.1 | none => none) = some v → simpleB P (toArr N t) h o = some (v, h) := by
            intro e
            cases hc : simC P N o t h with
            | none => rw [hc] at e; cases e
            | some p =>
              obtain ⟨w, h1⟩ := p
              have hb := zg1 hsi hc
              rw [hc] at e; cases e
              rw [hb, zdr hna hb]
          cases ho : o.op with
          | load ty a =>
            rw [ho] at e; simp only [] at e
            rw [za1, zff, zfe] at e
            simp only [simpleB, ho, e, Option.map_some]
          | _ => rw [ho] at e; exact gen e
        unfold lookK at key
        cases hta : tightAt ops i with
        | true =>
          rw [hta] at key; simp only [cond_true] at key
          cases hc : (seeK P N o).f t h with
          | none => rw [hc] at key; cases key
          | some v =>
            rw [hc] at key
            have key : (bif quickV v h.n then k ((putC N o.dst).f t v) h r (h :: hl) lk else none) = some b := key
            cases hq : quickV v h.n with
            | false => rw [hq] at key; cases key
            | true =>
              rw [hq] at key
              exact fin v t lk rfl (see v hc) key (fun l hl => hl) (fun _ => .inl ⟨hta, zks hq⟩)
        | false =>
          rw [hta] at key; simp only [cond_false] at key
          cases hc : (seeK P N o).f t h with
          | none => rw [hc] at key; cases key
          | some v =>
            rw [hc] at key
            exact fin v t _ rfl (see v hc) key (fun l hl => List.mem_cons_of_mem _ hl) (fun _ => .inr (List.mem_cons_self ..))
      | false =>
        rw [hlk] at key; simp only [cond_false] at key
        obtain ⟨v, t1, h0, h1, h2⟩ := viaOp (zkD key)
        exact fin v t1 lk h0 h1 h2 (fun l hl => hl) (fun q => by rw [hlk] at q; cases q)
theorem useqK_ok {P : Program} {K : Known} {C : RecK} (hC : OkK P K C) {N : Nat} {x : Ctx} {ops : Array Oper} (hcalm : calm ops = true) {k : UN β} {b : β} : ∀ (n i : Nat), i + n = ops.size → ∀ t h r hs lk z, CalmZ P N ops (actsAhead ops i) z t h r hs lk → (useqK P N ops (numbered (ops.toList.drop i) i)).f C x t h r hs lk k = some b →
    ∃ z' t' h' r' hs' lk', (List.range' i n).foldlM (openStep P (lim P K) x ops (preds ops.toList)) z = some z' ∧ CalmZ P N ops (actsAhead ops ops.size) z' t' h' r' hs' lk' ∧ k t' h' r' hs' lk' = some b := by
  intro n
  induction n with
  | zero =>
    intro i hi t h r hs lk z hz e
    rw [List.drop_eq_nil_of_le (by simp; omega)] at e
    rw [show i = ops.size by omega] at hz
    exact ⟨z, t, h, r, hs, lk, rfl, hz, e⟩
  | succ n ih =>
    intro i hi t h r hs lk z hz e
    have hlt : i < ops.size := by omega
    have hd : ops.toList.drop i = ops[i] :: ops.toList.drop (i + 1) := by
      rw [List.drop_eq_getElem_cons (by simpa using hlt)]; simp
    rw [hd] at e
    have e : (ustepK P N ops i ops[i]).f C x t h r hs lk (fun t h r hs lk => (useqK P N ops (numbered (ops.toList.drop (i + 1)) (i + 1))).f C x t h r hs lk k) = some b := e
    have ho : ops[i]? = some ops[i] := Array.getElem?_eq_getElem hlt
    have hta : calmAt ops[i] = true := by
      unfold calm at hcalm
      rw [List.all_eq_true] at hcalm
      exact hcalm _ (by simp)
    obtain ⟨z1, t1, h1, r1, hs1, lk1, a, bb, c⟩ := zjR hC ho hta hz e
    obtain ⟨z2, t2, h2, r2, hs2, lk2, a2, b2, c2⟩ := ih (i + 1) (by omega) _ _ _ _ _ _ bb c
    refine ⟨z2, t2, h2, r2, hs2, lk2, ?_, b2, c2⟩
    rw [List.range'_succ, List.foldlM_cons, a]; exact a2
noncomputable def regionK (P : Program) (N : Nat) (ops : Array Oper) : Bx (KOp β) :=
  bif calm ops && openOKm ops then ⟨fun C x t h r kn _ => (useqK P N ops (numbered ops.toList 0)).f C x t h r [h] [] fun t h r hs lk => bif allLooks P ops N hs lk then kn t h r else none⟩ else ⟨fun C x t h r kn ke => match (openC P N ops).f (toC C) x ⟨t, r.df, r.up, h⟩ with | some (.normal, s) => kn s.t s.h ⟨s.df, s.up⟩ | some (e, s) => ke e s.t s.h ⟨s.df, s.up⟩ | none => none⟩
theorem zje {P : Program} {K : Known} {C : RecK} (hC : OkK P K C) {N : Nat} {x : Ctx} {ops : Array Oper} {kn : Vt → Heap → Rest → Option β} {ke : Ex → Vt → Heap → Rest → Option β} {b : β} {t : Vt} {h : Heap} {r : Rest} (e : (regionK P N ops).f C x t h r kn ke = some b) :
    ∃ (ex : Ex) (s1 : FS), openOps P (lim P K) x ops (FS.st N ⟨t, r.df, r.up, h⟩) = some (ex, s1.st N) ∧ (match ex with | .normal => kn s1.t s1.h ⟨s1.df, s1.up⟩ | ex => ke ex s1.t s1.h ⟨s1.df, s1.up⟩) = some b := by
  unfold regionK at e
  cases hb : (calm ops && openOKm ops) with
  | false =>
    rw [hb] at e; simp only [cond_false] at e
    cases hc : (openC P N ops).f (toC C) x ⟨t, r.df, r.up, h⟩ with
    | none => rw [hc] at e; cases e
    | some p =>
      obtain ⟨ex, s1⟩ := p
      rw [hc] at e
      exact ⟨ex, s1, zh9 hC.under hc, by cases ex <;> exact e⟩
  | true =>
    rw [hb] at e; simp only [cond_true] at e
    have hb : calm ops = true ∧ openOK ops = true := by rw [zfj]; simpa using hb
    have h0 : CalmZ P N ops (actsAhead ops 0) ⟨FS.st N ⟨t, r.df, r.up, h⟩, [h], [], []⟩ t h r [h] [] := ⟨rfl, rfl, rfl, ⟨[], rfl⟩, rfl, fun l hm => by cases hm⟩
    obtain ⟨z, t1, h1, r1, hs1, lk1, a, hz, c⟩ := useqK_ok hC hb.1 ops.size 0 (by omega) t h r _ _ _ h0 (by simpa using e)
    cases hal : allLooks P ops N hs1 lk1 with
    | false => rw [hal] at c; cases c
    | true =>
      rw [hal] at c; simp only [cond_true] at c
      refine ⟨.normal, ⟨t1, r1.df, r1.up, h1⟩, ?_, c⟩
      unfold openOps
      rw [if_pos hb.2, List.range_eq_range']
      have e0 : (FS.st N ⟨t, r.df, r.up, h⟩).h = h := rfl
      rw [e0, a]
      have hall : z.looks.all (lookOK P z.hs) = true := by
        rw [List.all_eq_true]
        intro l hl
        rw [hz.hsq]
        rcases hz.looks l hl with q | q
        · exact q.ok
        · have := zer _ hal
          rw [List.all_eq_true] at this
          exact this l q
      show (if (decide (z.hs.length ≤ 1) || z.looks.all (lookOK P z.hs)) = true then some (Ex.normal, z.s) else none) = _
      rw [hall, Bool.or_true, if_pos rfl, hz.s]
end
end Go.AX

namespace Go.AX
section
variable {β : Type}
noncomputable def okK (P : Program) (N : Nat) (o : Oper) : Bx (KOp β) := bif opsOK P o then opK P N o else ⟨fun _ _ _ _ _ _ _ => none⟩
noncomputable def stepK (P : Program) (N : Nat) (ops : Array Oper) (o : Oper) : Bx (KOp β) :=
  match o.guard with
  | none => okK P N o
  | some _ => ⟨fun C x t h r kn ke => bif (wantC N ops o).f t then (okK P N o).f C x t h r kn ke else kn ((putC N o.dst).f t undef) h r⟩
noncomputable def seqK (P : Program) (N : Nat) (ops : Array Oper) : List Oper → Bx (KOp β) :=
  @List.rec Oper (fun _ => Bx (KOp β)) ⟨fun _ _ t h r kn _ => kn t h r⟩ (fun o _ ih => ⟨fun C x t h r kn ke => (stepK P N ops o).f C x t h r (fun t h r => ih.f C x t h r kn ke) ke⟩)
noncomputable def goK (kn : Vt → Heap → Rest → Option β) (ke : Ex → Vt → Heap → Rest → Option β) (e : Ex) (s : FS) : Option β :=
  match e with
  | .normal => kn s.t s.h ⟨s.df, s.up⟩
  | e => ke e s.t s.h ⟨s.df, s.up⟩
theorem seqK_ok {P : Program} {K : Known} {C : RecK} (hC : OkK P K C) {N : Nat} {x : Ctx} (ops : Array Oper) {kn : Vt → Heap → Rest → Option β} {ke : Ex → Vt → Heap → Rest → Option β} {b : β} : ∀ (n i : Nat), i + n = ops.size → ∀ t h r, (seqK P N ops (ops.toList.drop i)).f C x t h r kn ke = some b →
    ∃ m e s1, seqOps P (run P K m) x ops (List.range' i n) (FS.st N ⟨t, r.df, r.up, h⟩) = some (e, s1.st N) ∧ goK kn ke e s1 = some b := by
  intro n
  induction n with
  | zero =>
    intro i hi t h r e
    rw [List.drop_eq_nil_of_le (by simp; omega)] at e
    exact ⟨0, .normal, ⟨t, r.df, r.up, h⟩, rfl, e⟩
  | succ n ih =>
    intro i hi t h r e
    have hlt : i < ops.size := by omega
    have hd : ops.toList.drop i = ops[i] :: ops.toList.drop (i + 1) := by
      rw [List.drop_eq_getElem_cons (by simpa using hlt)]; simp
    rw [hd] at e
    have e : (stepK P N ops ops[i]).f C x t h r (fun t h r => (seqK P N ops (ops.toList.drop (i + 1))).f C x t h r kn ke) ke = some b := e
    have key : (bif (wantC N ops ops[i]).f t then (okK P N ops[i]).f C x t h r (fun t h r => (seqK P N ops (ops.toList.drop (i + 1))).f C x t h r kn ke) ke else (seqK P N ops (ops.toList.drop (i + 1))).f C x ((putC N ops[i].dst).f t undef) h r kn ke) = some b := by
      unfold stepK at e
      cases hg : ops[i].guard with
      | none => rw [hg] at e; rw [show (wantC N ops ops[i]).f t = true by unfold wantC; rw [hg]]; exact e
      | some p => rw [hg] at e; exact e
    rw [zdA] at key
    rw [List.range'_succ]
    cases hw : wantedB ops (toArr N t) ops[i] with
    | false =>
      rw [hw] at key; simp only [cond_false] at key
      obtain ⟨m, e1, s1, h1, h2⟩ := ih (i + 1) (by omega) _ _ _ key
      refine ⟨m, e1, s1, ?_, h2⟩
      simp only [seqOps, Array.getElem?_eq_getElem hlt]
      show (if wantedB ops (toArr N t) ops[i] then _ else _) = _
      rw [hw]
      simp only [FS.st, zbg] at h1 ⊢
      exact h1
    | true =>
      rw [hw] at key; simp only [cond_true] at key
      unfold okK at key
      cases hk : opsOK P ops[i] with
      | false => rw [hk] at key; cases key
      | true =>
        rw [hk] at key; simp only [cond_true] at key
        obtain ⟨d, s1, hop, hgo⟩ := zkD key
        have hdo : doOp P (lim P K) x (FS.st N ⟨t, r.df, r.up, h⟩) ops[i] = some (d, s1.st N) := by
          refine zgb hC.under ?_
          unfold okC; rw [hk]; exact hop
        obtain ⟨m1, hm1⟩ := zit hdo
        cases d with
        | panic c =>
          refine ⟨m1, .panic c, s1, ?_, hgo⟩
          simp only [seqOps, Array.getElem?_eq_getElem hlt]
          show (if wantedB ops (toArr N t) ops[i] then _ else _) = _
          rw [hw, hm1]; rfl
        | val v =>
          obtain ⟨m2, e2, s2, h2, h3⟩ := ih (i + 1) (by omega) _ _ _ hgo
          refine ⟨max m1 m2, e2, s2, ?_, h3⟩
          simp only [seqOps, Array.getElem?_eq_getElem hlt]
          show (if wantedB ops (toArr N t) ops[i] then _ else _) = _
          rw [hw, zct (zas P K (Nat.le_max_left m1 m2)) hm1]
          have := zb8 (zas P K (Nat.le_max_right m1 m2)) _ _ _ h2
          simp only [FS.st, zbg] at this ⊢
          exact this
noncomputable def boolK (v : Value) (a b : Option β) : Option β := match v with | .bool t => bif t then a else b | _ => none
noncomputable def blockKe (id : Nat) (kn : Vt → Heap → Rest → Option β) (ke : Ex → Vt → Heap → Rest → Option β) (e : Ex) (t : Vt) (h : Heap) (r : Rest) : Option β :=
  match e with
  | .exit i => bif Nat.beq i id then kn t h r else ke (.exit i) t h r
  | e => ke e t h r
noncomputable def loopK (b : Bx (KOp β)) (C : RecK) (x : Ctx) (ke : Ex → Vt → Heap → Rest → Option β) : Nat → Vt → Heap → Rest → Option β :=
  @Nat.rec (fun _ => Vt → Heap → Rest → Option β) (fun _ _ _ => none) (fun _ ih t h r => b.f C x t h r ih ke)
noncomputable def pendK (l : Nat) (mark : List Deferred) (t : Vt) (r : Rest) (h : Heap) (kn : Vt → Heap → Rest → Option β) (ke : Ex → Vt → Heap → Rest → Option β) : Option β :=
  match loopB h l with
  | some q => bif q.state == .busy then none else
    match q.pending with
    | none => kn t (h.set l (.obj (.loop { q with state := .exhausted }))) ⟨mark ++ r.df, r.up⟩
    | some .ret => ke .ret t (h.set l (.obj (.loop { q with state := .exhausted }))) ⟨mark ++ r.df, r.up⟩
    | some (.exit i) => ke (.exit i) t (h.set l (.obj (.loop { q with state := .exhausted }))) ⟨mark ++ r.df, r.up⟩
    | _ => none
  | none => none
noncomputable def rangeK (P : Program) (N : Nat) (f : Operand) (params : Array Tmp) (assign body : Code) (C : RecK) (x : Ctx) (t : Vt) (h : Heap) (r : Rest) (kn : Vt → Heap → Rest → Option β) (ke : Ex → Vt → Heap → Rest → Option β) : Option β :=
  match enterLoopB x (FS.st N ⟨t, r.df, r.up, h⟩) params assign body with
  | none => none
  | some (l, mark, h) =>
    match callValueB P ((evC N f).f t) #[.func (.yield l) #[] #[]] with
    | some (.enter g args) =>
      match C.call g args false .run h with
      | some (.ret _, _, h) => pendK l mark t r h kn ke
      | some (.panic c, _, h) => ke (.panic c) t h ⟨mark ++ r.df, r.up⟩
      | none => none
    | _ => none
noncomputable def codeK (P : Program) (N : Nat) (F : Nat) : Code → Bx (KOp β) :=
  @Code.rec (fun _ => Bx (KOp β))
    ⟨fun _ _ t h r kn _ => kn t h r⟩
    (fun _ ops draw => bif draw then regionK P N ops else seqK P N ops ops.toList)
    (fun _ _ a b => ⟨fun C x t h r kn ke => a.f C x t h r (fun t h r => b.f C x t h r kn ke) ke⟩)
    (fun c _ _ a b => ⟨fun C x t h r kn ke => boolK ((evC N c).f t) (a.f C x t h r kn ke) (b.f C x t h r kn ke)⟩)
    (fun id _ b => ⟨fun C x t h r kn ke => b.f C x t h r kn (blockKe id kn ke)⟩)
    (fun _ b => ⟨fun C x t h r _ ke => loopK b C x ke F t h r⟩)
    (fun f params assign body _ _ => bif opOK P f then ⟨rangeK P N f params assign body⟩ else ⟨fun _ _ _ _ _ _ _ => none⟩)
    (fun id => ⟨fun _ _ t h r _ ke => ke (.exit id) t h r⟩)
    (fun _ b => b)
    (fun _ => ⟨fun _ _ t h r kn _ => kn t h r⟩)
    (fun _ => ⟨fun _ _ _ _ _ _ _ => none⟩)
    ⟨fun _ _ t h r _ ke => ke .ret t h r⟩
    (fun _ => ⟨fun _ _ _ _ _ _ _ => none⟩)
def Does (P : Program) (K : Known) (x : Ctx) (N : Nat) (c : Code) (t : Vt) (h : Heap) (r : Rest) (kn : Vt → Heap → Rest → Option β) (ke : Ex → Vt → Heap → Rest → Option β) (b : β) : Prop :=
  ∃ m e s1, (run P K m).code x c (FS.st N ⟨t, r.df, r.up, h⟩) = some (e, s1.st N) ∧ goK kn ke e s1 = some b
theorem zc6 {P : Program} {K : Known} {C : RecK} (hC : OkK P K C) {N F : Nat} {x : Ctx} (c : Code) : ∀ (kn : Vt → Heap → Rest → Option β) (ke : Ex → Vt → Heap → Rest → Option β) (b : β) (t : Vt) (h : Heap) (r : Rest), (codeK P N F c).f C x t h r kn ke = some b → Does P K x N c t h r kn ke b := by
  induction c with
  | skip => intro kn ke b t h r e; exact ⟨1, .normal, ⟨t, r.df, r.up, h⟩, rfl, e⟩
  | region id ops draw =>
    intro kn ke b t h r e
    have e : (bif draw then (regionK P N ops : Bx (KOp β)) else seqK P N ops ops.toList).f C x t h r kn ke = some b := e
    cases draw with
    | true =>
      simp only [cond_true] at e
      obtain ⟨e1, s1, h1, h2⟩ := zje hC e
      obtain ⟨m, hm⟩ := zhi h1
      exact ⟨m + 1, e1, s1, hm, by cases e1 <;> exact h2⟩
    | false =>
      simp only [cond_false] at e
      obtain ⟨m, e1, s1, h1, h2⟩ := seqK_ok hC ops ops.size 0 (by omega) t h r (by simpa using e)
      refine ⟨m + 1, e1, s1, ?_, h2⟩
      show seqOps P (run P K m) x ops (List.range ops.size) _ = _
      rw [List.range_eq_range']; exact h1
  | seq a b iha ihb =>
    intro kn ke v t h r e
    have e : (codeK P N F a).f C x t h r (fun t h r => (codeK P N F b).f C x t h r kn ke) ke = some v := e
    obtain ⟨m1, e1, s1, h1, h2⟩ := iha _ _ _ _ _ _ e
    cases e1 with
    | normal =>
      obtain ⟨m2, e2, s2, h3, h4⟩ := ihb _ _ _ _ _ _ h2
      refine ⟨max m1 m2 + 1, e2, s2, ?_, h4⟩
      show (match (run P K (max m1 m2)).code x a _ with | some (.normal, s) => (run P K (max m1 m2)).code x b s | r => r) = _
      rw [(zas P K (Nat.le_max_left m1 m2)).code _ _ _ _ h1]
      exact (zas P K (Nat.le_max_right m1 m2)).code _ _ _ _ h3
    | ret =>
      refine ⟨m1 + 1, .ret, s1, ?_, h2⟩
      show (match (run P K m1).code x a _ with | some (.normal, s) => (run P K m1).code x b s | r => r) = _
      rw [h1]
    | exit i =>
      refine ⟨m1 + 1, .exit i, s1, ?_, h2⟩
      show (match (run P K m1).code x a _ with | some (.normal, s) => (run P K m1).code x b s | r => r) = _
      rw [h1]
    | panic c =>
      refine ⟨m1 + 1, .panic c, s1, ?_, h2⟩
      show (match (run P K m1).code x a _ with | some (.normal, s) => (run P K m1).code x b s | r => r) = _
      rw [h1]
  | cond c a b iha ihb =>
    intro kn ke v t h r e
    have e : boolK ((evC N c).f t) ((codeK P N F a).f C x t h r kn ke) ((codeK P N F b).f C x t h r kn ke) = some v := e
    rw [za1] at e
    cases hv : ev (toArr N t) c with
    | bool q =>
      rw [hv] at e
      cases q with
      | true =>
        obtain ⟨m, e1, s1, h1, h2⟩ := iha _ _ _ _ _ _ e
        refine ⟨m + 1, e1, s1, ?_, h2⟩
        show (match ev (toArr N t) c with | .bool t => (run P K m).code x (if t then a else b) _ | _ => none) = _
        rw [hv]; exact h1
      | false =>
        obtain ⟨m, e1, s1, h1, h2⟩ := ihb _ _ _ _ _ _ e
        refine ⟨m + 1, e1, s1, ?_, h2⟩
        show (match ev (toArr N t) c with | .bool t => (run P K m).code x (if t then a else b) _ | _ => none) = _
        rw [hv]; exact h1
    | _ => rw [hv] at e; cases e
  | block id b ih =>
    intro kn ke v t h r e
    have e : (codeK P N F b).f C x t h r kn (blockKe id kn ke) = some v := e
    obtain ⟨m, e1, s1, h1, h2⟩ := ih _ _ _ _ _ _ e
    cases e1 with
    | exit i =>
      have h2 : (bif Nat.beq i id then kn s1.t s1.h ⟨s1.df, s1.up⟩ else ke (.exit i) s1.t s1.h ⟨s1.df, s1.up⟩) = some v := h2
      cases hi : Nat.beq i id with
      | true =>
        rw [hi] at h2
        refine ⟨m + 1, .normal, s1, ?_, h2⟩
        show (match (run P K m).code x b _ with | some (Ex.exit i, s) => if i = id then some (Ex.normal, s) else some (Ex.exit i, s) | r => r) = _
        rw [h1]; simp only [Nat.eq_of_beq_eq_true hi, if_true]
      | false =>
        rw [hi] at h2
        refine ⟨m + 1, .exit i, s1, ?_, h2⟩
        show (match (run P K m).code x b _ with | some (Ex.exit i, s) => if i = id then some (Ex.normal, s) else some (Ex.exit i, s) | r => r) = _
        rw [h1]
        have : ¬ i = id := fun q => by rw [q, Nat.beq_refl] at hi; cases hi
        simp only [if_neg this]
    | normal =>
      refine ⟨m + 1, .normal, s1, ?_, h2⟩
      show (match (run P K m).code x b _ with | some (Ex.exit i, s) => if i = id then some (Ex.normal, s) else some (Ex.exit i, s) | r => r) = _
      rw [h1]
    | ret =>
      refine ⟨m + 1, .ret, s1, ?_, h2⟩
      show (match (run P K m).code x b _ with | some (Ex.exit i, s) => if i = id then some (Ex.normal, s) else some (Ex.exit i, s) | r => r) = _
      rw [h1]
    | panic c =>
      refine ⟨m + 1, .panic c, s1, ?_, h2⟩
      show (match (run P K m).code x b _ with | some (Ex.exit i, s) => if i = id then some (Ex.normal, s) else some (Ex.exit i, s) | r => r) = _
      rw [h1]
  | loop b ih =>
    intro kn ke v t h r e
    have key : ∀ n t h r, loopK (codeK P N F b) C x ke n t h r = some v → Does P K x N (.loop b) t h r kn ke v := by
      intro n
      induction n with
      | zero => intro t h r e; cases e
      | succ n ihn =>
        intro t h r e
        have e : (codeK P N F b).f C x t h r (loopK (codeK P N F b) C x ke n) ke = some v := e
        obtain ⟨m1, e1, s1, h1, h2⟩ := ih _ _ _ _ _ _ e
        cases e1 with
        | normal =>
          obtain ⟨m2, e2, s2, h3, h4⟩ := ihn _ _ _ h2
          refine ⟨max m1 m2 + 1, e2, s2, ?_, h4⟩
          show (match (run P K (max m1 m2)).code x b _ with | some (.normal, s) => (run P K (max m1 m2)).code x (.loop b) s | r => r) = _
          rw [(zas P K (Nat.le_max_left m1 m2)).code _ _ _ _ h1]
          exact (zas P K (Nat.le_max_right m1 m2)).code _ _ _ _ h3
        | ret =>
          refine ⟨m1 + 1, .ret, s1, ?_, h2⟩
          show (match (run P K m1).code x b _ with | some (.normal, s) => (run P K m1).code x (.loop b) s | r => r) = _
          rw [h1]
        | exit i =>
          refine ⟨m1 + 1, .exit i, s1, ?_, h2⟩
          show (match (run P K m1).code x b _ with | some (.normal, s) => (run P K m1).code x (.loop b) s | r => r) = _
          rw [h1]
        | panic c =>
          refine ⟨m1 + 1, .panic c, s1, ?_, h2⟩
          show (match (run P K m1).code x b _ with | some (.normal, s) => (run P K m1).code x (.loop b) s | r => r) = _
          rw [h1]
    exact key F t h r e
  | rangeFunc f params assign body _ _ =>
    intro kn ke v t h r e
    have e : (bif opOK P f then (⟨rangeK P N f params assign body⟩ : Bx (KOp β)) else ⟨fun _ _ _ _ _ _ _ => none⟩).f C x t h r kn ke = some v := e
    cases hk : opOK P f with
    | false => rw [hk] at e; cases e
    | true =>
      rw [hk] at e; simp only [cond_true] at e
      unfold rangeK at e
      have fin : ∀ m e1 s1, rangeFuncB P (run P K m) x (FS.st N ⟨t, r.df, r.up, h⟩) f params assign body = some (e1, s1.st N) → goK kn ke e1 s1 = some v → Does P K x N (.rangeFunc f params assign body) t h r kn ke v := fun m e1 s1 h1 h2 => ⟨m + 1, e1, s1, h1, h2⟩
      unfold rangeFuncB at fin
      cases he : enterLoopB x (FS.st N ⟨t, r.df, r.up, h⟩) params assign body with
      | none => rw [he] at e; cases e
      | some p =>
        obtain ⟨l, mark, h1⟩ := p
        rw [he] at e fin
        simp only [za1] at e
        simp only [hk, Bool.not_true, Bool.false_eq_true, if_false] at fin
        have hev : ev (FS.st N ⟨t, r.df, r.up, h⟩).tm f = ev (toArr N t) f := rfl
        cases hv : callValueB P (ev (toArr N t) f) #[.func (.yield l) #[] #[]] with
        | none => rw [hv] at e; cases e
        | some out =>
          rw [hv] at e
          cases out with
          | enter g args =>
            simp only [hev, hv] at fin
            simp only [] at e
            cases hc : C.call g args false .run h1 with
            | none => rw [hc] at e; cases e
            | some q =>
              obtain ⟨m1, hm1⟩ := hC.call _ _ _ _ _ _ hc
              rw [hc] at e
              obtain ⟨e1, u, h2⟩ := q
              cases e1 with
              | panic c =>
                refine fin m1 (.panic c) ⟨t, mark ++ r.df, r.up, h2⟩ ?_ e
                rw [hm1]; rfl
              | ret w =>
                simp only [] at e
                unfold pendK at e
                cases hl : loopB h2 l with
                | none => rw [hl] at e; cases e
                | some q =>
                  rw [hl] at e; simp only [] at e
                  cases hb : (q.state == .busy) with
                  | true => rw [hb] at e; cases e
                  | false =>
                    rw [hb] at e; simp only [cond_false] at e
                    cases hp : q.pending with
                    | none =>
                      rw [hp] at e
                      refine fin m1 .normal ⟨t, mark ++ r.df, r.up, h2.set l (.obj (.loop { q with state := .exhausted, pending := none }))⟩ ?_ e
                      rw [hm1]; simp only [hl, hb, hp, Bool.false_eq_true, if_false]; rfl
                    | some c =>
                      rw [hp] at e
                      cases c with
                      | ret =>
                        refine fin (m1 + 1) .ret ⟨t, mark ++ r.df, r.up, h2.set l (.obj (.loop { q with state := .exhausted, pending := some .ret }))⟩ ?_ e
                        rw [(zas P K (Nat.le_succ m1)).call _ _ _ _ _ _ hm1]; simp only [hl, hb, hp, Bool.false_eq_true, if_false]; rfl
                      | exit i =>
                        refine fin (m1 + 1) (.exit i) ⟨t, mark ++ r.df, r.up, h2.set l (.obj (.loop { q with state := .exhausted, pending := some (.exit i) }))⟩ ?_ e
                        rw [(zas P K (Nat.le_succ m1)).call _ _ _ _ _ _ hm1]; simp only [hl, hb, hp, Bool.false_eq_true, if_false]; rfl
                      | _ => cases e
          | _ => cases e
  | exit id => intro kn ke b t h r e; exact ⟨1, .exit id, ⟨t, r.df, r.up, h⟩, rfl, e⟩
  | scope b ih =>
    intro kn ke v t h r e
    obtain ⟨m, e1, s1, h1, h2⟩ := ih _ _ _ _ _ _ e
    exact ⟨m + 1, e1, s1, h1, h2⟩
  | label l => intro kn ke b t h r e; exact ⟨1, .normal, ⟨t, r.df, r.up, h⟩, rfl, e⟩
  | goto l => intro kn ke b t h r e; cases e
  | ret => intro kn ke b t h r e; exact ⟨1, .ret, ⟨t, r.df, r.up, h⟩, rfl, e⟩
  | refuse w => intro kn ke b t h r e; cases e
end
noncomputable def leaveK (P : Program) (C : RecK) (fn : Func) (N : Nat) (t : Vt) (h : Heap) (r : Rest) : Option (End × FrameMode × Heap) :=
  match r.df with
  | [] => retC r.up h (oneOrAll (resL P N fn.results.toList t h))
  | _ :: _ => endC r.up (leaveB P (recsOf (toC C)) fn (toArr N t) r.df .returning h)
noncomputable def leaveKe (P : Program) (C : RecK) (fn : Func) (N : Nat) (e : Ex) (t : Vt) (h : Heap) (r : Rest) : Option (End × FrameMode × Heap) :=
  match e with
  | .ret => leaveK P C fn N t h r
  | .panic ch => endC r.up (leaveB P (recsOf (toC C)) fn (toArr N t) r.df (.panicking ch) h)
  | _ => none
noncomputable def bodyK (P : Program) (F : Nat) (f : FuncId) : Bx (RecK → Array Value → Bool → FrameMode → Heap → Option (End × FrameMode × Heap)) :=
  match P.funcs[f]? with
  | none => ⟨fun _ _ _ _ _ => none⟩
  | some fn => match fn.body with
    | none => ⟨fun _ _ _ _ _ => none⟩
    | some c => ⟨fun C args dfr up h => bif Nat.ble (lenL args.toList) fn.ntmps then (codeK P (nOf P f) F c).f C { fn := f, round := none, dfr } (ofRow args.toList 0 .nil) h ⟨[], up⟩ (leaveK P C fn (nOf P f)) (leaveKe P C fn (nOf P f)) else none⟩
noncomputable def callK (P : Program) (K : Known) (F : Nat) (C : RecK) (f : FuncId) (args : Array Value) (dfr : Bool) (up : FrameMode) (h : Heap) : Option (End × FrameMode × Heap) :=
  match (bif dfr then none else K f args h) with
  | some r => some (.ret r.1, up, pushAll h r.2)
  | none => (bodyK P F f).f C args dfr up h
theorem zeL {P : Program} {K : Known} {C : RecK} (hC : OkK P K C) {fn : Func} {tm : Array Value} {ds : List Deferred} {u : FrameMode} {h : Heap} {r : End × Heap} (e : leaveB P (recsOf (toC C)) fn tm ds u h = some r) : ∃ m, leaveB P (run P K m) fn tm ds u h = some r :=
  zjo _ _ _ _ (zdg (R := recsOf (toC C)) (R' := lim P K) (fun f a d u h r e => by obtain ⟨m, hm⟩ := hC.call _ _ _ _ _ _ e; exact zif hm) _ _ _ _ e)
theorem zkM {P : Program} {K : Known} {C : RecK} (hC : OkK P K C) {fn : Func} {N : Nat} {t : Vt} {h : Heap} {r : Rest} {q : End × FrameMode × Heap} (e : leaveK P C fn N t h r = some q) : ∃ m, (leaveB P (run P K m) fn (toArr N t) r.df .returning h).map (fun p => (p.1, r.up, p.2)) = some q := by
  unfold leaveK at e
  cases hd : r.df with
  | nil =>
    rw [hd] at e; simp only [zko] at e
    refine ⟨0, ?_⟩
    unfold leaveB
    cases hr : resultsB P fn (toArr N t) h with
    | none => rw [hr] at e; cases e
    | some v => rw [hr] at e; cases e; rfl
  | cons d ds =>
    rw [hd] at e; simp only [] at e
    cases hl : leaveB P (recsOf (toC C)) fn (toArr N t) (d :: ds) .returning h with
    | none => rw [hl] at e; cases e
    | some p =>
      obtain ⟨m, hm⟩ := zeL hC hl
      refine ⟨m, ?_⟩
      rw [hm]; rw [hl] at e; cases e; rfl
theorem callK_ok {P : Program} {K : Known} {F : Nat} {C : RecK} (hC : OkK P K C) (f : FuncId) (args : Array Value) (dfr : Bool) (up : FrameMode) (h : Heap) (r : End × FrameMode × Heap) (e : callK P K F C f args dfr up h = some r) : ∃ m, (run P K m).call f args dfr up h = some r := by
  suffices hs : ∃ m, callF P K (run P K m) f args dfr up h = some r by obtain ⟨m, hm⟩ := hs; exact ⟨m + 1, hm⟩
  simp only [← zem]
  unfold callK at e; unfold callFF
  cases hk : (bif dfr then none else K f args h) with
  | some q => rw [hk] at e; exact ⟨0, e⟩
  | none =>
    rw [hk] at e; simp only [] at e ⊢
    unfold bodyK at e; unfold bodyF
    cases hf : P.funcs[f]? with
    | none => rw [hf] at e; cases e
    | some fn =>
      rw [hf] at e; simp only [] at e ⊢
      cases hb : fn.body with
      | none => rw [hb] at e; cases e
      | some c =>
        rw [hb] at e; simp only [zbB] at e ⊢
        cases hl : Nat.ble args.toList.length fn.ntmps with
        | false => rw [hl] at e; cases e
        | true =>
          rw [hl] at e; simp only [cond_true] at e
          have hN : nOf P f = fn.ntmps := by unfold nOf; rw [hf]
          have htm : (⟨appendF args.toList (undefs (fn.ntmps - args.size))⟩ : Array Value) = toArr (nOf P f) (ofRow args.toList 0 .nil) := by
            rw [zbK _ _ (by rw [hN]; exact Nat.le_of_ble_eq_true hl), hN]
            apply Array.ext'; simp [zcA, zdO]
          obtain ⟨m1, e1, s1, h1, h2⟩ := zc6 hC (x := { fn := f, round := none, dfr }) c _ _ _ _ _ _ e
          have h1 : (run P K m1).code { fn := f, round := none, dfr } c ⟨toArr (nOf P f) (ofRow args.toList 0 .nil), [], up, h⟩ = some (e1, s1.st (nOf P f)) := h1
          rw [htm]
          have lo : leaveK P C fn (nOf P f) s1.t s1.h ⟨s1.df, s1.up⟩ = some r → ∃ m, (leaveB P (run P K m) fn (s1.st (nOf P f)).tm (s1.st (nOf P f)).df .returning (s1.st (nOf P f)).h).map (fun p => (p.1, (s1.st (nOf P f)).up, p.2)) = some r := fun q => zkM hC q
          have join : ∀ {α : Type} {u : FrameMode} {m2 : Nat} {ds : List Deferred} {tm : Array Value} {hh : Heap} {g : End × Heap → α} {a : α}, (leaveB P (run P K m2) fn tm ds u hh).map g = some a → (leaveB P (run P K (max m1 m2)) fn tm ds u hh).map g = some a := by
            intro α u m2 ds tm hh g a q
            cases hc : leaveB P (run P K m2) fn tm ds u hh with
            | none => rw [hc] at q; cases q
            | some p => rw [zbt (zas P K (Nat.le_max_right m1 m2)) _ _ _ _ hc]; rw [hc] at q; exact q
          cases e1 with
          | normal =>
            obtain ⟨m2, hm2⟩ := lo h2
            refine ⟨max m1 m2, ?_⟩
            rw [(zas P K (Nat.le_max_left m1 m2)).code _ _ _ _ h1]
            exact join hm2
          | ret =>
            obtain ⟨m2, hm2⟩ := lo h2
            refine ⟨max m1 m2, ?_⟩
            rw [(zas P K (Nat.le_max_left m1 m2)).code _ _ _ _ h1]
            exact join hm2
          | exit i => cases h2
          | panic ch =>
            have h2 : endC s1.up (leaveB P (recsOf (toC C)) fn (toArr (nOf P f) s1.t) s1.df (.panicking ch) s1.h) = some r := h2
            cases hq : leaveB P (recsOf (toC C)) fn (toArr (nOf P f) s1.t) s1.df (.panicking ch) s1.h with
            | none => rw [hq] at h2; cases h2
            | some p =>
              obtain ⟨m2, hm2⟩ := zeL hC hq
              rw [hq] at h2
              refine ⟨max m1 m2, ?_⟩
              rw [(zas P K (Nat.le_max_left m1 m2)).code _ _ _ _ h1]
              refine join (m2 := m2) (u := .panicking ch) ?_
              show (leaveB P (run P K m2) fn (toArr (nOf P f) s1.t) s1.df (.panicking ch) s1.h).map _ = _
              rw [hm2]; cases h2; rfl
noncomputable def roundEndN (l : Nat) (_ : Vt) (h : Heap) (_ : Rest) : Option (End × Heap) := endRoundB l none h
noncomputable def roundEndE (l : Nat) (ok : Bool) (e : Ex) (_ : Vt) (h : Heap) (r : Rest) : Option (End × Heap) :=
  match e with
  | .ret => endRoundB l (some .ret) h
  | .exit id => endRoundB l (some (.exit id)) h
  | .panic c => if r.df.isEmpty && ok then some (.panic c, h) else none
  | .normal => none
noncomputable def roundMid (P : Program) (F : Nat) (C : RecK) (l : Nat) (fn : FuncId) (body : Code) (t : Vt) (h : Heap) (r : Rest) : Option (End × Heap) :=
  match loopB h l with
  | some r1 => bif r1.state == .ready then (codeK P (nOf P fn) F body).f C { fn, round := some l, dfr := false } t (h.set l (.obj (.loop { r1 with state := .busy }))) r (roundEndN l) (roundEndE l (P.funcs[fn]?).isSome) else none
  | none => none
noncomputable def roundK (P : Program) (F : Nat) (C : RecK) (l : Nat) (args : Array Value) (h : Heap) : Option (End × Heap) :=
  match loopB h l with
  | none => none
  | some r0 =>
    bif Nat.beq (lenL args.toList) r0.params.size then
    bif Nat.beq (lenL r0.tmps.toList) (nOf P r0.fn) then
    (codeK P (nOf P r0.fn) F r0.assign).f C { fn := r0.fn, round := some l, dfr := false } (setsC (nOf P r0.fn) (r0.params.toList.zip args.toList) (ofRow r0.tmps.toList 0 .nil)) h ⟨[], .run⟩ (roundMid P F C l r0.fn r0.body) (fun _ _ _ _ => none)
    else none
    else none
theorem zkk {P : Program} {K : Known} {F : Nat} {C : RecK} (hC : OkK P K C) (l : Nat) (args : Array Value) (h : Heap) (r : End × Heap) (e : roundK P F C l args h = some r) : ∃ m, (run P K m).round l args h = some r := by
  suffices hs : ∃ m, roundF P (run P K m) l args h = some r by obtain ⟨m, hm⟩ := hs; exact ⟨m + 1, hm⟩
  unfold roundK at e; unfold roundF
  cases hl : loopB h l with
  | none => rw [hl] at e; cases e
  | some r0 =>
    rw [hl] at e; simp only [zbB] at e ⊢
    cases h1 : Nat.beq args.toList.length r0.params.size with
    | false => rw [h1] at e; cases e
    | true =>
      rw [h1] at e; simp only [cond_true] at e
      have h1' : args.size = r0.params.size := Nat.eq_of_beq_eq_true h1
      have h1'' : ¬ args.size ≠ r0.params.size := fun q => q h1'
      simp only [if_neg h1'']
      cases h2 : Nat.beq r0.tmps.toList.length (nOf P r0.fn) with
      | false => rw [h2] at e; cases e
      | true =>
        rw [h2] at e; simp only [cond_true] at e
        have h2' : r0.tmps.toList.length = nOf P r0.fn := Nat.eq_of_beq_eq_true h2
        have htm : (r0.params.zip args).foldl (fun tm (t, a) => tm.setIfInBounds t a) r0.tmps = toArr (nOf P r0.fn) (setsC (nOf P r0.fn) (r0.params.toList.zip args.toList) (ofRow r0.tmps.toList 0 .nil)) := by
          rw [zh0, zbK _ _ (by omega), h2', Nat.sub_self]
          rw [← Array.foldl_toList, Array.toList_zip]
          congr 1
        rw [htm]
        obtain ⟨m1, e1, s1, h3, h4⟩ := zc6 hC (x := { fn := r0.fn, round := some l, dfr := false }) _ _ _ _ _ _ _ e
        have h3 : (run P K m1).code { fn := r0.fn, round := some l, dfr := false } r0.assign ⟨toArr (nOf P r0.fn) (setsC (nOf P r0.fn) (r0.params.toList.zip args.toList) (ofRow r0.tmps.toList 0 .nil)), [], .run, h⟩ = some (e1, s1.st (nOf P r0.fn)) := h3
        cases e1 with
        | normal =>
          have h4 : roundMid P F C l r0.fn r0.body s1.t s1.h ⟨s1.df, s1.up⟩ = some r := h4
          unfold roundMid at h4
          cases hl1 : loopB s1.h l with
          | none => rw [hl1] at h4; cases h4
          | some r1 =>
            rw [hl1] at h4; simp only [] at h4
            cases hb : (r1.state == .ready) with
            | false => rw [hb] at h4; cases h4
            | true =>
              rw [hb] at h4; simp only [cond_true] at h4
              obtain ⟨m2, e2, s2, h5, h6⟩ := zc6 hC (x := { fn := r0.fn, round := some l, dfr := false }) _ _ _ _ _ _ _ h4
              refine ⟨max m1 m2, ?_⟩
              rw [(zas P K (Nat.le_max_left m1 m2)).code _ _ _ _ h3]
              show (match loopB s1.h l with | some r1 => _ | none => none) = _
              rw [hl1]; simp only [hb, if_true]
              have h5' := (zas P K (Nat.le_max_right m1 m2)).code _ _ _ _ h5
              have h5' : (run P K (max m1 m2)).code { fn := r0.fn, round := some l, dfr := false } r0.body { s1.st (nOf P r0.fn) with h := s1.h.set l (.obj (.loop { r1 with state := .busy })) } = some (e2, s2.st (nOf P r0.fn)) := h5'
              have e0 : (s1.st (nOf P r0.fn)).h = s1.h := rfl
              simp only [e0]
              rw [h5']
              cases e2 with
              | normal => exact h6
              | ret => exact h6
              | exit i => exact h6
              | panic c => exact h6
        | _ => cases h4
noncomputable def runK (P : Program) (K : Known) (F : Nat) : Nat → RecK := @Nat.rec (fun _ => RecK) ⟨fun _ _ _ _ _ => none, fun _ _ _ => none⟩ (fun _ C => { call := callK P K F C, round := roundK P F C })
theorem zkf (P : Program) (K : Known) (F : Nat) : ∀ n, OkK P K (runK P K F n) := by
  intro n
  induction n with
  | zero => exact ⟨fun _ _ _ _ _ _ h => (by cases h), fun _ _ _ _ h => (by cases h)⟩
  | succ n ih => exact ⟨fun f a d u h r e => callK_ok ih f a d u h r e, fun l a h r e => zkk ih l a h r e⟩
end Go.AX

namespace Go.AX
def plainE (P : Program) (eV : Operand → Value) (o : Oper) : Option Value :=
  if plainKind o && o.op.operands.toList.all (fun x => plain deep (eV x)) then
    match pe P (execOp eV o) with
    | some (.value v) => if plain deep v then some v else none
    | _ => none
  else none
def convertE (P : Program) (eV : Operand → Value) (h : Heap) (o : Oper) (src dst : TypeId) (x : Value) : Option (Value × Heap) :=
  match x with
  | .slice a len _ =>
    match P.underlying src, P.underlying dst with
    | some (.slice e), some .string =>
      match P.underlying e, rowB h 1 len (.slice a len 0) with
      | some (.int .u8), some c => if sizeB P e != some 1 then none else (strOf c .empty).map fun s => (.string s, h)
      | _, _ => none
    | _, _ => none
  | .string s =>
    match P.underlying dst with
    | some (.slice e) =>
      match P.underlying e with
      | some (.int .u8) => if sizeB P e != some 1 || (P.underlying src).isNone then none else some (.slice (some ⟨h.n, 0, none⟩) s.size anyCap, h.push (.cells (s.data.toList.map fun b => .int .u8 b.toNat) e true))
      | _ => none
    | _ => (plainE P eV o).map fun v => (v, h)
  | _ => (plainE P eV o).map fun v => (v, h)
def indexE (P : Program) (eV : Operand → Value) (o : Oper) (t : TypeId) (x i : Value) : Option Value :=
  match plainE P eV o with
  | some v => some v
  | none => indexB P t x i
def simpleE (P : Program) (eV : Operand → Value) (h : Heap) (o : Oper) : Option (Value × Heap) :=
  let one (v : Option Value) : Option (Value × Heap) := v.map fun v => (v, h)
  match o.op with
  | .move x | .assign x => some (eV x, h)
  | .pick c a b => match eV c with | .bool t => some (if t then eV a else eV b, h) | _ => none
  | .alloc e => match zeroB P e with | some z => boxB P h e z | none => none
  | .box e x => boxB P h e (eV x)
  | .build t parts => one (fillB P t (parts.toList.map fun (i, x) => (i, eV x)))
  | .buildSlice t len parts => buildSliceB P h t len (parts.toList.map fun (i, x) => (i, eV x))
  | .load t a => one (readB P h t (eV a))
  | .nilCheck x => match eV x with | .pointer (some a) => some (.pointer (some a), h) | .iface t v => some (.iface t v, h) | .func (.func f) a b => some (.func (.func f) a b, h) | _ => none
  | .makeInterface t x => match P.underlying t with | some (.interface _) | none => none | some _ => some (.iface t (eV x), h)
  | .makeFunc fn first captured => match fn with | .yield _ => none | fn => some (.func fn (first.map eV) (captured.map eV), h)
  | .makeMap _ none => some (.map (some h.n), h.push (.obj (.map #[] 0)))
  | .makeSlice t l c => makeSliceB P h t (eV l) (eV c)
  | .slice t x lo hi mx => match eV x with
    | .string _ => one (plainE P eV o)
    | x => one (sliceB P t x (lo.map eV) (hi.map eV) (mx.map eV))
  | .fieldAddr t x f => one (fieldAtB P t (eV x) f)
  | .field t x f => one (fieldB P t (eV x) f)
  | .indexAddr t x i => one (indexAtB P t (eV x) (eV i))
  | .sliceToArrayPointer t x => one (arrayAtB P t (eV x))
  | .extract t i => match eV t with | .tuple vs => one vs[i]? | _ => none
  | .lookup t m k ok => one (lookupB P h t (eV m) (eV k) ok)
  | .range t x => rangeB P h t (eV x)
  | .typeAssert x _ asserted ok => one (assertB P (eV x) asserted ok)
  | .binOp op t x y _ => match plainE P eV o with
    | some v => some (v, h)
    | none => match op with
      | .eql => one ((nilEqB P t (eV x) (eV y)).map .bool)
      | .neq => one ((nilEqB P t (eV x) (eV y)).map fun b => .bool (!b))
      | _ => none
  | .call { callee := .builtin .len, args, argTypes } =>
    match argTypes[0]?, args[0]? with
    | some t, some x => match P.underlying t, eV x with
      | some (.slice _), .slice _ n _ => some (goInt n, h)
      | some (.map _ _), .map (some _) => one ((mapOf h (eV x)).map fun r => goInt r.2.1.size)
      | some (.array n _), _ => some (goInt n, h)
      | _, _ => one (plainE P eV o)
    | _, _ => none
  | .call { callee := .builtin .cap, args, argTypes } =>
    match argTypes[0]?, args[0]? with
    | some t, some x => match P.underlying t, eV x with
      | some (.slice _), .slice _ _ c => if c < unk then some (goInt c, h) else none
      | _, _ => none
    | _, _ => none
  | .convert src dst x => convertE P eV h o src dst (eV x)
  | .unOp .. => one (plainE P eV o)
  | .index t x i => one (indexE P eV o t (eV x) (eV i))
  | .call { callee := .builtin .min, .. } | .call { callee := .builtin .max, .. } => one (plainE P eV o)
  | _ => none
def effectE (P : Program) (eV : Operand → Value) (h : Heap) (o : Oper) : Option (Out × Heap) :=
  let vh (r : Option (Value × Heap)) : Option (Out × Heap) := r.map fun (v, h) => (.val v, h)
  let hh (r : Option Heap) : Option (Out × Heap) := r.map fun h => (.val undef, h)
  match o.op with
  | .store t a x => hh (writeB P h t (eV x) (eV a))
  | .mapUpdate t m k v | .insert t m k v => hh (mapUpdateB P h t (eV m) (eV k) (eV v))
  | .mapEntry t m k => vh (mapEntryB P h t (eV m) (eV k))
  | .entryStore _ m s v => hh (entryStoreB h (eV m) (eV s) (eV v))
  | .next it isS => vh (nextB h (eV it) isS)
  | .panic x => match eV x with | .iface t v => some (.panic (.iface t v), h) | _ => none
  | .call { callee := .builtin .append, args, argTypes } =>
    match args[0]?, args[1]? with
    | some x, some y => vh (appendB P h argTypes (eV x) (eV y))
    | _, _ => none
  | .call { callee := .builtin .copy, args, argTypes } =>
    match args[0]?, args[1]? with
    | some x, some y => vh (copyB P h argTypes (eV x) (eV y))
    | _, _ => none
  | .call { callee := .builtin .clear, args, argTypes } =>
    match args[0]? with
    | some x => vh (clearB P h argTypes (eV x))
    | none => none
  | .call { callee := .builtin .delete, args, argTypes } =>
    match args[0]?, args[1]? with
    | some x, some y => vh (deleteB P h argTypes (eV x) (eV y))
    | _, _ => none
  | .call { callee := .builtin .panic, args, .. } =>
    match args[0]? with
    | some x => match eV x with | .iface t v => some (.panic (.iface t v), h) | _ => none
    | none => none
  | .call { callee := .builtin .recover, .. } => some (.recover, h)
  | .call { callee := .value f, args, .. } => (callValueB P (eV f) (args.map eV)).map fun r => (r, h)
  | .call { callee := .invoke r name, args, .. } => (callMethodB P (eV r) name (args.map eV)).map fun r => (r, h)
  | .defer { callee := .value f, args, .. } =>
    match eV f with
    | .func (.func g) first captured => some (.defer { target := .fn (.func g) captured, args := first ++ args.map eV }, h)
    | _ => none
  | _ => none
theorem zdY (P : Program) (tm : Array Value) (o : Oper) : plainE P (ev tm) o = plainOp P tm o := rfl
theorem zhF (P : Program) (tm : Array Value) (h : Heap) (o : Oper) (a b : TypeId) (x : Value) : convertE P (ev tm) h o a b x = convertB P tm h o a b x := rfl
theorem zkU (P : Program) (tm : Array Value) (o : Oper) (t : TypeId) (x i : Value) : indexE P (ev tm) o t x i = indexV P tm o t x i := rfl
theorem zi0 (P : Program) (tm : Array Value) (h : Heap) (o : Oper) : simpleE P (ev tm) h o = simpleB P tm h o := by
  unfold simpleE simpleB; rfl
theorem zjy (P : Program) (tm : Array Value) (h : Heap) (o : Oper) : effectE P (ev tm) h o = effectB P tm h o := by
  unfold effectE effectB; rfl
noncomputable def evE (N : Nat) (t : Vt) (x : Operand) : Value := (evC N x).f t
theorem zeR (N : Nat) (t : Vt) : evE N t = ev (toArr N t) := by funext x; exact za1 ..
noncomputable def binE (P : Program) (e : Operand → Value) (o : Oper) (op : BinOp) (t : TypeId) (x y : Operand) : Option Value :=
  match fastOp op (e x) (e y) with
  | some v => some v
  | none => match plainE P e o with
    | some v => some v
    | none => match op with
      | .eql => (nilEqB P t (e x) (e y)).map .bool
      | .neq => (nilEqB P t (e x) (e y)).map fun b => .bool (!b)
      | _ => none
theorem zlj (P : Program) (N : Nat) (t : Vt) (o : Oper) (op : BinOp) (ty : TypeId) (x y : Operand) : binE P (evE N t) o op ty x y = binF P (toArr N t) o op ty x y := by
  rw [zeR]; unfold binE binF; simp only [zaQ, zdY]; rfl
noncomputable def lenE (P : Program) (e : Operand → Value) (h : Heap) (o : Oper) (t : TypeId) (v : Value) : Option Value :=
  match P.underlying t, v with
  | some (.slice _), .slice _ n _ => some (goInt n)
  | some (.map _ _), .map (some _) => (mapOf h v).map fun r => goInt r.2.1.size
  | some (.array n _), _ => some (goInt n)
  | _, _ => plainE P e o
theorem lenE_eq (P : Program) (N : Nat) (t : Vt) (h : Heap) (o : Oper) (ty : TypeId) (v : Value) : lenE P (evE N t) h o ty v = lenF P (toArr N t) h o ty v := by
  rw [zeR]; unfold lenE lenF; simp only [zdY]; rfl
section
variable {β : Type}
noncomputable def genW (P : Program) (N : Nat) (o : Oper) (C : RecK) (x : Ctx) (t : Vt) (h : Heap) (r : Rest) (kn : Vt → Heap → Rest → Option β) (ke : Ex → Vt → Heap → Rest → Option β) : Option β :=
  match simpleE P (evE N t) h o with
  | some (v, h) => kn ((putC N o.dst).f t v) h r
  | none => bif isSimple o then none else finK (putC N o.dst) (actC (toC C) x ⟨t, r.df, r.up, h⟩ (effectE P (evE N t) h o)) kn ke
theorem zhv (P : Program) (N : Nat) (o : Oper) (hs : (opC P N o).f = fun C x s => slowC P N C x s o) : genW (β := β) P N o = genK P N o := by
  funext C x t h r kn ke
  unfold genW genK
  rw [hs]
  simp only [zeR, zi0, zjy]
  unfold slowC
  show _ = finK _ (match simpleB P (toArr N t) h o with | some (v, h) => _ | none => bif isSimple o then none else actC (toC C) x ⟨t, r.df, r.up, h⟩ (effectB P (toArr N t) h o)) kn ke
  cases simpleB P (toArr N t) h o with
  | some p => rfl
  | none => cases isSimple o <;> rfl
end
end Go.AX

namespace Go.AX
open Instr
theorem zdZ {P : Program} {e : Bool} {d : Nat} {t : TypeId} {k : IntKind} {a : Int} (h : P.underlying t = some (.int k)) : pe P (checkKey e (d + 1) t (.int .i64 a)) = some () := by
  unfold checkKey
  refine (zam (zaL h)).trans ?_
  rfl
theorem zf0 {P : Program} {em : Bool} {d : Nat} {t : TypeId} {a b : Int} (h : spanT P t = true) : pe P (checkKey em (d + 2) t (.agg #[.int .i64 a, .int .i64 b])) = some () := by
  unfold spanT at h
  split at h
  · rename_i fs hu
    obtain ⟨l⟩ := fs
    simp only at h
    split at h
    · rename_i f g
      simp only [Bool.and_eq_true, bne_iff_ne, Bool.not_eq_true'] at h
      obtain ⟨⟨⟨⟨⟨⟨hf, hg⟩, ho⟩, ho'⟩, hs⟩, ht⟩, ht'⟩ := h
      have ho := Nat.eq_of_beq_eq_true ho
      have ho' := Nat.eq_of_beq_eq_true ho'
      split at ht
      · rename_i k hk
        split at ht'
        · rename_i k' hk'
          unfold checkKey
          refine (zam (zaL hu)).trans ?_
          dsimp only
          refine (zam (a := PUnit.unit) ?_).trans rfl
          rw [List.forIn_toArray, List.forIn_cons]
          have p0 : pe P (part f.type #[Value.int .i64 a, Value.int .i64 b] f.offset) = some (.int .i64 a) := zcn hk (by rw [ho]; rfl)
          have q0 : pe P (part g.type #[Value.int .i64 a, Value.int .i64 b] g.offset) = some (.int .i64 b) := zcn hk' (by rw [ho']; rfl)
          rw [if_pos hf]
          refine (zam (a := .yield ()) ?_).trans ?_
          · refine (zam p0).trans ?_
            exact (zam (zdZ hk)).trans rfl
          · dsimp only
            rw [List.forIn_cons, if_pos hg]
            refine (zam (a := .yield ()) ?_).trans ?_
            · refine (zam q0).trans ?_
              exact (zam (zdZ hk')).trans rfl
            · rfl
        · cases ht'
      · cases ht
    · cases h
  · cases h
noncomputable def keyOf (v : Value) : Option (Int × Int) :=
  match v with
  | .agg cs => match cs.toList with
    | [.int .i64 a, .int .i64 b] => some (a, b)
    | _ => none
  | _ => none
theorem zih {v : Value} {p : Int × Int} (h : keyOf v = some p) : v = .agg #[.int .i64 p.1, .int .i64 p.2] := by
  unfold keyOf at h
  split at h
  · rename_i cs
    obtain ⟨l⟩ := cs
    simp only at h
    split at h
    · cases h; subst_vars; rfl
    · cases h
  · cases h
noncomputable def findP (a b : Int) : List MapEntry → Nat → Option (Option (Nat × Value)) :=
  @List.rec MapEntry (fun _ => Nat → Option (Option (Nat × Value))) (fun _ => some none)
    (fun e _ ih i => match keyOf e.key with | some p => bif eqF a p.1 && eqF b p.2 then some (some (i, e.val)) else ih (i + 1) | none => none)
theorem zee {P : Program} {t : TypeId} {a b : Int} (h : spanT P t = true) : ∀ (es : List MapEntry) (i : Nat) r, findP a b es i = some r → pe P (findAsking t (.agg #[.int .i64 a, .int .i64 b]) (es.map bareE) i) = some (r.map fun q => (q.1, Value.bool false)) := by
  intro es
  induction es with
  | nil => intro i r e; cases e; rfl
  | cons x es ih =>
    intro i r e
    have e : (match keyOf x.key with | some p => bif eqF a p.1 && eqF b p.2 then some (some (i, x.val)) else findP a b es (i + 1) | none => none) = some r := e
    cases hk : keyOf x.key with
    | none => rw [hk] at e; cases e
    | some p =>
      rw [hk] at e; simp only [zc3] at e
      have hx := zih hk
      rw [List.map_cons]
      unfold findAsking
      refine (zam (a := (a == p.1 && b == p.2)) ?_).trans ?_
      · show pe P (Op.equal t _ (bareE x).key) = _
        show pe P (Op.equal t _ x.key) = _
        rw [hx]
        exact zkv h
      · cases hb : (a == p.1 && b == p.2) with
        | true => rw [hb] at e; cases e; rfl
        | false =>
          rw [hb] at e
          simp only [Bool.false_eq_true, if_false]
          exact ih _ _ e
theorem findP_at {a b : Int} : ∀ (es : List MapEntry) (i : Nat) j v, findP a b es i = some (some (j, v)) → ∃ k e, j = i + k ∧ es[k]? = some e ∧ e.val = v := by
  intro es
  induction es with
  | nil => intro i j v e; cases e
  | cons x es ih =>
    intro i j v e
    have e : (match keyOf x.key with | some p => bif eqF a p.1 && eqF b p.2 then some (some (i, x.val)) else findP a b es (i + 1) | none => none) = some (some (j, v)) := e
    cases hk : keyOf x.key with
    | none => rw [hk] at e; cases e
    | some p =>
      rw [hk] at e; simp only [] at e
      cases hb : (eqF a p.1 && eqF b p.2) with
      | true => rw [hb] at e; cases e; exact ⟨0, x, rfl, rfl, rfl⟩
      | false =>
        rw [hb] at e
        obtain ⟨k, e', h1, h2, h3⟩ := ih _ _ _ e
        exact ⟨k + 1, e', by omega, by simpa using h2, h3⟩
theorem zjt {P : Program} {em : Bool} {t : TypeId} {a b : Int} (h : spanT P t = true) {es : List MapEntry} {r : Option (Nat × Value)} (e : findP a b es 0 = some r) : findB P em t (.agg #[.int .i64 a, .int .i64 b]) es = some r := by
  unfold findB
  rw [if_pos (by simp [plain, deep])]
  have hpe : pe P (do checkKey em 10000 t (.agg #[.int .i64 a, .int .i64 b]); findKey t (.agg #[.int .i64 a, .int .i64 b]) (es.map bareE)) = some (r.map fun q => (q.1, Value.bool false)) := by
    refine (zam (zf0 h)).trans ?_
    have hu : ∃ fs, P.underlying t = some (.struct fs) := by
      unfold spanT at h
      split at h
      · rename_i fs hu; exact ⟨fs, hu⟩
      · cases h
    obtain ⟨fs, hu⟩ := hu
    unfold findKey
    refine (zam (zaL hu)).trans ?_
    cases es with
    | nil => cases e; rfl
    | cons x es =>
      have : findNow (.struct fs) (.agg #[.int .i64 a, .int .i64 b]) ((x :: es).map bareE) 0 = none := by
        rw [List.map_cons]; unfold findNow; rfl
      rw [this]
      exact zee h _ _ _ e
  rw [hpe]
  cases r with
  | none => rfl
  | some q =>
    obtain ⟨j, v⟩ := q
    obtain ⟨k, x, h1, h2, h3⟩ := findP_at _ _ _ _ e
    have : j = k := by omega
    subst this
    simp only [Option.map_some, h2, h3]
noncomputable def findM (P : Program) (em : Bool) (kt : TypeId) : Bx (Value → List MapEntry → Option (Option (Nat × Value))) :=
  bif spanT P kt then ⟨fun k es => match keyOf k with
    | some p => (match findP p.1 p.2 es 0 with | some r => some r | none => findB P em kt k es)
    | none => findB P em kt k es⟩
  else ⟨fun k es => findB P em kt k es⟩
theorem findM_eq (P : Program) (em : Bool) (kt : TypeId) (k : Value) (es : List MapEntry) : (findM P em kt).f k es = findB P em kt k es := by
  unfold findM
  cases hs : spanT P kt with
  | false => rfl
  | true =>
    simp only [cond_true]
    cases hk : keyOf k with
    | none => rfl
    | some p =>
      simp only []
      cases hf : findP p.1 p.2 es 0 with
      | none => rfl
      | some r => rw [zih hk]; exact (zjt hs hf).symm
noncomputable def rowsM (h : Heap) (m : Value) : Option (List MapEntry) :=
  match m with
  | .map none => some []
  | .map (some r) => match hGet h r with
    | some (.obj (.map es _)) => some es.toList
    | _ => none
  | _ => none
noncomputable def lookM (z : Value) (ok : Bool) (r : Option (Option (Nat × Value))) : Option Value :=
  match r with
  | some (some (_, v)) => some (if ok then .tuple #[v, .bool true] else v)
  | some none => some (if ok then .tuple #[z, .bool false] else z)
  | none => none
noncomputable def isNilL (l : List MapEntry) : Bool := match l with | [] => true | _ => false
noncomputable def lookupM (P : Program) (t : TypeId) (ok : Bool) : Bx (Heap → Value → Value → Option Value) :=
  match P.underlying t with
  | some (.map kt e) => match zeroB P e with
    | some z => withB (findM P true kt) fun ft => withB (findM P false kt) fun ff => ⟨fun h m k => match rowsM h m with
      | some es => lookM z ok (@Bool.rec (fun _ => Option (Option (Nat × Value))) (ff k es) (ft k es) (isNilL es))
      | none => none⟩
    | none => ⟨fun _ _ _ => none⟩
  | _ => ⟨fun _ _ _ => none⟩
theorem zjn (P : Program) (t : TypeId) (ok : Bool) (h : Heap) (m k : Value) : (lookupM P t ok).f h m k = lookupB P h t m k ok := by
  unfold lookupM lookupB
  cases hu : P.underlying t with
  | none => rfl
  | some d =>
    cases d with
    | map kt e =>
      simp only []
      have hr : mapRows h m = (rowsM h m).map List.toArray := by
        unfold mapRows rowsM mapOf
        cases m with
        | map r =>
          cases r with
          | none => rfl
          | some r =>
            simp only [zfo]
            cases h.get? r with
            | none => rfl
            | some b => cases b with
              | obj o => cases o <;> rfl
              | _ => rfl
        | _ => rfl
      cases hz : zeroB P e with
      | none => rw [hr]; cases rowsM h m <;> rfl
      | some z =>
        simp only [zaq, findM_eq]
        rw [hr]
        cases rowsM h m with
        | none => rfl
        | some es =>
          simp only [Option.map_some]
          have : isNilL es = es.toArray.isEmpty := by cases es <;> rfl
          rw [← this]
          cases isNilL es with
          | true => simp only []; cases findB P true kt k es with
            | none => rfl
            | some r => cases r <;> rfl
          | false => simp only []; cases findB P false kt k es with
            | none => rfl
            | some r => cases r <;> rfl
    | _ => rfl
end Go.AX

namespace Go.AX
def intsT (P : Program) (t : TypeId) (n : Nat) : Bool :=
  match P.underlying t with
  | some (.struct fs) => fs.toList.map (·.offset) == List.range n && fs.toList.all (fun f => f.name != "_" && (match P.underlying f.type with | some (.int _) => true | _ => false)) && !P.stoodInHeld t && !(P.eqGuardType P.depth t)
  | _ => false
theorem zku {β : Type} {P : Program} {body : β → Option Bool × PUnit → Sem (ForInStep (Option Bool × PUnit))} {ok : β → Bool} : ∀ {l : List β},
    (∀ f ∈ l, pe P (body f (none, ())) = some (if ok f then .yield (none, ()) else .done (some false, ()))) → pe P (forIn l (none, ()) body) = some (if l.all ok then (none, ()) else (some false, ())) := by
  intro l
  induction l with
  | nil => intro _; rfl
  | cons a l ih =>
    intro h
    rw [List.forIn_cons]
    refine (zam (h a (List.mem_cons_self ..))).trans ?_
    cases ha : ok a with
    | true =>
      simp only [if_true, List.all_cons, ha, Bool.true_and]
      exact ih fun f q => h f (List.mem_cons_of_mem _ q)
    | false => simp [ha]; rfl
theorem zij {l : List Int} {o : Nat} (h : o < l.length) : (ints l).toArray[o]? = some (.int .i64 (l.getD o 0)) := by
  rw [List.getElem?_toArray]; exact zar h
theorem zfZ {P : Program} {d : Nat} {t : TypeId} {n : Nat} {a b : List Int} (h : intsT P t n = true) (ha : a.length = n) (hb : b.length = n) : pe P (Op.equalIn (d + 2) t (.agg (ints a).toArray) (.agg (ints b).toArray)) = some (decide (a = b)) := by
  unfold intsT at h
  split at h
  · rename_i fs hu
    obtain ⟨l⟩ := fs
    simp only [Bool.and_eq_true, Bool.not_eq_true', List.all_eq_true, beq_iff_eq] at h
    obtain ⟨⟨⟨h1, h2⟩, h3⟩, _⟩ := h
    unfold Op.equalIn
    refine (zam (zaL hu)).trans ?_
    dsimp only
    refine (zam (a := P) rfl).trans ?_
    rw [h3]
    simp only [Bool.false_eq_true, if_false]
    rw [List.forIn_toArray]
    refine (zam (zku (ok := fun f => a.getD f.offset 0 == b.getD f.offset 0) ?_)).trans ?_
    · intro f hf
      obtain ⟨hn, ht⟩ := h2 f hf
      have ho : f.offset < n := by
        have : f.offset ∈ List.range n := by rw [← h1]; exact List.mem_map_of_mem hf
        exact List.mem_range.1 this
      split at ht
      · rename_i k hk
        rw [if_pos (by simpa using hn)]
        have p0 : pe P (part f.type (ints a).toArray f.offset) = some (.int .i64 (a.getD f.offset 0)) := zcn hk (zij (by omega))
        have p1 : pe P (part f.type (ints b).toArray f.offset) = some (.int .i64 (b.getD f.offset 0)) := zcn hk (zij (by omega))
        refine (zam p0).trans ((zam p1).trans ((zam (zcw hk)).trans ?_))
        cases hc : (a.getD f.offset 0 == b.getD f.offset 0) <;> rfl
      · cases ht
    · have e : (l.all fun f => a.getD f.offset 0 == b.getD f.offset 0) = decide (a = b) := by
        have e1 : (l.all fun f => a.getD f.offset 0 == b.getD f.offset 0) = ((l.map (·.offset)).all fun o => a.getD o 0 == b.getD o 0) := by rw [List.all_map]; rfl
        rw [e1, h1]
        by_cases hab : a = b
        · subst hab; simp
        · rw [decide_eq_false hab, Bool.eq_false_iff]
          intro hall
          refine hab (List.ext_getElem (by omega) fun i q1 q2 => ?_)
          rw [List.all_eq_true] at hall
          have := hall i (List.mem_range.2 (by omega))
          simpa [List.getD_eq_getElem?_getD, q1, q2] using this
      rw [e]
      by_cases hab : a = b
      · rw [decide_eq_true hab]; rfl
      · rw [decide_eq_false hab]; rfl
  · cases h
theorem zhs {P : Program} {t : TypeId} {n : Nat} (h : intsT P t n = true) : P.eqGuardType P.depth t = false := by
  unfold intsT at h
  split at h
  · simp only [Bool.and_eq_true, Bool.not_eq_true'] at h; exact h.2
  · cases h
theorem zk3 {P : Program} {tm : Array Value} {o : Oper} {t yt : TypeId} {x y : Operand} {n : Nat} {a b : List Int} (neg : Bool) (ho : o.op = .binOp (if neg then .neq else .eql) t x y yt) (hx : ev tm x = .agg (ints a).toArray) (hy : ev tm y = .agg (ints b).toArray)
    (hs : intsT P t n = true) (ha : a.length = n) (hb : b.length = n) : plainOp P tm o = some (.bool (if neg then !decide (a = b) else decide (a = b))) := by
  have hq := zhs hs
  have hpl : ∀ l : List Int, (ints l).all (plain 8) = true := by intro l; simp [ints, plain]
  have hp : (plainKind o && o.op.operands.toList.all fun x => plain deep (ev tm x)) = true := by
    have e1 : plain deep (.agg (ints a).toArray) = true := hpl a
    have e2 : plain deep (.agg (ints b).toArray) = true := hpl b
    simp [plainKind, ho, Op.operands, hx, hy, e1, e2]
  unfold plainOp
  rw [if_pos hp]
  cases neg with
  | true =>
    simp only [if_true] at ho ⊢
    have he : execOp (ev tm) o = Sem.bind (do eqGuard .neq t x y (ev tm x) (ev tm y); binOp .neq t (ev tm x) (ev tm y)) fun v => .pure (Next.value v) := by
      unfold execOp; rw [ho]; rfl
    rw [he, hx, hy]
    have e1 : pe P (do eqGuard .neq t x y (.agg (ints a).toArray) (.agg (ints b).toArray); binOp .neq t (.agg (ints a).toArray) (.agg (ints b).toArray)) = some (.bool (!decide (a = b))) := by
      refine (zam (a := ()) ?_).trans ?_
      · unfold eqGuard
        simp only [Bool.not_true, Bool.false_eq_true, if_false]
        show pe P (if (!(P.eqGuardType P.depth t)) = true then _ else _) = _
        rw [hq]; rfl
      · show pe P (do pure (Value.bool (!(← Op.equal t (.agg (ints a).toArray) (.agg (ints b).toArray))))) = _
        exact (zam (zfZ hs ha hb)).trans rfl
    rw [(zam e1).trans rfl]
    rfl
  | false =>
    simp only [Bool.false_eq_true, if_false] at ho ⊢
    have he : execOp (ev tm) o = Sem.bind (do eqGuard .eql t x y (ev tm x) (ev tm y); binOp .eql t (ev tm x) (ev tm y)) fun v => .pure (Next.value v) := by
      unfold execOp; rw [ho]; rfl
    rw [he, hx, hy]
    have e1 : pe P (do eqGuard .eql t x y (.agg (ints a).toArray) (.agg (ints b).toArray); binOp .eql t (.agg (ints a).toArray) (.agg (ints b).toArray)) = some (.bool (decide (a = b))) := by
      refine (zam (a := ()) ?_).trans ?_
      · unfold eqGuard
        simp only [Bool.not_true, Bool.false_eq_true, if_false]
        show pe P (if (!(P.eqGuardType P.depth t)) = true then _ else _) = _
        rw [hq]; rfl
      · show pe P (do pure (Value.bool (← Op.equal t (.agg (ints a).toArray) (.agg (ints b).toArray)))) = _
        exact (zam (zfZ hs ha hb)).trans rfl
    rw [(zam e1).trans rfl]
    rfl
noncomputable def eqIL : List Value → List Value → Nat → Option Bool
  | [], l, n => match l, n with | [], 0 => some true | _, _ => none
  | v :: l, m, n => match v, m, n with
    | .int .i64 a, .int .i64 b :: m, n + 1 => match eqIL l m n with
      | some r => some (bif eqF a b then r else false)
      | none => none
    | _, _, _ => none
theorem zk4 : ∀ {l m : List Value} {n : Nat} {r : Bool}, eqIL l m n = some r → ∃ a b : List Int, l = ints a ∧ m = ints b ∧ a.length = n ∧ b.length = n ∧ r = decide (a = b) := by
  intro l
  induction l with
  | nil =>
    intro m n r e
    unfold eqIL at e
    split at e
    · cases e; exact ⟨[], [], rfl, rfl, rfl, rfl, rfl⟩
    · cases e
  | cons v l ih =>
    intro m n r e
    unfold eqIL at e
    split at e
    · rename_i a b m n
      cases hr : eqIL l m n with
      | none => rw [hr] at e; cases e
      | some q =>
        rw [hr] at e
        obtain ⟨as, bs, rfl, rfl, h1, h2, rfl⟩ := ih hr
        cases e
        refine ⟨a :: as, b :: bs, rfl, rfl, by simp [h1], by simp [h2], ?_⟩
        rw [zc3]
        by_cases hab : a = b
        · subst hab; simp
        · simp [hab]
    · cases e
noncomputable def aggL (v : Value) : Option (List Value) := match v with | .agg cs => some cs.toList | _ => none
noncomputable def aggQ (P : Program) (op : BinOp) (ty : TypeId) : Bx (Value → Value → Option Value → Option Value) :=
  match P.underlying ty with
  | some (.struct fs) => bif intsT P ty fs.size then
      (match op with
      | .eql => ⟨fun x y slow => match aggL x, aggL y with
        | some a, some b => (match eqIL a b fs.size with | some r => some (.bool r) | none => slow)
        | _, _ => slow⟩
      | .neq => ⟨fun x y slow => match aggL x, aggL y with
        | some a, some b => (match eqIL a b fs.size with | some r => some (.bool (bif r then false else true)) | none => slow)
        | _, _ => slow⟩
      | _ => ⟨fun _ _ slow => slow⟩)
    else ⟨fun _ _ slow => slow⟩
  | _ => ⟨fun _ _ slow => slow⟩
theorem zjv {op : BinOp} {x y w : Value} (h : fastOp op x y = some w) : ∃ n, x = .int .i64 n := by
  unfold fastOp at h
  split at h
  · rename_i k a k' b
    cases hk : i64 k with
    | false => simp [hk] at h
    | true => exact ⟨a, by cases k <;> simp_all [i64]⟩
  · cases h
theorem zdk {v : Value} {l : List Value} (h : aggL v = some l) : v = .agg l.toArray := by
  unfold aggL at h
  split at h
  · cases h; rfl
  · cases h
theorem aggQ_eq {P : Program} {tm : Array Value} {o : Oper} {op : BinOp} {ty yt : TypeId} {a b : Operand} {slow : Option Value} (ho : o.op = .binOp op ty a b yt) (hs : ∀ v, plainOp P tm o = some v → (∀ x, ev tm a ≠ .int .i64 x) → slow = some v) :
    (aggQ P op ty).f (ev tm a) (ev tm b) slow = slow := by
  unfold aggQ
  split
  · rename_i fs hu
    cases hi : intsT P ty fs.size with
    | false => rfl
    | true =>
      simp only [cond_true]
      cases op <;> try rfl
      · simp only []
        split
        · rename_i u v hu hv
          split
          · rename_i r hr
            obtain ⟨as, bs, rfl, rfl, h1, h2, rfl⟩ := zk4 hr
            refine (hs _ (zk3 false ho (zdk hu) (zdk hv) hi h1 h2) fun x q => ?_).symm
            rw [zdk hu] at q; cases q
          · rfl
        · rfl
      · simp only []
        split
        · rename_i u v hu hv
          split
          · rename_i r hr
            obtain ⟨as, bs, rfl, rfl, h1, h2, rfl⟩ := zk4 hr
            have := (hs _ (zk3 true ho (zdk hu) (zdk hv) hi h1 h2) fun x q => by rw [zdk hu] at q; cases q).symm
            simp only [if_true] at this
            rw [← this]
            cases decide (as = bs) <;> rfl
          · rfl
        · rfl
  · rfl
end Go.AX

namespace Go.AX
theorem zdU {γ : Type} (b : Bool) (x y : γ) : @Bool.rec (fun _ => γ) y x b = bif b then x else y := by cases b <;> rfl
section
variable {β : Type}
noncomputable def pickW (c a b : Value) (k : Value → Option β) : Option β := match c with | .bool t => k (@Bool.rec (fun _ => Value) b a t) | _ => none
theorem pickW_eq (c a b : Value) (k : Value → Option β) : pickW c a b k = someK (pickC c a b) k := by
  unfold pickW pickC; cases c <;> first | rfl | (simp only [zdU]; rfl)
noncomputable def cellsW (r : Option Blk) (k : List Value → Option β) : Option β := match r with | some (.cells c _ _) => k c | _ => none
noncomputable def loadW (q : List Value → Nat → Option Value) (h : Heap) (a : Value) (k : Value → Option β) : Option β :=
  match a with
  | .pointer (some ⟨b, o, none⟩) => cellsW (hGet h b) fun c => someK (q c o) k
  | _ => none
theorem zie (P : Program) (ty : TypeId) (h : Heap) (a : Value) (k : Value → Option β) : loadW (partC P ty).f h a k = someK (readC P ty h a) k := by
  unfold loadW readC
  cases a with
  | pointer a =>
    rcases a with _ | ⟨b, o, _ | s⟩
    · rfl
    · simp only [ptrOf, cellsW]
      cases hGet h b with
      | none => rfl
      | some k => cases k <;> rfl
    · rfl
  | _ => rfl
noncomputable def orSlow (r : Option Value) (slow : Option Value) (k : Value → Option β) : Option β := @Option.rec Value (fun _ => Option β) (someK slow k) k r
noncomputable def binW (g : Int → Int → Option Value) (x y : Value) (slow : Option Value) (k : Value → Option β) : Option β :=
  match x with
  | .int .i64 a => (match y with | .int .i64 b => orSlow (g a b) slow k | _ => someK slow k)
  | _ => someK slow k
theorem binW_eq (P : Program) (N : Nat) (o : Oper) (op : BinOp) (ty : TypeId) (a b : Operand) (t : Vt) (k : Value → Option β) :
    binW (intBin op).f ((evC N a).f t) ((evC N b).f t) (binE P (evE N t) o op ty a b) k = someK (binK P N o op ty a b t) k := by
  rw [zlj]
  unfold binK binV binW
  generalize (evC N a).f t = x
  generalize (evC N b).f t = y
  cases x with
  | int kx m =>
    cases kx <;> try rfl
    cases y with
    | int ky n =>
      cases ky <;> try rfl
      show orSlow ((intBin op).f m n) _ k = someK (match (intBin op).f m n with | some v => some v | none => _) k
      cases (intBin op).f m n <;> rfl
    | _ => rfl
  | _ => rfl
noncomputable def unW (g : Value → Option Value) (x : Value) (slow : Option Value) (k : Value → Option β) : Option β := orSlow (g x) slow k
theorem unW_eq (P : Program) (N : Nat) (o : Oper) (op : UnOp) (a : Operand) (t : Vt) (k : Value → Option β) : unW (unV op).f ((evC N a).f t) (plainE P (evE N t) o) k = someK (unK P N o op a t) k := by
  rw [zeR, zdY]
  unfold unK unW
  cases (unV op).f ((evC N a).f t) <;> rfl
theorem lenW_eq (P : Program) (N : Nat) (o : Oper) (ty : TypeId) (v : Value) (t : Vt) (h : Heap) (k : Value → Option β) : orSlow ((lenC P ty).f v) (lenE P (evE N t) h o ty v) k = someK (lenK P N o ty v t h) k := by
  rw [lenE_eq]
  unfold lenK
  cases (lenC P ty).f v <;> rfl
noncomputable def partsW (N : Nat) : List (Nat × Operand) → Bx (Vt → List (Nat × Value)) := @List.rec (Nat × Operand) (fun _ => Bx (Vt → List (Nat × Value))) ⟨fun _ => []⟩ (fun p _ ih => withB (evC N p.2) fun f => withB ih fun i => ⟨fun t => (p.1, f t) :: i t⟩)
theorem zkw (N : Nat) (ps : List (Nat × Operand)) : (partsW N ps).f = partsC N ps := by
  induction ps with
  | nil => rfl
  | cons p ps ih =>
    show (withB (evC N p.2) fun f => withB (partsW N ps) fun i => (⟨fun t => (p.1, f t) :: i t⟩ : Bx (Vt → List (Nat × Value)))).f = _
    rw [zaq, zaq, ih]; rfl
noncomputable def argsW (N : Nat) : List Operand → Bx (Vt → List Value) := @List.rec Operand (fun _ => Bx (Vt → List Value)) ⟨fun _ => []⟩ (fun x _ ih => withB (evC N x) fun f => withB ih fun i => ⟨fun t => f t :: i t⟩)
theorem ziA (N : Nat) (xs : List Operand) : (argsW N xs).f = argsC N xs := by
  induction xs with
  | nil => rfl
  | cons x xs ih =>
    show (withB (evC N x) fun f => withB (argsW N xs) fun i => (⟨fun t => f t :: i t⟩ : Bx (Vt → List Value))).f = _
    rw [zaq, zaq, ih]; rfl
noncomputable def callOpW (P : Program) (N : Nat) (o : Oper) (c : Call) : Bx (KOp β) :=
  match c.callee with
  | .builtin .len => match c.argTypes[0]?, c.args[0]? with
    | some ty, some a => withB (evC N a) fun fa => withB (putC N o.dst) fun p => withB (lenC P ty) fun g => ⟨fun _ _ t h r kn _ => orSlow (g (fa t)) (lenE P (evE N t) h o ty (fa t)) fun v => kn (p t v) h r⟩
    | _, _ => ⟨fun _ _ _ _ _ _ _ => none⟩
  | .value (.func f) => match P.funcs[f]? with
    | none => ⟨fun _ _ _ _ _ _ _ => none⟩
    | some fn => bif fn.name == "runtime.NumGoroutine" then ⟨fun _ _ _ _ _ _ _ => none⟩
      else bif fn.body.isSome then withB (argsW N c.args.toList) fun g => ⟨fun C _ t h r kn ke => callEndK (putC N o.dst) t r (C.call f ⟨g t⟩ false .run h) kn ke⟩
      else ⟨genK P N o⟩
  | .builtin .append => ⟨genK P N o⟩
  | .value _ => ⟨genK P N o⟩
  | _ => ⟨genW P N o⟩
theorem zjC (P : Program) (N : Nat) (o : Oper) (c : Call) (ho : o.op = .call c) : callOpW (β := β) P N o c = callOpK P N o c := by
  unfold callOpW callOpK
  obtain ⟨callee, args, argTypes⟩ := c
  have slow : (opC P N o).f = (callC P N o ⟨callee, args, argTypes⟩).f := by unfold opC; rw [ho]
  cases callee with
  | value f => cases f <;> first | (simp only [zaq, ziA]; done) | (simp only [zaq, ziA]; rfl)
  | invoke r n => simp only []; rw [zhv]; rw [slow]; rfl
  | builtin b =>
    cases b with
    | len => simp only [zaq, lenW_eq]; rfl
    | append => rfl
    | _ => simp only []; rw [zhv]; rw [slow]; rfl
noncomputable def opW (P : Program) (N : Nat) (o : Oper) : Bx (KOp β) :=
  match o.op with
  | .move a => withB (evC N a) fun fa => withB (putC N o.dst) fun p => ⟨fun _ _ t h r kn _ => kn (p t (fa t)) h r⟩
  | .assign a => withB (evC N a) fun fa => withB (putC N o.dst) fun p => ⟨fun _ _ t h r kn _ => kn (p t (fa t)) h r⟩
  | .pick c a b => withB (evC N c) fun fc => withB (evC N a) fun fa => withB (evC N b) fun fb => withB (putC N o.dst) fun p => ⟨fun _ _ t h r kn _ => pickW (fc t) (fa t) (fb t) fun v => kn (p t v) h r⟩
  | .load ty a => withB (evC N a) fun fa => withB (putC N o.dst) fun p => withB (partC P ty) fun q => ⟨fun _ _ t h r kn _ => loadW q h (fa t) fun v => kn (p t v) h r⟩
  | .binOp op ty a b _ => withB (evC N a) fun fa => withB (evC N b) fun fb => withB (putC N o.dst) fun p => withB (intBin op) fun g => withB (aggQ P op ty) fun q => ⟨fun _ _ t h r kn _ => binW g (fa t) (fb t) (q (fa t) (fb t) (binE P (evE N t) o op ty a b)) fun v => kn (p t v) h r⟩
  | .unOp op _ a => withB (evC N a) fun fa => withB (putC N o.dst) fun p => withB (unV op) fun g => ⟨fun _ _ t h r kn _ => unW g (fa t) (plainE P (evE N t) o) fun v => kn (p t v) h r⟩
  | .indexAddr ty a i => withB (evC N a) fun fa => withB (evC N i) fun fi => withB (putC N o.dst) fun p => withB (indexC P ty) fun g => ⟨fun _ _ t h r kn _ => someK (g (fa t) (fi t)) fun v => kn (p t v) h r⟩
  | .fieldAddr ty a f => withB (evC N a) fun fa => withB (putC N o.dst) fun p => withB (fieldAtC P ty f) fun g => ⟨fun _ _ t h r kn _ => someK (g (fa t)) fun v => kn (p t v) h r⟩
  | .field ty a f => withB (evC N a) fun fa => withB (putC N o.dst) fun p => withB (fieldC P ty f) fun g => ⟨fun _ _ t h r kn _ => someK (g (fa t)) fun v => kn (p t v) h r⟩
  | .extract a i => withB (evC N a) fun fa => withB (putC N o.dst) fun p => ⟨fun _ _ t h r kn _ => someK (extC (fa t) i) fun v => kn (p t v) h r⟩
  | .build ty ps => withB (partsW N ps.toList) fun fs => withB (putC N o.dst) fun p => withB (fillC P ty) fun g => ⟨fun _ _ t h r kn _ => someK (g (fs t)) fun v => kn (p t v) h r⟩
  | .box e a => withB (evC N a) fun fa => withB (putC N o.dst) fun p => ⟨fun _ _ t h r kn _ => pairK (boxCells P e h (cellsL (fa t))) fun q => kn (p t q.1) q.2 r⟩
  | .buildSlice ty n ps => withB (partsW N ps.toList) fun fs => withB (putC N o.dst) fun p => withB (buildSliceC P ty n) fun g => ⟨fun _ _ t h r kn _ => pairK (g h (fs t)) fun q => kn (p t q.1) q.2 r⟩
  | .store ty a v => withB (evC N a) fun fa => withB (evC N v) fun fv => withB (putC N o.dst) fun p => ⟨fun _ _ t h r kn _ => heapK (writeC P ty h (fv t) (fa t)) fun h => kn (p t undef) h r⟩
  | .call c => callOpW P N o c
  | .index ty a i => withB (evC N a) fun fa => withB (evC N i) fun fi => withB (putC N o.dst) fun p => ⟨fun _ _ t h r kn _ => someK (indexE P (evE N t) o ty (fa t) (fi t)) fun v => kn (p t v) h r⟩
  | .convert a b v => withB (evC N v) fun fa => withB (putC N o.dst) fun p => ⟨fun _ _ t h r kn _ => pairK (convertE P (evE N t) h o a b (fa t)) fun q => kn (p t q.1) q.2 r⟩
  | .alloc _ => ⟨genK P N o⟩
  | .lookup ty m k ok => withB (evC N m) fun fm => withB (evC N k) fun fk => withB (putC N o.dst) fun p => withB (lookupM P ty ok) fun g => ⟨fun _ _ t h r kn _ => someK (g h (fm t) (fk t)) fun v => kn (p t v) h r⟩
  | _ => ⟨genW P N o⟩
theorem opW_eq (P : Program) (N : Nat) (o : Oper) : opW (β := β) P N o = opK P N o := by
  unfold opW opK
  cases ho : o.op with
  | index ty a i =>
    simp only [zaq, zeR, zkU]
    congr 1
    funext C x t h r kn ke
    unfold genK opC
    rw [ho]
    show _ = finK _ (oneC _ (indexV P (toArr N t) o ty ((evC N a).f t) ((evC N i).f t))) kn ke
    cases indexV P (toArr N t) o ty ((evC N a).f t) ((evC N i).f t) <;> rfl
  | convert a b v =>
    simp only [zaq, zeR, zhF]
    congr 1
    funext C x t h r kn ke
    unfold genK opC
    rw [ho]
    show _ = finK _ (valC _ (convertB P (toArr N t) h o a b ((evC N v).f t))) kn ke
    cases convertB P (toArr N t) h o a b ((evC N v).f t) <;> rfl
  | alloc e => rfl
  | lookup ty m k ok =>
    simp only [zaq, zjn]
    congr 1
    funext C x t h r kn ke
    unfold genK opC
    rw [ho]
    show _ = finK _ (slowC P N (toC C) x ⟨t, r.df, r.up, h⟩ o) kn ke
    unfold slowC
    have e : simpleB P (toArr N t) h o = (lookupB P h ty (ev (toArr N t) m) (ev (toArr N t) k) ok).map fun v => (v, h) := by simp only [simpleB, ho]
    simp only [za1, e]
    cases lookupB P h ty (ev (toArr N t) m) (ev (toArr N t) k) ok with
    | none => simp only [isSimple, ho]; rfl
    | some v => rfl
  | call c => exact zjC _ _ _ _ ho
  | binOp op ty a b yt =>
    simp only [zaq]
    have e : ∀ t, (aggQ P op ty).f ((evC N a).f t) ((evC N b).f t) (binE P (evE N t) o op ty a b) = binE P (evE N t) o op ty a b := fun t => by
      rw [za1, za1]
      refine aggQ_eq ho fun v hv hn => ?_
      rw [zlj]
      unfold binF
      have hf : fastOp op (evF (toArr N t) a) (evF (toArr N t) b) = none := by
        cases hf : fastOp op (evF (toArr N t) a) (evF (toArr N t) b) with
        | none => rfl
        | some w =>
          rw [zaQ] at hf
          have := zjv hf
          obtain ⟨x, hx⟩ := this
          exact absurd hx (hn x)
      rw [hf]; simp only [hv]
    simp only [e, binW_eq]
  | _ => first
    | (simp only [zaq, pickW_eq, zie, unW_eq, zkw]; done)
    | exact congrArg Bx.mk (zhv P N o (by unfold opC; rw [ho]))
noncomputable def okW (P : Program) (N : Nat) (o : Oper) : Bx (KOp β) := bif opsOK P o then opW P N o else ⟨fun _ _ _ _ _ _ _ => none⟩
theorem okW_eq (P : Program) (N : Nat) (o : Oper) : okW (β := β) P N o = okK P N o := by unfold okW okK; rw [opW_eq]
noncomputable def stepW (P : Program) (N : Nat) (ops : Array Oper) (o : Oper) : Bx (KOp β) :=
  match o.guard with
  | none => okW P N o
  | some _ => withB (wantC N ops o) fun w => withB (okW P N o) fun g => withB (putC N o.dst) fun p => ⟨fun C x t h r kn ke => @Bool.rec (fun _ => Option β) (kn (p t undef) h r) (g C x t h r kn ke) (w t)⟩
theorem stepW_eq (P : Program) (N : Nat) (ops : Array Oper) (o : Oper) : stepW (β := β) P N ops o = stepK P N ops o := by
  unfold stepW stepK
  cases o.guard with
  | none => exact okW_eq ..
  | some p => simp only [zaq, okW_eq, zdU]
noncomputable def seqW (P : Program) (N : Nat) (ops : Array Oper) : List Oper → Bx (KOp β) :=
  @List.rec Oper (fun _ => Bx (KOp β)) ⟨fun _ _ t h r kn _ => kn t h r⟩ (fun o _ ih => withB (stepW P N ops o) fun s => withB ih fun i => ⟨fun C x t h r kn ke => s C x t h r (fun t h r => i C x t h r kn ke) ke⟩)
theorem seqW_eq (P : Program) (N : Nat) (ops : Array Oper) (l : List Oper) : seqW (β := β) P N ops l = seqK P N ops l := by
  induction l with
  | nil => rfl
  | cons o l ih =>
    show (withB (stepW P N ops o) fun s => withB (seqW P N ops l) fun i => (⟨fun C x t h r kn ke => s C x t h r (fun t h r => i C x t h r kn ke) ke⟩ : Bx (KOp β))) = _
    rw [zaq, zaq, ih, stepW_eq]; rfl
noncomputable def seeW (P : Program) (N : Nat) (o : Oper) : Bx (Vt → Heap → (Value → Option β) → Option β) :=
  match o.op with
  | .load ty a => withB (evC N a) fun fa => withB (partC P ty) fun q => ⟨fun t h k => loadW q h (fa t) k⟩
  | _ => ⟨fun t h k => someK (match simC P N o t h with | some p => some p.1 | none => none) k⟩
theorem seeW_eq (P : Program) (N : Nat) (o : Oper) (t : Vt) (h : Heap) (k : Value → Option β) : (seeW P N o).f t h k = someK ((seeK P N o).f t h) k := by
  unfold seeW seeK
  cases o.op with
  | load ty a => simp only [zaq, zie]
  | _ => rfl
noncomputable def lookW (P : Program) (N : Nat) (ops : Array Oper) (i : Nat) (o : Oper) : Bx (UOp β) :=
  withB (seeW P N o) fun see => withB (putC N o.dst) fun p =>
  bif tightAt ops i then ⟨fun _ _ t h r hs lk k => see t h fun v => @Bool.rec (fun _ => Option β) none (k (p t v) h r hs lk) (quickV v h.n)⟩
  else ⟨fun _ _ t h r hs lk k => see t h fun v => k (p t v) h r hs ({ o, i, t, v, n := h.n } :: lk)⟩
theorem lookW_eq (P : Program) (N : Nat) (ops : Array Oper) (i : Nat) (o : Oper) : lookW (β := β) P N ops i o = lookK P N ops i o := by
  unfold lookW lookK
  simp only [zaq, seeW_eq, zdU]
noncomputable def calmW (P : Program) (N : Nat) (ops : Array Oper) (i : Nat) (o : Oper) : Bx (UOp β) :=
  bif opsOK P o then
    bif isSimple o then bif looks o then lookW P N ops i o else withB (opW P N o) fun g => ⟨fun C x t h r hs lk k => g C x t h r (fun t h r => k t h r hs lk) noEx⟩
    else withB (opW P N o) fun g => ⟨fun C x t h r hs lk k => g C x t h r (fun t h r => k t h r (h :: hs) lk) noEx⟩
  else ⟨fun _ _ _ _ _ _ _ _ => none⟩
theorem ziy (P : Program) (N : Nat) (ops : Array Oper) (i : Nat) (o : Oper) : calmW (β := β) P N ops i o = calmK P N ops i o := by
  unfold calmW calmK
  simp only [zaq, lookW_eq, opW_eq]
noncomputable def ustepW (P : Program) (N : Nat) (ops : Array Oper) (i : Nat) (o : Oper) : Bx (UOp β) :=
  match o.guard with
  | none => calmW P N ops i o
  | some _ => withB (wantC N ops o) fun w => withB (calmW P N ops i o) fun g => withB (putC N o.dst) fun p => ⟨fun C x t h r hs lk k => @Bool.rec (fun _ => Option β) (k (p t undef) h r (bif isSimple o then hs else h :: hs) lk) (g C x t h r hs lk k) (w t)⟩
theorem zjQ (P : Program) (N : Nat) (ops : Array Oper) (i : Nat) (o : Oper) : ustepW (β := β) P N ops i o = ustepK P N ops i o := by
  unfold ustepW ustepK
  cases o.guard with
  | none => exact ziy ..
  | some p => simp only [zaq, ziy, zdU]
noncomputable def useqW (P : Program) (N : Nat) (ops : Array Oper) : List (Nat × Oper) → Bx (UOp β) :=
  @List.rec (Nat × Oper) (fun _ => Bx (UOp β)) ⟨fun _ _ t h r hs lk k => k t h r hs lk⟩ (fun p _ ih => withB (ustepW P N ops p.1 p.2) fun s => withB ih fun i => ⟨fun C x t h r hs lk k => s C x t h r hs lk (fun t h r hs lk => i C x t h r hs lk k)⟩)
theorem useqW_eq (P : Program) (N : Nat) (ops : Array Oper) (l : List (Nat × Oper)) : useqW (β := β) P N ops l = useqK P N ops l := by
  induction l with
  | nil => rfl
  | cons p l ih =>
    show (withB (ustepW P N ops p.1 p.2) fun s => withB (useqW P N ops l) fun i => (⟨fun C x t h r hs lk k => s C x t h r hs lk (fun t h r hs lk => i C x t h r hs lk k)⟩ : Bx (UOp β))) = _
    rw [zaq, zaq, ih, zjQ]; rfl
noncomputable def forceN {γ : Type} (n : Nat) (k : Nat → γ) : γ := @Nat.rec (fun _ => γ) (k 0) (fun m _ => k (Nat.succ m)) n
theorem zgt {γ : Type} (n : Nat) (k : Nat → γ) : forceN n k = k n := by cases n <;> rfl
noncomputable def seenW (P : Program) (N : Nat) (o : Oper) : Bx (Vt → Heap → Option (Value × Heap)) :=
  bif isSimple o then ⟨fun t h => simC P N o t h⟩ else ⟨fun _ _ => none⟩
noncomputable def sameIn (v : Value) (n : Nat) (h : Heap) (r : Option (Value × Heap)) : Bool := match r with | some (w, h1) => quickSame w v n && Nat.beq h1.n h.n | none => false
noncomputable def lookInW (lo hi : Nat) (g : Vt → Heap → Option (Value × Heap)) (t : Vt) (v : Value) (n : Nat) : Nat → List Heap → Bool := fun k hs => @List.rec Heap (fun _ => Nat → Bool) (fun _ => true)
  (fun h _ ih k => bif (bif Nat.blt k lo then true else bif Nat.blt hi k then true else sameIn v n h (g t h)) then ih (k + 1) else false) hs k
noncomputable def lookCW (P : Program) (ops : Array Oper) (N : Nat) (hs : List Heap) (l : LookC) : Bool :=
  @LookC.rec (fun _ => Bool) (fun o i t v n => forceN i fun i => withB (seenW P N o) fun g => lookInW (actsInm ops i) (actsMostm ops i) g t v n 0 hs.reverse) l
theorem zkI (P : Program) (ops : Array Oper) (N : Nat) (hs : List Heap) (l : LookC) : lookCW P ops N hs l = lookC P ops N hs l := by
  obtain ⟨o, i, t, v, n⟩ := l
  unfold lookC
  show (forceN i fun i => withB (seenW P N o) fun g => lookInW (actsInm ops i) (actsMostm ops i) g t v n 0 hs.reverse) = _
  rw [zgt, zaq]
  rw [← ziD, ← zcB]
  generalize hs.reverse = l
  have key : ∀ l k, lookInW (actsIn ops ((preds ops.toList).getD i [])) (actsMost ops (preds ops.toList) i) (seenW P N o).f t v n k l = lookIn P N (actsIn ops ((preds ops.toList).getD i [])) (actsMost ops (preds ops.toList) i) ⟨o, i, t, v, n⟩ k l := by
    intro l
    induction l with
    | nil => intro k; rfl
    | cons h l ih =>
      intro k
      show (bif _ then lookInW _ _ _ t v n (k + 1) l else false) = (bif _ then lookIn P N _ _ _ (k + 1) l else false)
      rw [ih]
      congr 3
      unfold sameIn seenW
      cases isSimple o <;> rfl
  exact key l 0
noncomputable def allLooksW (P : Program) (ops : Array Oper) (N : Nat) (hs : List Heap) : List LookC → Bool := @List.rec LookC (fun _ => Bool) true (fun l _ ih => bif lookCW P ops N hs l then ih else false)
theorem zdv (P : Program) (ops : Array Oper) (N : Nat) (hs : List Heap) (l : List LookC) : allLooksW P ops N hs l = allLooks P ops N hs l := by
  induction l with
  | nil => rfl
  | cons a l ih =>
    show (bif lookCW P ops N hs a then allLooksW P ops N hs l else false) = (bif lookC P ops N hs a then allLooks P ops N hs l else false)
    rw [zkI, ih]
noncomputable def endLooks (P : Program) (ops : Array Oper) (N : Nat) (hs : List Heap) (lk : List LookC) (b : Option β) : Option β :=
  match lk with
  | [] => b
  | _ => bif allLooksW P ops N hs lk then b else none
theorem zhA (P : Program) (ops : Array Oper) (N : Nat) (hs : List Heap) (lk : List LookC) (b : Option β) : endLooks P ops N hs lk b = bif allLooks P ops N hs lk then b else none := by
  cases lk with
  | nil => rfl
  | cons l lk => show (bif allLooksW P ops N hs (l :: lk) then b else none) = _; rw [zdv]
def unseenm (ops : Array Oper) (news : List (Nat × Nat × Blk)) (i : Nat) : List (Nat × Nat × Blk) := news.filter fun p => !((masks ops.toList).getD i 0).testBit p.1
theorem unseen_m (ops : Array Oper) (news : List (Nat × Nat × Blk)) (i : Nat) : unseen (preds ops.toList) news i = unseenm ops news i := by
  unfold unseen unseenm
  simp only [zcW]
noncomputable def openActM (P : Program) (N : Nat) (ops : Array Oper) (C : RecC) (x : Ctx) (z : OpenC) (i : Nat) (o : Oper) : Option OpenC :=
  match z.news with
  | [] => match (okC P N o).f C x z.s with
    | some (.val v, s) => some { z with s := { s with t := (putC N o.dst).f s.t v }, hs := s.h :: z.hs }
    | _ => none
  | _ :: _ => match (okC P N o).f C x { z.s with h := hide (unseenm ops z.news i) z.s.h } with
    | some (.val v, s) =>
      bif (unseenm ops z.news i).all (fun p => (s.h.get? p.2.1).isSome) then some { z with s := { s with t := (putC N o.dst).f s.t v, h := unhide (unseenm ops z.news i) s.h }, hs := unhide (unseenm ops z.news i) s.h :: z.hs } else none
    | _ => none
theorem zhk (P : Program) (N : Nat) (ops : Array Oper) (C : RecC) (x : Ctx) (z : OpenC) (i : Nat) (o : Oper) : openActM P N ops C x z i o = openActC P N C x (preds ops.toList) z i o := by
  unfold openActM openActC
  simp only [unseen_m]
  rfl
noncomputable def openStepM (P : Program) (N : Nat) (ops : Array Oper) (i : Nat) (o : Oper) : Bx (RecC → Ctx → OpenC → Option OpenC) :=
  bif isSimple o then bif opsOK P o then
    match o.guard with
    | none => ⟨fun _ _ z => openSimC P N z i o⟩
    | some _ => ⟨fun _ _ z => bif (wantC N ops o).f z.s.t then openSimC P N z i o else some { z with s := { z.s with t := (putC N o.dst).f z.s.t undef } }⟩
    else ⟨fun _ _ z => bif (wantC N ops o).f z.s.t then none else some { z with s := { z.s with t := (putC N o.dst).f z.s.t undef } }⟩
  else ⟨fun C x z => bif (wantC N ops o).f z.s.t then openActM P N ops C x z i o else some { z with s := { z.s with t := (putC N o.dst).f z.s.t undef }, hs := z.s.h :: z.hs }⟩
theorem zf6 (P : Program) (N : Nat) (ops : Array Oper) (i : Nat) (o : Oper) : openStepM P N ops i o = openStepC P N ops i o := by
  unfold openStepM openStepC
  simp only [zhk]
  rfl
noncomputable def openSeqM (P : Program) (N : Nat) (ops : Array Oper) : List (Nat × Oper) → RecC → Ctx → OpenC → Option OpenC :=
  @List.rec (Nat × Oper) (fun _ => RecC → Ctx → OpenC → Option OpenC) (fun _ _ z => some z) (fun p _ ih C x z => match (openStepM P N ops p.1 p.2).f C x z with | some z => ih C x z | none => none)
theorem zhe (P : Program) (N : Nat) (ops : Array Oper) (l : List (Nat × Oper)) : openSeqM P N ops l = openSeqC P N ops l := by
  induction l with
  | nil => rfl
  | cons p l ih =>
    funext C x z
    show (match (openStepM P N ops p.1 p.2).f C x z with | some z => openSeqM P N ops l C x z | none => none) = (match (openStepC P N ops p.1 p.2).f C x z with | some z => openSeqC P N ops l C x z | none => none)
    rw [ih, zf6]
noncomputable def openEndM (P : Program) (ops : Array Oper) (N : Nat) (r : Option OpenC) : Option (Ex × FS) :=
  match r with
  | none => none
  | some z => match z.hs with
    | [] => some (.normal, z.s)
    | [_] => some (.normal, z.s)
    | _ => bif allLooksW P ops N z.hs z.looks then some (.normal, z.s) else none
theorem zhj (P : Program) (ops : Array Oper) (N : Nat) (r : Option OpenC) : openEndM P ops N r = openEndC P ops N r := by
  unfold openEndM openEndC
  simp only [zdv]
  rfl
noncomputable def openM (P : Program) (N : Nat) (ops : Array Oper) : Bx (RecC → Ctx → FS → Option (Ex × FS)) :=
  bif openOKm ops then ⟨fun C x s => openEndM P ops N (openSeqM P N ops (numbered ops.toList 0) C x ⟨s, [s.h], [], []⟩)⟩ else ⟨fun _ _ _ => none⟩
theorem openM_eq (P : Program) (N : Nat) (ops : Array Oper) : openM P N ops = openC P N ops := by
  unfold openM openC
  simp only [zhj, zhe, zfj]
noncomputable def regionW (P : Program) (N : Nat) (ops : Array Oper) : Bx (KOp β) :=
  bif calm ops && openOKm ops then withB (useqW P N ops (numbered ops.toList 0)) fun g => ⟨fun C x t h r kn _ => g C x t h r [h] [] fun t h r hs lk => endLooks P ops N hs lk (kn t h r)⟩ else ⟨fun C x t h r kn ke => match (openM P N ops).f (toC C) x ⟨t, r.df, r.up, h⟩ with | some (.normal, s) => kn s.t s.h ⟨s.df, s.up⟩ | some (e, s) => ke e s.t s.h ⟨s.df, s.up⟩ | none => none⟩
theorem zjd (P : Program) (N : Nat) (ops : Array Oper) : regionW (β := β) P N ops = regionK P N ops := by
  unfold regionW regionK
  simp only [zaq, useqW_eq, zhA, openM_eq]
  all_goals rfl
noncomputable def codeW (P : Program) (N : Nat) (F : Nat) : Code → Bx (KOp β) :=
  @Code.rec (fun _ => Bx (KOp β))
    ⟨fun _ _ t h r kn _ => kn t h r⟩
    (fun _ ops draw => bif draw then regionW P N ops else seqW P N ops ops.toList)
    (fun _ _ a b => withB a fun a => withB b fun b => ⟨fun C x t h r kn ke => a C x t h r (fun t h r => b C x t h r kn ke) ke⟩)
    (fun c _ _ a b => withB (evC N c) fun fc => withB a fun a => withB b fun b => ⟨fun C x t h r kn ke => boolK (fc t) (a C x t h r kn ke) (b C x t h r kn ke)⟩)
    (fun id _ b => withB b fun b => ⟨fun C x t h r kn ke => b C x t h r kn (blockKe id kn ke)⟩)
    (fun _ b => ⟨fun C x t h r _ ke => loopK b C x ke F t h r⟩)
    (fun f params assign body _ _ => bif opOK P f then ⟨rangeK P N f params assign body⟩ else ⟨fun _ _ _ _ _ _ _ => none⟩)
    (fun id => ⟨fun _ _ t h r _ ke => ke (.exit id) t h r⟩)
    (fun _ b => b)
    (fun _ => ⟨fun _ _ t h r kn _ => kn t h r⟩)
    (fun _ => ⟨fun _ _ _ _ _ _ _ => none⟩)
    ⟨fun _ _ t h r _ ke => ke .ret t h r⟩
    (fun _ => ⟨fun _ _ _ _ _ _ _ => none⟩)
theorem zc5 (P : Program) (N F : Nat) (c : Code) : codeW (β := β) P N F c = codeK P N F c := by
  induction c with
  | region id ops draw =>
    show (bif draw then regionW P N ops else seqW P N ops ops.toList) = (bif draw then regionK P N ops else seqK P N ops ops.toList)
    rw [zjd, seqW_eq]
  | seq a b iha ihb =>
    show (withB (codeW P N F a) fun a => withB (codeW P N F b) fun b => (⟨fun C x t h r kn ke => a C x t h r (fun t h r => b C x t h r kn ke) ke⟩ : Bx (KOp β))) = _
    rw [zaq, zaq, iha, ihb]; rfl
  | cond c a b iha ihb =>
    show (withB (evC N c) fun fc => withB (codeW P N F a) fun a => withB (codeW P N F b) fun b => (⟨fun C x t h r kn ke => boolK (fc t) (a C x t h r kn ke) (b C x t h r kn ke)⟩ : Bx (KOp β))) = _
    rw [zaq, zaq, zaq, iha, ihb]; rfl
  | block id b ih =>
    show (withB (codeW P N F b) fun b => (⟨fun C x t h r kn ke => b C x t h r kn (blockKe id kn ke)⟩ : Bx (KOp β))) = _
    rw [zaq, ih]; rfl
  | loop b ih =>
    show (⟨fun C x t h r _ ke => loopK (codeW P N F b) C x ke F t h r⟩ : Bx (KOp β)) = _
    rw [ih]; rfl
  | scope b ih => exact ih
  | _ => rfl
end
noncomputable def resW (P : Program) (N : Nat) : List ResultVar → Bx (Vt → Heap → Option (List Value)) :=
  @List.rec ResultVar (fun _ => Bx (Vt → Heap → Option (List Value))) ⟨fun _ _ => some []⟩ (fun r _ ih => withB ih fun i => match r with
    | .tmp a => withB (evC N (.tmp a)) fun f => ⟨fun t h => @Option.rec (List Value) (fun _ => Option (List Value)) none (fun vs => some (f t :: vs)) (i t h)⟩
    | .cell a ty => withB (evC N (.tmp a)) fun f => ⟨fun t h => someK (readC P ty h (f t)) fun v => @Option.rec (List Value) (fun _ => Option (List Value)) none (fun vs => some (v :: vs)) (i t h)⟩)
theorem resW_eq (P : Program) (N : Nat) (rs : List ResultVar) : (resW P N rs).f = resL P N rs := by
  induction rs with
  | nil => rfl
  | cons r rs ih =>
    show (withB (resW P N rs) fun i => match r with
      | .tmp a => withB (evC N (.tmp a)) fun f => (⟨fun t h => @Option.rec (List Value) (fun _ => Option (List Value)) none (fun vs => some (f t :: vs)) (i t h)⟩ : Bx (Vt → Heap → Option (List Value)))
      | .cell a ty => withB (evC N (.tmp a)) fun f => ⟨fun t h => someK (readC P ty h (f t)) fun v => @Option.rec (List Value) (fun _ => Option (List Value)) none (fun vs => some (v :: vs)) (i t h)⟩).f = _
    rw [zaq, ih]
    funext t h
    cases r with
    | tmp a =>
      simp only [zaq]
      show _ = (match some ((evC N (.tmp a)).f t) with | some v => (match resL P N rs t h with | some vs => some (v :: vs) | none => none) | none => none)
      cases resL P N rs t h <;> rfl
    | cell a ty =>
      simp only [zaq]
      show _ = (match readC P ty h ((evC N (.tmp a)).f t) with | some v => (match resL P N rs t h with | some vs => some (v :: vs) | none => none) | none => none)
      cases readC P ty h ((evC N (.tmp a)).f t) with
      | none => rfl
      | some v => cases resL P N rs t h <;> rfl
noncomputable def leaveW (res : Vt → Heap → Option (List Value)) (P : Program) (C : RecK) (fn : Func) (N : Nat) (t : Vt) (h : Heap) (r : Rest) : Option (End × FrameMode × Heap) :=
  match r.df with
  | [] => retC r.up h (oneOrAll (res t h))
  | _ :: _ => endC r.up (leaveB P (recsOf (toC C)) fn (toArr N t) r.df .returning h)
noncomputable def leaveWe (res : Vt → Heap → Option (List Value)) (P : Program) (C : RecK) (fn : Func) (N : Nat) (e : Ex) (t : Vt) (h : Heap) (r : Rest) : Option (End × FrameMode × Heap) :=
  match e with
  | .ret => leaveW res P C fn N t h r
  | .panic ch => endC r.up (leaveB P (recsOf (toC C)) fn (toArr N t) r.df (.panicking ch) h)
  | _ => none
noncomputable def rowW : List Value → Vt → Vt := fun l t => match l with
  | [] => t
  | [a] => (sC 0).f t a
  | [a, b] => (sC 1).f ((sC 0).f t a) b
  | [a, b, c] => (sC 2).f ((sC 1).f ((sC 0).f t a) b) c
  | l => ofRow l 0 t
theorem rowW_eq (l : List Value) (t : Vt) : rowW l t = ofRow l 0 t := by
  unfold rowW
  split <;> rfl
noncomputable def bodyW (P : Program) (F : Nat) (f : FuncId) : Bx (RecK → Array Value → Bool → FrameMode → Heap → Option (End × FrameMode × Heap)) :=
  match P.funcs[f]? with
  | none => ⟨fun _ _ _ _ _ => none⟩
  | some fn => match fn.body with
    | none => ⟨fun _ _ _ _ _ => none⟩
    | some c => withB (codeW (β := End × FrameMode × Heap) P (nOf P f) F c) fun g => withB (resW P (nOf P f) fn.results.toList) fun res =>
      ⟨fun C args dfr up h => @Bool.rec (fun _ => Option (End × FrameMode × Heap)) none (g C { fn := f, round := none, dfr } (rowW args.toList .nil) h ⟨[], up⟩ (leaveW res P C fn (nOf P f)) (leaveWe res P C fn (nOf P f))) (Nat.ble (lenL args.toList) fn.ntmps)⟩
theorem bodyW_eq (P : Program) (F : Nat) (f : FuncId) : bodyW P F f = bodyK P F f := by
  unfold bodyW bodyK
  cases P.funcs[f]? with
  | none => rfl
  | some fn =>
    cases hb : fn.body with
    | none => simp only [hb]
    | some c =>
      simp only [hb, zaq, zc5, resW_eq, zdU, rowW_eq]
      congr 1
noncomputable def callW (P : Program) (K : Known) (F : Nat) (C : RecK) (f : FuncId) (args : Array Value) (dfr : Bool) (up : FrameMode) (h : Heap) : Option (End × FrameMode × Heap) :=
  match (bif dfr then none else K f args h) with
  | some r => some (.ret r.1, up, pushAll h r.2)
  | none => (bodyW P F f).f C args dfr up h
theorem callW_eq (P : Program) (K : Known) (F : Nat) (C : RecK) : callW P K F C = callK P K F C := by
  funext f args dfr up h
  unfold callW callK
  rw [bodyW_eq]
  all_goals rfl
noncomputable def roundMidW (P : Program) (F : Nat) (C : RecK) (l : Nat) (fn : FuncId) (body : Code) : Bx (Vt → Heap → Rest → Option (End × Heap)) :=
  withB (codeW (β := End × Heap) P (nOf P fn) F body) fun g => ⟨fun t h r => match loopB h l with
  | some r1 => bif r1.state == .ready then g C { fn, round := some l, dfr := false } t (h.set l (.obj (.loop { r1 with state := .busy }))) r (roundEndN l) (roundEndE l (P.funcs[fn]?).isSome) else none
  | none => none⟩
noncomputable def roundGo (P : Program) (F : Nat) (C : RecK) (l : Nat) (args : Array Value) (h : Heap) (fn : FuncId) (tmps : Array Value) (params : Array Tmp) (assign body : Code) : Option (End × Heap) :=
  forceN fn fun fn =>
    bif Nat.beq (lenL args.toList) params.size then
    bif Nat.beq (lenL tmps.toList) (nOf P fn) then
    (codeW P (nOf P fn) F assign).f C { fn, round := some l, dfr := false } (setsC (nOf P fn) (params.toList.zip args.toList) (ofRow tmps.toList 0 .nil)) h ⟨[], .run⟩ (roundMidW P F C l fn body).f (fun _ _ _ _ => none)
    else none
    else none
noncomputable def roundW (P : Program) (F : Nat) (C : RecK) (l : Nat) (args : Array Value) (h : Heap) : Option (End × Heap) :=
  match loopB h l with
  | none => none
  | some r0 => @Loop.rec (fun _ => Option (End × Heap)) (fun _ _ fn tmps params assign body _ => roundGo P F C l args h fn tmps params assign body) r0
theorem zkj (P : Program) (F : Nat) (C : RecK) : roundW P F C = roundK P F C := by
  have hm : ∀ l fn body, (roundMidW P F C l fn body).f = roundMid P F C l fn body := by
    intro l fn body
    unfold roundMidW roundMid
    rw [zaq, zc5]
    all_goals rfl
  funext l args h
  unfold roundW roundK
  cases loopB h l with
  | none => rfl
  | some r0 =>
    show roundGo P F C l args h r0.fn r0.tmps r0.params r0.assign r0.body = _
    unfold roundGo
    rw [zgt, hm, zc5]
noncomputable def runW (P : Program) (K : Known) (F : Nat) : Nat → RecK := @Nat.rec (fun _ => RecK) ⟨fun _ _ _ _ _ => none, fun _ _ _ => none⟩ (fun _ C => { call := callW P K F C, round := roundW P F C })
theorem zke (P : Program) (K : Known) (F : Nat) : ∀ n, runW P K F n = runK P K F n := by
  intro n
  induction n with
  | zero => rfl
  | succ n ih =>
    show RecK.mk (callW P K F (runW P K F n)) (roundW P F (runW P K F n)) = RecK.mk (callK P K F (runK P K F n)) (roundK P F (runK P K F n))
    rw [ih, callW_eq, zkj]
end Go.AX

namespace Go.AX
open Go.RowKit
noncomputable def listW {β : Type} (P : Program) (N F : Nat) : List Code → Bx (KOp β) :=
  @List.rec Code (fun _ => Bx (KOp β)) ⟨fun _ _ t h r kn _ => kn t h r⟩ (fun a _ ih => withB (codeW P N F a) fun a => withB ih fun b => ⟨fun C x t h r kn ke => a C x t h r (fun t h r => b C x t h r kn ke) ke⟩)
noncomputable def groupW (P : Program) (K : Known) (F n N : Nat) (x : Ctx) (l : List Code) (s : St) (ks : List Nat) : Option St :=
  bif Nat.beq (lenL s.tm.toList) N then (listW P N F l).f (runW P K F n) x (ofRow s.tm.toList 0 .nil) s.h ⟨s.df, s.up⟩ (fun t h r => some ((FS.st N ⟨t, r.df, r.up, h⟩).keep ks)) (fun _ _ _ _ => none) else none
noncomputable def lastW (P : Program) (K : Known) (F n N : Nat) (x : Ctx) (c : Code) (s : St) : Option St :=
  bif Nat.beq (lenL s.tm.toList) N then (codeW P N F c).f (runW P K F n) x (ofRow s.tm.toList 0 .nil) s.h ⟨s.df, s.up⟩ (fun _ _ _ => none) (fun e t h r => match e with | .ret => some ((FS.st N ⟨t, r.df, r.up, h⟩).keep []) | _ => none) else none
theorem zhX {N : Nat} {s : St} (h : Nat.beq (lenL s.tm.toList) N = true) : FS.st N ⟨ofRow s.tm.toList 0 .nil, s.df, s.up, s.h⟩ = s := by
  have h : s.tm.toList.length = N := by rw [← zbB]; exact Nat.eq_of_beq_eq_true h
  obtain ⟨tm, df, up, hh⟩ := s
  simp only at h
  simp only [FS.st, St.mk.injEq, and_true]
  rw [zbK _ _ (by omega), h, Nat.sub_self]
  apply Array.ext'; simp
theorem listW_ok {β : Type} {P : Program} {K : Known} {C : RecK} (hC : OkK P K C) {N F : Nat} {x : Ctx} {kn : Vt → Heap → Rest → Option β} {b : β} : ∀ (l : List Code) (t : Vt) (h : Heap) (r : Rest), (listW P N F l).f C x t h r kn (fun _ _ _ _ => none) = some b →
    ∃ (m : Nat) (s1 : FS), runL (run P K m) x l (FS.st N ⟨t, r.df, r.up, h⟩) = some (s1.st N) ∧ kn s1.t s1.h ⟨s1.df, s1.up⟩ = some b := by
  intro l
  induction l with
  | nil => intro t h r e; exact ⟨0, ⟨t, r.df, r.up, h⟩, rfl, e⟩
  | cons a l ih =>
    intro t h r e
    have e : (withB (codeW P N F a) fun a => withB (listW P N F l) fun b => (⟨fun C x t h r kn ke => a C x t h r (fun t h r => b C x t h r kn ke) ke⟩ : Bx (KOp β))).f C x t h r kn (fun _ _ _ _ => none) = some b := e
    rw [zaq, zaq, zc5] at e
    obtain ⟨m1, e1, s1, h1, h2⟩ := zc6 hC a _ _ _ _ _ _ e
    cases e1 with
    | normal =>
      obtain ⟨m2, s2, h3, h4⟩ := ih _ _ _ h2
      refine ⟨max m1 m2, s2, ?_, h4⟩
      simp only [runL]
      rw [(zas P K (Nat.le_max_left m1 m2)).code _ _ _ _ h1]
      have mono : ∀ (l : List Code) (s : St) (r : St), runL (run P K m2) x l s = some r → runL (run P K (max m1 m2)) x l s = some r := by
        intro l
        induction l with
        | nil => intro s r e; exact e
        | cons a l ih2 =>
          intro s r e
          simp only [runL] at e ⊢
          cases hc : (run P K m2).code x a s with
          | none => rw [hc] at e; cases e
          | some p =>
            rw [(zas P K (Nat.le_max_right m1 m2)).code _ _ _ _ hc]
            rw [hc] at e
            obtain ⟨e1, s3⟩ := p
            cases e1 with
            | normal => exact ih2 _ _ e
            | _ => cases e
      exact mono _ _ _ h3
    | _ => cases h2
theorem zbo {P : Program} {K : Known} {N : Nat → Prop} {w0 : World} {x : Ctx} {Good : World → Prop} (hmx : P.follows .mixedOrders = true) (hK : KOK P K Good) (hG : Safe Good N w0) {F n M m : Nat} {c : Code} {ks : List Nat} {e : Ex} {s s1 s2 : St}
    (he : groupW P K F n M x (cutAt m c).1 s ks = some s1) (h : Piece P N w0 x [.code (cutAt m c).2] s1 e s2) : Piece P N w0 x [.code c] s e s2 := by
  unfold groupW at he
  cases hb : Nat.beq (lenL s.tm.toList) M with
  | false => rw [hb] at he; cases he
  | true =>
    rw [hb] at he; simp only [cond_true] at he
    have hC : OkK P K (runW P K F n) := by rw [zke]; exact zkf P K F n
    obtain ⟨m1, s3, h1, h2⟩ := listW_ok hC _ _ _ _ he
    have hs : FS.st M ⟨ofRow s.tm.toList 0 .nil, s.df, s.up, s.h⟩ = s := zhX hb
    have h1 : runL (run P K m1) x (cutAt m c).1 (FS.st M ⟨ofRow s.tm.toList 0 .nil, s.df, s.up, s.h⟩) = some (s3.st M) := h1
    rw [hs, ← zg2] at h1
    cases h2
    have := zi8 hmx hK hG _ _ _ h1 h
    rwa [cutAt_eq] at this
theorem zkN {P : Program} {K : Known} {x : Ctx} {F n M : Nat} {c : Code} {s s2 : St} (he : lastW P K F n M x c s = some s2) : ∃ m s', (runF P K m).code x c s = some (.ret, s') ∧ s2 = s'.keep [] := by
  unfold lastW at he
  cases hb : Nat.beq (lenL s.tm.toList) M with
  | false => rw [hb] at he; cases he
  | true =>
    rw [hb] at he; simp only [cond_true, zc5] at he
    have hC : OkK P K (runW P K F n) := by rw [zke]; exact zkf P K F n
    obtain ⟨m1, e1, s3, h1, h2⟩ := zc6 hC c _ _ _ _ _ _ he
    have hs : FS.st M ⟨ofRow s.tm.toList 0 .nil, s.df, s.up, s.h⟩ = s := zhX hb
    have h1 : (run P K m1).code x c (FS.st M ⟨ofRow s.tm.toList 0 .nil, s.df, s.up, s.h⟩) = some (e1, s3.st M) := h1
    rw [hs, ← zg2] at h1
    cases e1 with
    | ret => exact ⟨m1, s3.st M, h1, (Option.some.inj h2).symm⟩
    | _ => cases h2
end Go.AX
