/- The same: calls, open regions, maps; pieces of a run. -/
import Derived.Test.YtjdopbcoaocllaaGreatDoorAxF
import Derived.Test.YtjdopbcoaocllaaGreatDoorAxE
import Derived.Test.YtjdopbcoaocllaaGreatDoorAxX
namespace Go.AX
def zkO (o : Oper) : Bool :=
 match o.op with
 | .move _ | .assign _ | .pick .. | .build .. | .load .. | .nilCheck _ | .makeInterface .. | .makeFunc .. | .fieldAddr .. | .field .. | .indexAddr .. | .sliceToArrayPointer .. | .extract .. | .lookup .. | .typeAssert .. | .binOp .. | .unOp .. | .index .. | .slice .. => true
 | .call { callee := .builtin .len, .. } | .call { callee := .builtin .min, .. } | .call { callee := .builtin .max, .. } => true
 | _ => false
theorem zbr {v : Value} {h h' : Heap} {r : Option Value} (e : (r.map fun v => (v, h)) = some (v, h')) : h' = h := by
 cases r with
 | none => cases e
 | some w => cases e; rfl
theorem zfp {P : Program} {tm : Array Value} {h h' : Heap} {o : Oper} {v : Value} (hn : zkO o = true) (e : zae P tm h o = some (v, h')) : h' = h := by
 unfold zkO at hn
 unfold zae at e
 cases ho : o.op with
 | move a => rw [ho] at e; cases e; rfl
 | assign a => rw [ho] at e; cases e; rfl
 | pick c a b => rw [ho] at e; simp only [] at e; split at e <;> cases e; rfl
 | build t ps => rw [ho] at e; exact zbr e
 | load t a => rw [ho] at e; exact zbr e
 | nilCheck a => rw [ho] at e; simp only [] at e; split at e <;> cases e <;> rfl
 | makeInterface t a => rw [ho] at e; simp only [] at e; split at e <;> cases e; rfl
 | makeFunc fn a b => rw [ho] at e; simp only [] at e; split at e <;> cases e; rfl
 | fieldAddr t a f => rw [ho] at e; exact zbr e
 | field t a f => rw [ho] at e; exact zbr e
 | indexAddr t a f => rw [ho] at e; exact zbr e
 | sliceToArrayPointer t a => rw [ho] at e; exact zbr e
 | extract a i => rw [ho] at e; simp only [] at e; split at e; exact zbr e; cases e
 | lookup t a k ok => rw [ho] at e; exact zbr e
 | typeAssert a t u ok => rw [ho] at e; exact zbr e
 | binOp op t a b y =>
  rw [ho] at e; simp only [] at e
  split at e
  ·cases e; rfl
  ·split at e
   ·exact zbr e
   ·exact zbr e
   ·cases e
 | unOp op t a => rw [ho] at e; exact zbr e
 | index t a i => rw [ho] at e; exact zbr e
 | slice t a lo hi mx => rw [ho] at e; simp only [] at e; split at e <;> exact zbr e
 | call c =>
  obtain ⟨callee, args, argTypes⟩ := c
  rw [ho] at e hn
  cases callee with
  | builtin b =>
   cases b with
   | len =>
    simp only [] at e
    split at e
    ·split at e
     ·cases e; rfl
     ·exact zbr e
     ·cases e; rfl
     ·exact zbr e
    ·cases e
   | min => exact zbr e
   | max => exact zbr e
   | _ => cases hn
  | _ => cases hn
 | _ => rw [ho] at hn; cases hn
def zbz (ops : Array Oper) (i : Nat) : Nat := ((List.range i).filter fun j => match ops[j]? with | some o => !zaf o | none => false).length
def zgP (ops : Array Oper) (i : Nat) : Nat := ((List.range ops.size).filter fun j => Nat.testBit ((masks ops.toList).getD i 0) j && (match ops[j]? with | some o => !zaf o | none => false)).length
theorem zmE (ops : Array Oper) (i : Nat) : zci ops ((preds ops.toList).getD i []) = zgP ops i := by
 unfold zci zgP
 simp only [zeH]
 rfl
def zfV (ops : Array Oper) (i : Nat) : Bool := Nat.beq (zgP ops i) (zbz ops i) && Nat.beq (zcV ops i) (zbz ops i)
def zmx (o : Oper) : Bool := !zaf o || zkO o
def calm (ops : Array Oper) : Bool := ops.toList.all zmx
noncomputable def zi1 (v : Value) (n : Nat) : Bool := match v with | .int _ _ => true | .bool _ => true | v => same 20 v v && within 20 n v
theorem zoK {v : Value} {n : Nat} (h : zi1 v n = true) : same 20 v v = true /\ within 20 n v = true := by
 have gen : (same 20 v v && within 20 n v) = true -> same 20 v v = true /\ within 20 n v = true := fun h => by simpa using h
 cases v with
 | int k m => exact ⟨by simp [same], by simp [within]⟩
 | bool b => exact ⟨by simp [same], by simp [within]⟩
 | _ => exact gen h
section
variable {β : Type}
abbrev UN (β : Type) := Vt -> Heap -> Rest -> List Heap -> List LookC -> Option β
abbrev UOp (β : Type) := RecK -> Ctx -> Vt -> Heap -> Rest -> List Heap -> List LookC -> UN β -> Option β
noncomputable def noEx (_ : Ex) (_ : Vt) (_ : Heap) (_ : Rest) : Option β := none
noncomputable def seeK (P : Program) (N : Nat) (o : Oper) : Bx (Vt -> Heap -> Option Value) :=
 match o.op with
 | .load ty a => ⟨fun t h => zeE P ty h ((evC N a).f t)⟩
 | _ => ⟨fun t h => match simC P N o t h with | some p => some p.1 | none => none⟩
noncomputable def lookK (P : Program) (N : Nat) (ops : Array Oper) (i : Nat) (o : Oper) : Bx (UOp β) :=
 bif zfV ops i then ⟨fun _ _ t h r hs lk k => zbV ((seeK P N o).f t h) fun v => bif zi1 v h.n then k ((putC N o.dst).f t v) h r hs lk else none⟩
 else ⟨fun _ _ t h r hs lk k => zbV ((seeK P N o).f t h) fun v => k ((putC N o.dst).f t v) h r hs ({ o, i, t, v, n := h.n } :: lk)⟩
noncomputable def znL (P : Program) (N : Nat) (ops : Array Oper) (i : Nat) (o : Oper) : Bx (UOp β) :=
 bif zah P o then
  bif zaf o then bif looks o then lookK P N ops i o else ⟨fun C x t h r hs lk k => (opK P N o).f C x t h r (fun t h r => k t h r hs lk) noEx⟩
  else ⟨fun C x t h r hs lk k => (opK P N o).f C x t h r (fun t h r => k t h r (h :: hs) lk) noEx⟩
 else ⟨fun _ _ _ _ _ _ _ _ => none⟩
noncomputable def zhe (P : Program) (N : Nat) (ops : Array Oper) (i : Nat) (o : Oper) : Bx (UOp β) :=
 match o.guard with
 | none => znL P N ops i o
 | some _ => ⟨fun C x t h r hs lk k => bif (zce N ops o).f t then (znL P N ops i o).f C x t h r hs lk k else k ((putC N o.dst).f t undef) h r (bif zaf o then hs else h :: hs) lk⟩
noncomputable def useqK (P : Program) (N : Nat) (ops : Array Oper) : List (Nat × Oper) -> Bx (UOp β) :=
 @List.rec (Nat × Oper) (fun _ => Bx (UOp β)) ⟨fun _ _ t h r hs lk k => k t h r hs lk⟩ (fun p _ ih => ⟨fun C x t h r hs lk k => (zhe P N ops p.1 p.2).f C x t h r hs lk (fun t h r hs lk => ih.f C x t h r hs lk k)⟩)
def LookFine (P : Program) (hs : List Heap) (l : Look) : Prop :=
 l.lo < hs.length /\ l.hi = l.lo /\ ∃ hk, hs[hs.length - 1 - l.lo]? = some hk /\ zae P l.tm hk l.o = some (l.v, hk) /\ same 20 l.v l.v = true /\ within 20 l.n l.v = true
theorem LookFine.more {P : Program} {hs : List Heap} {l : Look} (f : LookFine P hs l) (h : Heap) : LookFine P (h :: hs) l := by
 obtain ⟨h1, h2, hk, h3, h4⟩ := f
 refine ⟨by simp only [List.length_cons]; omega, h2, hk, ?_, h4⟩
 rw [show (h :: hs).length - 1 - l.lo = hs.length - 1 - l.lo + 1 by simp only [List.length_cons]; omega, List.getElem?_cons_succ]
 exact h3
theorem LookFine.ok {P : Program} {hs : List Heap} {l : Look} (f : LookFine P hs l) : zbY P hs l = true := by
 obtain ⟨h1, h2, hk, h3, h4, h5, h6⟩ := f
 unfold zbY
 rw [List.all_eq_true]
 intro k hk'
 by_cases h7 : k < l.lo
 ·simp [h7]
 ·by_cases h8 : l.hi < k
  ·simp [h8]
  ·have : k = l.lo := by omega
   subst this
   simp only [Bool.or_eq_true]; right
   rw [h3]; simp only [h4, h5, h6, Bool.true_and, Bool.and_true]
   exact beq_self_eq_true _
structure CalmZ (P : Program) (N : Nat) (ops : Array Oper) (k : Nat) (z : Open) (t : Vt) (h : Heap) (r : Rest) (hs : List Heap) (lk : List LookC) : Prop where
 s : z.s = FS.st N ⟨t, r.df, r.up, h⟩
 news : z.news = []
 hsq : z.hs = hs
 head : ∃ l, hs = h :: l
 len : hs.length = k + 1
 looks : ∀ l ∈ z.looks, LookFine P hs l \/ l ∈ lk.map (LookC.look ops N)
theorem zn0 {P : Program} {K : Known} {C : RecK} (hC : OkK P K C) {N : Nat} {x : Ctx} {ops : Array Oper} {i : Nat} {o : Oper} (hi : ops[i]? = some o) (ht : zmx o = true) {k : UN β} {b : β} {t : Vt} {h : Heap} {r : Rest} {hs : List Heap} {lk : List LookC} {z : Open} (hz : CalmZ P N ops (zbz ops i) z t h r hs lk)
  (e : (zhe P N ops i o).f C x t h r hs lk k = some b) : ∃ z' t' h' r' hs' lk', zaC P (lim P K) x ops (preds ops.toList) z i = some z' /\ CalmZ P N ops (zbz ops (i + 1)) z' t' h' r' hs' lk' /\ k t' h' r' hs' lk' = some b := by
 have hahead : zbz ops (i + 1) = zbz ops i + (if zaf o then 0 else 1) := by
  unfold zbz
  rw [List.range_succ, List.filter_append, List.length_append]
  congr 1
  simp only [List.filter_cons, List.filter_nil, hi]
  cases zaf o <;> rfl
 have key : (bif (zce N ops o).f t then (znL P N ops i o).f C x t h r hs lk k else k ((putC N o.dst).f t undef) h r (bif zaf o then hs else h :: hs) lk) = some b := by
  unfold zhe at e
  cases hg : o.guard with
  | none => rw [hg] at e; rw [show (zce N ops o).f t = true by unfold zce; rw [hg]]; exact e
  | some p => rw [hg] at e; exact e
 obtain ⟨hl, hhd⟩ := hz.head
 have hnews := hz.news
 have hlen := hz.len
 have hlooks := hz.looks
 have hs1 := hz.s
 have hs2 := hz.hsq
 obtain ⟨zs, zh, zl, zn⟩ := z
 simp only at hs1 hs2 hnews hlooks
 subst hs1; subst hs2; subst hnews; subst hhd
 rw [zfB] at key
 unfold zaC; simp only [hi]
 cases hw : zaX ops (zaz N t) o with
 | false =>
  rw [hw] at key; simp only [cond_false] at key
  have hw' : zaX ops (FS.st N ⟨t, r.df, r.up, h⟩).tm o = false := hw
  cases hsi : zaf o with
  | true =>
   rw [hsi] at hahead key
   refine ⟨_, _, _, _, _, _, by simp only [hw', Bool.false_eq_true, if_false, if_true]; rfl, ⟨?_, rfl, rfl, ⟨hl, rfl⟩, by simpa [hahead] using hlen, hlooks⟩, key⟩
   simp only [FS.st, zbS]
  | false =>
   rw [hsi] at hahead key
   refine ⟨_, _, _, _, _, _, by simp only [hw', Bool.false_eq_true, if_false]; rfl, ⟨?_, rfl, rfl, ⟨h :: hl, rfl⟩, by simp only [List.length_cons, hahead] at hlen ⊢; simp; omega, fun l hm => (hlooks l hm).imp (fun q => q.more _) id⟩, key⟩
   simp only [FS.st, zbS]
 | true =>
  rw [hw] at key; simp only [cond_true] at key
  have hw' : zaX ops (FS.st N ⟨t, r.df, r.up, h⟩).tm o = true := hw
  unfold znL at key
  cases hk : zah P o with
  | false => rw [hk] at key; cases key
  | true =>
  rw [hk] at key; simp only [cond_true] at key
  cases hsi : zaf o with
  | false =>
   rw [hsi] at hahead key
   simp only [cond_false] at key
   obtain ⟨d, s1, hop, hgo⟩ := zoX key
   have hdo : doOp P (lim P K) x (FS.st N ⟨t, r.df, r.up, h⟩) o = some (d, s1.st N) := by
    refine zjj hC.under ?_
    unfold okC; rw [hk]; exact hop
   cases d with
   | panic c => cases hgo
   | val v =>
    simp only [hw', Bool.false_eq_true, if_false, if_true]
    unfold zcn
    have e1 : unseen (preds ops.toList) [] i = [] := rfl
    have e2 : ({ FS.st N ⟨t, r.df, r.up, h⟩ with h := (FS.st N ⟨t, r.df, r.up, h⟩).h } : St) = FS.st N ⟨t, r.df, r.up, h⟩ := rfl
    simp only [e1, hide, unhide, List.foldl_nil, List.all_nil, if_true, e2, hdo]
    refine ⟨_, _, _, _, _, _, rfl, ⟨?_, rfl, rfl, ⟨h :: hl, rfl⟩, by simp only [List.length_cons, hahead] at hlen ⊢; simp; omega, fun l hm => (hlooks l hm).imp (fun q => q.more _) id⟩, hgo⟩
    simp only [FS.st, zbS]
  | true =>
   rw [hsi] at hahead key
   simp only [cond_true] at key
   unfold zmx at ht
   rw [hsi] at ht
   simp only [Bool.not_true, Bool.false_or] at ht
   have hna := ht
   simp only [hw', if_true]
   have fin : ∀ v t1 lk', zaz N t1 = zaz N t -> zae P (zaz N t) h o = some (v, h) -> k ((putC N o.dst).f t1 v) h r (h :: hl) lk' = some b ->
     (∀ l ∈ lk, l ∈ lk') -> (looks o = true -> zfV ops i = true /\ same 20 v v = true /\ within 20 h.n v = true \/ ⟨o, i, t, v, h.n⟩ ∈ lk') ->
     ∃ z' t' h' r' hs' lk', zbo P ops (preds ops.toList) ⟨FS.st N ⟨t, r.df, r.up, h⟩, h :: hl, zl, []⟩ i o = some z' /\ CalmZ P N ops (zbz ops (i + 1)) z' t' h' r' hs' lk' /\ k t' h' r' hs' lk' = some b := by
    intro v t1 lk' ht1 hv hkn hsub hq
    unfold zbo
    rw [hk]; simp only [if_true]
    have hv' : zae P (FS.st N ⟨t, r.df, r.up, h⟩).tm (FS.st N ⟨t, r.df, r.up, h⟩).h o = some (v, h) := hv
    rw [hv']
    have hb : (h.n == (FS.st N ⟨t, r.df, r.up, h⟩).h.n) = true := beq_self_eq_true _
    simp only [hb, if_true]
    have old : ∀ l ∈ zl, LookFine P (h :: hl) l \/ l ∈ lk'.map (LookC.look ops N) := fun l hm => (hlooks l hm).imp id fun q => by
     obtain ⟨a, ha, rfl⟩ := List.mem_map.1 q
     exact List.mem_map.2 ⟨a, hsub _ ha, rfl⟩
    refine ⟨_, (putC N o.dst).f t1 v, h, r, h :: hl, lk', rfl, ⟨?_, rfl, rfl, ⟨hl, rfl⟩, by simpa [hahead] using hlen, ?_⟩, hkn⟩
    ·simp only [FS.st, zbS, ht1]
    ·intro l hm
     cases hlk : looks o with
     | false => rw [hlk] at hm; exact old l hm
     | true =>
      rw [hlk] at hm
      simp only [if_true] at hm
      rcases List.mem_cons.1 hm with rfl | hm
      ·rcases hq hlk with ⟨h0, h3, h4⟩ | h0
       ·left
        unfold zfV at h0
        rw [Bool.and_eq_true] at h0
        have h1 : zci ops ((preds ops.toList).getD i []) = zbz ops i := (zmE ops i).trans (Nat.eq_of_beq_eq_true h0.1)
        have h2 : zaW ops (preds ops.toList) i = zbz ops i := (zd8 ops i).trans (Nat.eq_of_beq_eq_true h0.2)
        have hlen' : (h :: hl).length = zbz ops i + 1 := hlen
        refine ⟨by show zci _ _ < (h :: hl).length; omega, by show zaW _ _ _ = zci _ _; omega, h, ?_, hv, h3, h4⟩
        show (h :: hl)[(h :: hl).length - 1 - zci ops ((preds ops.toList).getD i [])]? = some h
        rw [show (h :: hl).length - 1 - zci ops ((preds ops.toList).getD i []) = 0 by omega]; rfl
       ·right; exact List.mem_map.2 ⟨_, h0, rfl⟩
      ·exact old l hm
   have viaOp : DidK P N o C x t h r (fun t h1 r => k t h1 r (h :: hl) lk) noEx b -> ∃ v t1, zaz N t1 = zaz N t /\ zae P (zaz N t) h o = some (v, h) /\ k ((putC N o.dst).f t1 v) h r (h :: hl) lk = some b := by
    rintro ⟨d, s1, hop, hgo⟩
    have hth := zoY hC.under hop
    rw [zd5, zcu hsi] at hth
    have hth : valF (FS.st N ⟨t, r.df, r.up, h⟩) (zae P (zaz N t) h o) = some (d, s1.st N) := hth
    cases hb : zae P (zaz N t) h o with
    | none => rw [hb] at hth; cases hth
    | some p =>
     obtain ⟨v, h1⟩ := p
     have hh := zfp hna hb
     rw [hb] at hth
     simp only [valF, zk3, Option.some.injEq, Prod.mk.injEq] at hth
     obtain ⟨e1, e2⟩ := hth
     subst e1
     obtain ⟨t1, d1, u1, h2⟩ := s1
     simp only [FS.st, St.mk.injEq] at e2
     obtain ⟨e3, rfl, rfl, rfl⟩ := e2
     rw [hh]
     refine ⟨v, t1, e3.symm, rfl, ?_⟩
     have hgo : k ((putC N o.dst).f t1 v) h1 r (h :: hl) lk = some b := hgo
     rw [hh] at hgo; exact hgo
   cases hlk : looks o with
   | true =>
    rw [hlk] at key; simp only [cond_true] at key
    have see : ∀ v, (seeK P N o).f t h = some v -> zae P (zaz N t) h o = some (v, h) := by
     intro v e
     unfold seeK at e
     have gen : (match simC P N o t h with | some p => some p.1 | none => none) = some v -> zae P (zaz N t) h o = some (v, h) := by
      intro e
      cases hc : simC P N o t h with
      | none => rw [hc] at e; cases e
      | some p =>
       obtain ⟨w, h1⟩ := p
       have hb := zkq hsi hc
       rw [hc] at e; cases e
       rw [hb, zfp hna hb]
     cases ho : o.op with
     | load ty a =>
      rw [ho] at e; simp only [] at e
      rw [zbv, zhP, zhO] at e
      simp only [zae, ho, e, Option.map_some]
     | _ => rw [ho] at e; exact gen e
    unfold lookK at key
    cases hta : zfV ops i with
    | true =>
     rw [hta] at key; simp only [cond_true] at key
     cases hc : (seeK P N o).f t h with
     | none => rw [hc] at key; cases key
     | some v =>
      rw [hc] at key
      have key : (bif zi1 v h.n then k ((putC N o.dst).f t v) h r (h :: hl) lk else none) = some b := key
      cases hq : zi1 v h.n with
      | false => rw [hq] at key; cases key
      | true =>
       rw [hq] at key
       exact fin v t lk rfl (see v hc) key (fun l hl => hl) (fun _ => .inl ⟨hta, zoK hq⟩)
    | false =>
     rw [hta] at key; simp only [cond_false] at key
     cases hc : (seeK P N o).f t h with
     | none => rw [hc] at key; cases key
     | some v =>
      rw [hc] at key
      exact fin v t _ rfl (see v hc) key (fun l hl => List.mem_cons_of_mem _ hl) (fun _ => .inr (List.mem_cons_self ..))
   | false =>
    rw [hlk] at key; simp only [cond_false] at key
    obtain ⟨v, t1, h0, h1, h2⟩ := viaOp (zoX key)
    exact fin v t1 lk h0 h1 h2 (fun l hl => hl) (fun q => by rw [hlk] at q; cases q)
theorem useqK_ok {P : Program} {K : Known} {C : RecK} (hC : OkK P K C) {N : Nat} {x : Ctx} {ops : Array Oper} (hcalm : calm ops = true) {k : UN β} {b : β} : ∀ (n i : Nat), i + n = ops.size -> ∀ t h r hs lk z, CalmZ P N ops (zbz ops i) z t h r hs lk -> (useqK P N ops (numbered (ops.toList.drop i) i)).f C x t h r hs lk k = some b ->
  ∃ z' t' h' r' hs' lk', (List.range' i n).foldlM (zaC P (lim P K) x ops (preds ops.toList)) z = some z' /\ CalmZ P N ops (zbz ops ops.size) z' t' h' r' hs' lk' /\ k t' h' r' hs' lk' = some b := by
 intro n
 induction n with
 | zero =>
  intro i hi t h r hs lk z hz e
  rw [List.drop_eq_nil_of_le (by simp; omega)] at e
  rw [show i = ops.size by omega] at hz
  exact ⟨z, t, h, r, hs, lk, rfl, hz, e⟩
 | succ n ih =>
  intro i hi t h r hs lk z hz e
  have hlt : i < ops.size := by omega
  have hd : ops.toList.drop i = ops[i] :: ops.toList.drop (i + 1) := by
   rw [List.drop_eq_getElem_cons (by simpa using hlt)]; simp
  rw [hd] at e
  have e : (zhe P N ops i ops[i]).f C x t h r hs lk (fun t h r hs lk => (useqK P N ops (numbered (ops.toList.drop (i + 1)) (i + 1))).f C x t h r hs lk k) = some b := e
  have ho : ops[i]? = some ops[i] := Array.getElem?_eq_getElem hlt
  have hta : zmx ops[i] = true := by
   unfold calm at hcalm
   rw [List.all_eq_true] at hcalm
   exact hcalm _ (by simp)
  obtain ⟨z1, t1, h1, r1, hs1, lk1, a, bb, c⟩ := zn0 hC ho hta hz e
  obtain ⟨z2, t2, h2, r2, hs2, lk2, a2, b2, c2⟩ := ih (i + 1) (by omega) _ _ _ _ _ _ bb c
  refine ⟨z2, t2, h2, r2, hs2, lk2, ?_, b2, c2⟩
  rw [List.range'_succ, List.foldlM_cons, a]; exact a2
noncomputable def zeg (P : Program) (N : Nat) (ops : Array Oper) : Bx (KOp β) :=
 bif calm ops && zej ops then ⟨fun C x t h r kn _ => (useqK P N ops (numbered ops.toList 0)).f C x t h r [h] [] fun t h r hs lk => bif zct P ops N hs lk then kn t h r else none⟩ else ⟨fun C x t h r kn ke => match (zkK P N ops).f (toC C) x ⟨t, r.df, r.up, h⟩ with | some (.normal, s) => kn s.t s.h ⟨s.df, s.up⟩ | some (e, s) => ke e s.t s.h ⟨s.df, s.up⟩ | none => none⟩
theorem znj {P : Program} {K : Known} {C : RecK} (hC : OkK P K C) {N : Nat} {x : Ctx} {ops : Array Oper} {kn : Vt -> Heap -> Rest -> Option β} {ke : Ex -> Vt -> Heap -> Rest -> Option β} {b : β} {t : Vt} {h : Heap} {r : Rest} (e : (zeg P N ops).f C x t h r kn ke = some b) :
  ∃ (ex : Ex) (s1 : FS), zbD P (lim P K) x ops (FS.st N ⟨t, r.df, r.up, h⟩) = some (ex, s1.st N) /\ (match ex with | .normal => kn s1.t s1.h ⟨s1.df, s1.up⟩ | ex => ke ex s1.t s1.h ⟨s1.df, s1.up⟩) = some b := by
 unfold zeg at e
 cases hb : (calm ops && zej ops) with
 | false =>
  rw [hb] at e; simp only [cond_false] at e
  cases hc : (zkK P N ops).f (toC C) x ⟨t, r.df, r.up, h⟩ with
  | none => rw [hc] at e; cases e
  | some p =>
   obtain ⟨ex, s1⟩ := p
   rw [hc] at e
   exact ⟨ex, s1, zl2 hC.under hc, by cases ex <;> exact e⟩
 | true =>
  rw [hb] at e; simp only [cond_true] at e
  have hb : calm ops = true /\ zdf ops = true := by rw [zhW]; simpa using hb
  have h0 : CalmZ P N ops (zbz ops 0) ⟨FS.st N ⟨t, r.df, r.up, h⟩, [h], [], []⟩ t h r [h] [] := ⟨rfl, rfl, rfl, ⟨[], rfl⟩, rfl, fun l hm => by cases hm⟩
  obtain ⟨z, t1, h1, r1, hs1, lk1, a, hz, c⟩ := useqK_ok hC hb.1 ops.size 0 (by omega) t h r _ _ _ h0 (by simpa using e)
  cases hal : zct P ops N hs1 lk1 with
  | false => rw [hal] at c; cases c
  | true =>
   rw [hal] at c; simp only [cond_true] at c
   refine ⟨.normal, ⟨t1, r1.df, r1.up, h1⟩, ?_, c⟩
   unfold zbD
   rw [if_pos hb.2, List.range_eq_range']
   have e0 : (FS.st N ⟨t, r.df, r.up, h⟩).h = h := rfl
   rw [e0, a]
   have hall : z.looks.all (zbY P z.hs) = true := by
    rw [List.all_eq_true]
    intro l hl
    rw [hz.hsq]
    rcases hz.looks l hl with q | q
    ·exact q.ok
    ·have := zgO _ hal
     rw [List.all_eq_true] at this
     exact this l q
   show (if (decide (z.hs.length <= 1) || z.looks.all (zbY P z.hs)) = true then some (Ex.normal, z.s) else none) = _
   rw [hall, Bool.or_true, if_pos rfl, hz.s]
end
end Go.AX

namespace Go.AX
section
variable {β : Type}
noncomputable def okK (P : Program) (N : Nat) (o : Oper) : Bx (KOp β) := bif zah P o then opK P N o else ⟨fun _ _ _ _ _ _ _ => none⟩
noncomputable def zn3 (P : Program) (N : Nat) (ops : Array Oper) (o : Oper) : Bx (KOp β) :=
 match o.guard with
 | none => okK P N o
 | some _ => ⟨fun C x t h r kn ke => bif (zce N ops o).f t then (okK P N o).f C x t h r kn ke else kn ((putC N o.dst).f t undef) h r⟩
noncomputable def seqK (P : Program) (N : Nat) (ops : Array Oper) : List Oper -> Bx (KOp β) :=
 @List.rec Oper (fun _ => Bx (KOp β)) ⟨fun _ _ t h r kn _ => kn t h r⟩ (fun o _ ih => ⟨fun C x t h r kn ke => (zn3 P N ops o).f C x t h r (fun t h r => ih.f C x t h r kn ke) ke⟩)
noncomputable def goK (kn : Vt -> Heap -> Rest -> Option β) (ke : Ex -> Vt -> Heap -> Rest -> Option β) (e : Ex) (s : FS) : Option β :=
 match e with
 | .normal => kn s.t s.h ⟨s.df, s.up⟩
 | e => ke e s.t s.h ⟨s.df, s.up⟩
theorem seqK_ok {P : Program} {K : Known} {C : RecK} (hC : OkK P K C) {N : Nat} {x : Ctx} (ops : Array Oper) {kn : Vt -> Heap -> Rest -> Option β} {ke : Ex -> Vt -> Heap -> Rest -> Option β} {b : β} : ∀ (n i : Nat), i + n = ops.size -> ∀ t h r, (seqK P N ops (ops.toList.drop i)).f C x t h r kn ke = some b ->
  ∃ m e s1, zbm P (run P K m) x ops (List.range' i n) (FS.st N ⟨t, r.df, r.up, h⟩) = some (e, s1.st N) /\ goK kn ke e s1 = some b := by
 intro n
 induction n with
 | zero =>
  intro i hi t h r e
  rw [List.drop_eq_nil_of_le (by simp; omega)] at e
  exact ⟨0, .normal, ⟨t, r.df, r.up, h⟩, rfl, e⟩
 | succ n ih =>
  intro i hi t h r e
  have hlt : i < ops.size := by omega
  have hd : ops.toList.drop i = ops[i] :: ops.toList.drop (i + 1) := by
   rw [List.drop_eq_getElem_cons (by simpa using hlt)]; simp
  rw [hd] at e
  have e : (zn3 P N ops ops[i]).f C x t h r (fun t h r => (seqK P N ops (ops.toList.drop (i + 1))).f C x t h r kn ke) ke = some b := e
  have key : (bif (zce N ops ops[i]).f t then (okK P N ops[i]).f C x t h r (fun t h r => (seqK P N ops (ops.toList.drop (i + 1))).f C x t h r kn ke) ke else (seqK P N ops (ops.toList.drop (i + 1))).f C x ((putC N ops[i].dst).f t undef) h r kn ke) = some b := by
   unfold zn3 at e
   cases hg : ops[i].guard with
   | none => rw [hg] at e; rw [show (zce N ops ops[i]).f t = true by unfold zce; rw [hg]]; exact e
   | some p => rw [hg] at e; exact e
  rw [zfB] at key
  rw [List.range'_succ]
  cases hw : zaX ops (zaz N t) ops[i] with
  | false =>
   rw [hw] at key; simp only [cond_false] at key
   obtain ⟨m, e1, s1, h1, h2⟩ := ih (i + 1) (by omega) _ _ _ key
   refine ⟨m, e1, s1, ?_, h2⟩
   simp only [zbm, Array.getElem?_eq_getElem hlt]
   show (if zaX ops (zaz N t) ops[i] then _ else _) = _
   rw [hw]
   simp only [FS.st, zbS] at h1 ⊢
   exact h1
  | true =>
   rw [hw] at key; simp only [cond_true] at key
   unfold okK at key
   cases hk : zah P ops[i] with
   | false => rw [hk] at key; cases key
   | true =>
    rw [hk] at key; simp only [cond_true] at key
    obtain ⟨d, s1, hop, hgo⟩ := zoX key
    have hdo : doOp P (lim P K) x (FS.st N ⟨t, r.df, r.up, h⟩) ops[i] = some (d, s1.st N) := by
     refine zjj hC.under ?_
     unfold okC; rw [hk]; exact hop
    obtain ⟨m1, hm1⟩ := zms hdo
    cases d with
    | panic c =>
     refine ⟨m1, .panic c, s1, ?_, hgo⟩
     simp only [zbm, Array.getElem?_eq_getElem hlt]
     show (if zaX ops (zaz N t) ops[i] then _ else _) = _
     rw [hw, hm1]; rfl
    | val v =>
     obtain ⟨m2, e2, s2, h2, h3⟩ := ih (i + 1) (by omega) _ _ _ hgo
     refine ⟨max m1 m2, e2, s2, ?_, h3⟩
     simp only [zbm, Array.getElem?_eq_getElem hlt]
     show (if zaX ops (zaz N t) ops[i] then _ else _) = _
     rw [hw, zdO (zap P K (Nat.le_max_left m1 m2)) hm1]
     have := zdq (zap P K (Nat.le_max_right m1 m2)) _ _ _ h2
     simp only [FS.st, zbS] at this ⊢
     exact this
noncomputable def boolK (v : Value) (a b : Option β) : Option β := match v with | .bool t => bif t then a else b | _ => none
noncomputable def zir (id : Nat) (kn : Vt -> Heap -> Rest -> Option β) (ke : Ex -> Vt -> Heap -> Rest -> Option β) (e : Ex) (t : Vt) (h : Heap) (r : Rest) : Option β :=
 match e with
 | .exit i => bif Nat.beq i id then kn t h r else ke (.exit i) t h r
 | e => ke e t h r
noncomputable def zo2 (b : Bx (KOp β)) (C : RecK) (x : Ctx) (ke : Ex -> Vt -> Heap -> Rest -> Option β) : Nat -> Vt -> Heap -> Rest -> Option β :=
 @Nat.rec (fun _ => Vt -> Heap -> Rest -> Option β) (fun _ _ _ => none) (fun _ ih t h r => b.f C x t h r ih ke)
noncomputable def pendK (l : Nat) (mark : List Deferred) (t : Vt) (r : Rest) (h : Heap) (kn : Vt -> Heap -> Rest -> Option β) (ke : Ex -> Vt -> Heap -> Rest -> Option β) : Option β :=
 match zbI h l with
 | some q => bif q.state == .busy then none else
  match q.pending with
  | none => kn t (h.set l (.obj (.loop { q with state := .exhausted }))) ⟨mark ++ r.df, r.up⟩
  | some .ret => ke .ret t (h.set l (.obj (.loop { q with state := .exhausted }))) ⟨mark ++ r.df, r.up⟩
  | some (.exit i) => ke (.exit i) t (h.set l (.obj (.loop { q with state := .exhausted }))) ⟨mark ++ r.df, r.up⟩
  | _ => none
 | none => none
noncomputable def zlX (P : Program) (N : Nat) (f : Operand) (params : Array Tmp) (assign body : Code) (C : RecK) (x : Ctx) (t : Vt) (h : Heap) (r : Rest) (kn : Vt -> Heap -> Rest -> Option β) (ke : Ex -> Vt -> Heap -> Rest -> Option β) : Option β :=
 match zbF x (FS.st N ⟨t, r.df, r.up, h⟩) params assign body with
 | none => none
 | some (l, mark, h) =>
  match zaN P ((evC N f).f t) #[.func (.yield l) #[] #[]] with
  | some (.enter g args) =>
   match C.call g args false .run h with
   | some (.ret _, _, h) => pendK l mark t r h kn ke
   | some (.panic c, _, h) => ke (.panic c) t h ⟨mark ++ r.df, r.up⟩
   | none => none
  | _ => none
noncomputable def zfb (P : Program) (N : Nat) (F : Nat) : Code -> Bx (KOp β) :=
 @Code.rec (fun _ => Bx (KOp β))
  ⟨fun _ _ t h r kn _ => kn t h r⟩
  (fun _ ops draw => bif draw then zeg P N ops else seqK P N ops ops.toList)
  (fun _ _ a b => ⟨fun C x t h r kn ke => a.f C x t h r (fun t h r => b.f C x t h r kn ke) ke⟩)
  (fun c _ _ a b => ⟨fun C x t h r kn ke => boolK ((evC N c).f t) (a.f C x t h r kn ke) (b.f C x t h r kn ke)⟩)
  (fun id _ b => ⟨fun C x t h r kn ke => b.f C x t h r kn (zir id kn ke)⟩)
  (fun _ b => ⟨fun C x t h r _ ke => zo2 b C x ke F t h r⟩)
  (fun f params assign body _ _ => bif opOK P f then ⟨zlX P N f params assign body⟩ else ⟨fun _ _ _ _ _ _ _ => none⟩)
  (fun id => ⟨fun _ _ t h r _ ke => ke (.exit id) t h r⟩)
  (fun _ b => b)
  (fun _ => ⟨fun _ _ t h r kn _ => kn t h r⟩)
  (fun _ => ⟨fun _ _ _ _ _ _ _ => none⟩)
  ⟨fun _ _ t h r _ ke => ke .ret t h r⟩
  (fun _ => ⟨fun _ _ _ _ _ _ _ => none⟩)
def Does (P : Program) (K : Known) (x : Ctx) (N : Nat) (c : Code) (t : Vt) (h : Heap) (r : Rest) (kn : Vt -> Heap -> Rest -> Option β) (ke : Ex -> Vt -> Heap -> Rest -> Option β) (b : β) : Prop :=
 ∃ m e s1, (run P K m).code x c (FS.st N ⟨t, r.df, r.up, h⟩) = some (e, s1.st N) /\ goK kn ke e s1 = some b
theorem zeV {P : Program} {K : Known} {C : RecK} (hC : OkK P K C) {N F : Nat} {x : Ctx} (c : Code) : ∀ (kn : Vt -> Heap -> Rest -> Option β) (ke : Ex -> Vt -> Heap -> Rest -> Option β) (b : β) (t : Vt) (h : Heap) (r : Rest), (zfb P N F c).f C x t h r kn ke = some b -> Does P K x N c t h r kn ke b := by
 induction c with
 | skip => intro kn ke b t h r e; exact ⟨1, .normal, ⟨t, r.df, r.up, h⟩, rfl, e⟩
 | region id ops draw =>
  intro kn ke b t h r e
  have e : (bif draw then (zeg P N ops : Bx (KOp β)) else seqK P N ops ops.toList).f C x t h r kn ke = some b := e
  cases draw with
  | true =>
   simp only [cond_true] at e
   obtain ⟨e1, s1, h1, h2⟩ := znj hC e
   obtain ⟨m, hm⟩ := zkI h1
   exact ⟨m + 1, e1, s1, hm, by cases e1 <;> exact h2⟩
  | false =>
   simp only [cond_false] at e
   obtain ⟨m, e1, s1, h1, h2⟩ := seqK_ok hC ops ops.size 0 (by omega) t h r (by simpa using e)
   refine ⟨m + 1, e1, s1, ?_, h2⟩
   show zbm P (run P K m) x ops (List.range ops.size) _ = _
   rw [List.range_eq_range']; exact h1
 | seq a b iha ihb =>
  intro kn ke v t h r e
  have e : (zfb P N F a).f C x t h r (fun t h r => (zfb P N F b).f C x t h r kn ke) ke = some v := e
  obtain ⟨m1, e1, s1, h1, h2⟩ := iha _ _ _ _ _ _ e
  cases e1 with
  | normal =>
   obtain ⟨m2, e2, s2, h3, h4⟩ := ihb _ _ _ _ _ _ h2
   refine ⟨max m1 m2 + 1, e2, s2, ?_, h4⟩
   show (match (run P K (max m1 m2)).code x a _ with | some (.normal, s) => (run P K (max m1 m2)).code x b s | r => r) = _
   rw [(zap P K (Nat.le_max_left m1 m2)).code _ _ _ _ h1]
   exact (zap P K (Nat.le_max_right m1 m2)).code _ _ _ _ h3
  | ret =>
   refine ⟨m1 + 1, .ret, s1, ?_, h2⟩
   show (match (run P K m1).code x a _ with | some (.normal, s) => (run P K m1).code x b s | r => r) = _
   rw [h1]
  | exit i =>
   refine ⟨m1 + 1, .exit i, s1, ?_, h2⟩
   show (match (run P K m1).code x a _ with | some (.normal, s) => (run P K m1).code x b s | r => r) = _
   rw [h1]
  | panic c =>
   refine ⟨m1 + 1, .panic c, s1, ?_, h2⟩
   show (match (run P K m1).code x a _ with | some (.normal, s) => (run P K m1).code x b s | r => r) = _
   rw [h1]
 | cond c a b iha ihb =>
  intro kn ke v t h r e
  have e : boolK ((evC N c).f t) ((zfb P N F a).f C x t h r kn ke) ((zfb P N F b).f C x t h r kn ke) = some v := e
  rw [zbv] at e
  cases hv : ev (zaz N t) c with
  | bool q =>
   rw [hv] at e
   cases q with
   | true =>
    obtain ⟨m, e1, s1, h1, h2⟩ := iha _ _ _ _ _ _ e
    refine ⟨m + 1, e1, s1, ?_, h2⟩
    show (match ev (zaz N t) c with | .bool t => (run P K m).code x (if t then a else b) _ | _ => none) = _
    rw [hv]; exact h1
   | false =>
    obtain ⟨m, e1, s1, h1, h2⟩ := ihb _ _ _ _ _ _ e
    refine ⟨m + 1, e1, s1, ?_, h2⟩
    show (match ev (zaz N t) c with | .bool t => (run P K m).code x (if t then a else b) _ | _ => none) = _
    rw [hv]; exact h1
  | _ => rw [hv] at e; cases e
 | block id b ih =>
  intro kn ke v t h r e
  have e : (zfb P N F b).f C x t h r kn (zir id kn ke) = some v := e
  obtain ⟨m, e1, s1, h1, h2⟩ := ih _ _ _ _ _ _ e
  cases e1 with
  | exit i =>
   have h2 : (bif Nat.beq i id then kn s1.t s1.h ⟨s1.df, s1.up⟩ else ke (.exit i) s1.t s1.h ⟨s1.df, s1.up⟩) = some v := h2
   cases hi : Nat.beq i id with
   | true =>
    rw [hi] at h2
    refine ⟨m + 1, .normal, s1, ?_, h2⟩
    show (match (run P K m).code x b _ with | some (Ex.exit i, s) => if i = id then some (Ex.normal, s) else some (Ex.exit i, s) | r => r) = _
    rw [h1]; simp only [Nat.eq_of_beq_eq_true hi, if_true]
   | false =>
    rw [hi] at h2
    refine ⟨m + 1, .exit i, s1, ?_, h2⟩
    show (match (run P K m).code x b _ with | some (Ex.exit i, s) => if i = id then some (Ex.normal, s) else some (Ex.exit i, s) | r => r) = _
    rw [h1]
    have : ¬ i = id := fun q => by rw [q, Nat.beq_refl] at hi; cases hi
    simp only [if_neg this]
  | normal =>
   refine ⟨m + 1, .normal, s1, ?_, h2⟩
   show (match (run P K m).code x b _ with | some (Ex.exit i, s) => if i = id then some (Ex.normal, s) else some (Ex.exit i, s) | r => r) = _
   rw [h1]
  | ret =>
   refine ⟨m + 1, .ret, s1, ?_, h2⟩
   show (match (run P K m).code x b _ with | some (Ex.exit i, s) => if i = id then some (Ex.normal, s) else some (Ex.exit i, s) | r => r) = _
   rw [h1]
  | panic c =>
   refine ⟨m + 1, .panic c, s1, ?_, h2⟩
   show (match (run P K m).code x b _ with | some (Ex.exit i, s) => if i = id then some (Ex.normal, s) else some (Ex.exit i, s) | r => r) = _
   rw [h1]
 | loop b ih =>
  intro kn ke v t h r e
  have key : ∀ n t h r, zo2 (zfb P N F b) C x ke n t h r = some v -> Does P K x N (.loop b) t h r kn ke v := by
   intro n
   induction n with
   | zero => intro t h r e; cases e
   | succ n ihn =>
    intro t h r e
    have e : (zfb P N F b).f C x t h r (zo2 (zfb P N F b) C x ke n) ke = some v := e
    obtain ⟨m1, e1, s1, h1, h2⟩ := ih _ _ _ _ _ _ e
    cases e1 with
    | normal =>
     obtain ⟨m2, e2, s2, h3, h4⟩ := ihn _ _ _ h2
     refine ⟨max m1 m2 + 1, e2, s2, ?_, h4⟩
     show (match (run P K (max m1 m2)).code x b _ with | some (.normal, s) => (run P K (max m1 m2)).code x (.loop b) s | r => r) = _
     rw [(zap P K (Nat.le_max_left m1 m2)).code _ _ _ _ h1]
     exact (zap P K (Nat.le_max_right m1 m2)).code _ _ _ _ h3
    | ret =>
     refine ⟨m1 + 1, .ret, s1, ?_, h2⟩
     show (match (run P K m1).code x b _ with | some (.normal, s) => (run P K m1).code x (.loop b) s | r => r) = _
     rw [h1]
    | exit i =>
     refine ⟨m1 + 1, .exit i, s1, ?_, h2⟩
     show (match (run P K m1).code x b _ with | some (.normal, s) => (run P K m1).code x (.loop b) s | r => r) = _
     rw [h1]
    | panic c =>
     refine ⟨m1 + 1, .panic c, s1, ?_, h2⟩
     show (match (run P K m1).code x b _ with | some (.normal, s) => (run P K m1).code x (.loop b) s | r => r) = _
     rw [h1]
  exact key F t h r e
 | rangeFunc f params assign body _ _ =>
  intro kn ke v t h r e
  have e : (bif opOK P f then (⟨zlX P N f params assign body⟩ : Bx (KOp β)) else ⟨fun _ _ _ _ _ _ _ => none⟩).f C x t h r kn ke = some v := e
  cases hk : opOK P f with
  | false => rw [hk] at e; cases e
  | true =>
   rw [hk] at e; simp only [cond_true] at e
   unfold zlX at e
   have fin : ∀ m e1 s1, za6 P (run P K m) x (FS.st N ⟨t, r.df, r.up, h⟩) f params assign body = some (e1, s1.st N) -> goK kn ke e1 s1 = some v -> Does P K x N (.rangeFunc f params assign body) t h r kn ke v := fun m e1 s1 h1 h2 => ⟨m + 1, e1, s1, h1, h2⟩
   unfold za6 at fin
   cases he : zbF x (FS.st N ⟨t, r.df, r.up, h⟩) params assign body with
   | none => rw [he] at e; cases e
   | some p =>
    obtain ⟨l, mark, h1⟩ := p
    rw [he] at e fin
    simp only [zbv] at e
    simp only [hk, Bool.not_true, Bool.false_eq_true, if_false] at fin
    have hev : ev (FS.st N ⟨t, r.df, r.up, h⟩).tm f = ev (zaz N t) f := rfl
    cases hv : zaN P (ev (zaz N t) f) #[.func (.yield l) #[] #[]] with
    | none => rw [hv] at e; cases e
    | some out =>
     rw [hv] at e
     cases out with
     | enter g args =>
      simp only [hev, hv] at fin
      simp only [] at e
      cases hc : C.call g args false .run h1 with
      | none => rw [hc] at e; cases e
      | some q =>
       obtain ⟨m1, hm1⟩ := hC.call _ _ _ _ _ _ hc
       rw [hc] at e
       obtain ⟨e1, u, h2⟩ := q
       cases e1 with
       | panic c =>
        refine fin m1 (.panic c) ⟨t, mark ++ r.df, r.up, h2⟩ ?_ e
        rw [hm1]; rfl
       | ret w =>
        simp only [] at e
        unfold pendK at e
        cases hl : zbI h2 l with
        | none => rw [hl] at e; cases e
        | some q =>
         rw [hl] at e; simp only [] at e
         cases hb : (q.state == .busy) with
         | true => rw [hb] at e; cases e
         | false =>
          rw [hb] at e; simp only [cond_false] at e
          cases hp : q.pending with
          | none =>
           rw [hp] at e
           refine fin m1 .normal ⟨t, mark ++ r.df, r.up, h2.set l (.obj (.loop { q with state := .exhausted, pending := none }))⟩ ?_ e
           rw [hm1]; simp only [hl, hb, hp, Bool.false_eq_true, if_false]; rfl
          | some c =>
           rw [hp] at e
           cases c with
           | ret =>
            refine fin (m1 + 1) .ret ⟨t, mark ++ r.df, r.up, h2.set l (.obj (.loop { q with state := .exhausted, pending := some .ret }))⟩ ?_ e
            rw [(zap P K (Nat.le_succ m1)).call _ _ _ _ _ _ hm1]; simp only [hl, hb, hp, Bool.false_eq_true, if_false]; rfl
           | exit i =>
            refine fin (m1 + 1) (.exit i) ⟨t, mark ++ r.df, r.up, h2.set l (.obj (.loop { q with state := .exhausted, pending := some (.exit i) }))⟩ ?_ e
            rw [(zap P K (Nat.le_succ m1)).call _ _ _ _ _ _ hm1]; simp only [hl, hb, hp, Bool.false_eq_true, if_false]; rfl
           | _ => cases e
     | _ => cases e
 | exit id => intro kn ke b t h r e; exact ⟨1, .exit id, ⟨t, r.df, r.up, h⟩, rfl, e⟩
 | scope b ih =>
  intro kn ke v t h r e
  obtain ⟨m, e1, s1, h1, h2⟩ := ih _ _ _ _ _ _ e
  exact ⟨m + 1, e1, s1, h1, h2⟩
 | label l => intro kn ke b t h r e; exact ⟨1, .normal, ⟨t, r.df, r.up, h⟩, rfl, e⟩
 | goto l => intro kn ke b t h r e; cases e
 | ret => intro kn ke b t h r e; exact ⟨1, .ret, ⟨t, r.df, r.up, h⟩, rfl, e⟩
 | refuse w => intro kn ke b t h r e; cases e
end
noncomputable def zjr (P : Program) (C : RecK) (fn : Func) (N : Nat) (t : Vt) (h : Heap) (r : Rest) : Option (End × FrameMode × Heap) :=
 match r.df with
 | [] => retC r.up h (zfL (resL P N fn.results.toList t h))
 | _ :: _ => endC r.up (zaA P (zcP (toC C)) fn (zaz N t) r.df .returning h)
noncomputable def leaveKe (P : Program) (C : RecK) (fn : Func) (N : Nat) (e : Ex) (t : Vt) (h : Heap) (r : Rest) : Option (End × FrameMode × Heap) :=
 match e with
 | .ret => zjr P C fn N t h r
 | .panic ch => endC r.up (zaA P (zcP (toC C)) fn (zaz N t) r.df (.panicking ch) h)
 | _ => none
noncomputable def bodyK (P : Program) (F : Nat) (f : FuncId) : Bx (RecK -> Array Value -> Bool -> FrameMode -> Heap -> Option (End × FrameMode × Heap)) :=
 match P.funcs[f]? with
 | none => ⟨fun _ _ _ _ _ => none⟩
 | some fn => match fn.body with
  | none => ⟨fun _ _ _ _ _ => none⟩
  | some c => ⟨fun C args dfr up h => bif Nat.ble (lenL args.toList) fn.ntmps then (zfb P (nOf P f) F c).f C { fn := f, round := none, dfr } (zcy args.toList 0 .nil) h ⟨[], up⟩ (zjr P C fn (nOf P f)) (leaveKe P C fn (nOf P f)) else none⟩
noncomputable def znN (P : Program) (K : Known) (F : Nat) (C : RecK) (f : FuncId) (args : Array Value) (dfr : Bool) (up : FrameMode) (h : Heap) : Option (End × FrameMode × Heap) :=
 match (bif dfr then none else K f args h) with
 | some r => some (.ret r.1, up, zcm h r.2)
 | none => (bodyK P F f).f C args dfr up h
theorem zhi {P : Program} {K : Known} {C : RecK} (hC : OkK P K C) {fn : Func} {tm : Array Value} {ds : List Deferred} {u : FrameMode} {h : Heap} {r : End × Heap} (e : zaA P (zcP (toC C)) fn tm ds u h = some r) : ∃ m, zaA P (run P K m) fn tm ds u h = some r :=
 znt _ _ _ _ (ze6 (R := zcP (toC C)) (R' := lim P K) (fun f a d u h r e => by obtain ⟨m, hm⟩ := hC.call _ _ _ _ _ _ e; exact zmb hm) _ _ _ _ e)
theorem zo8 {P : Program} {K : Known} {C : RecK} (hC : OkK P K C) {fn : Func} {N : Nat} {t : Vt} {h : Heap} {r : Rest} {q : End × FrameMode × Heap} (e : zjr P C fn N t h r = some q) : ∃ m, (zaA P (run P K m) fn (zaz N t) r.df .returning h).map (fun p => (p.1, r.up, p.2)) = some q := by
 unfold zjr at e
 cases hd : r.df with
 | nil =>
  rw [hd] at e; simp only [zoC] at e
  refine ⟨0, ?_⟩
  unfold zaA
  cases hr : zby P fn (zaz N t) h with
  | none => rw [hr] at e; cases e
  | some v => rw [hr] at e; cases e; rfl
 | cons d ds =>
  rw [hd] at e; simp only [] at e
  cases hl : zaA P (zcP (toC C)) fn (zaz N t) (d :: ds) .returning h with
  | none => rw [hl] at e; cases e
  | some p =>
   obtain ⟨m, hm⟩ := zhi hC hl
   refine ⟨m, ?_⟩
   rw [hm]; rw [hl] at e; cases e; rfl
theorem callK_ok {P : Program} {K : Known} {F : Nat} {C : RecK} (hC : OkK P K C) (f : FuncId) (args : Array Value) (dfr : Bool) (up : FrameMode) (h : Heap) (r : End × FrameMode × Heap) (e : znN P K F C f args dfr up h = some r) : ∃ m, (run P K m).call f args dfr up h = some r := by
 suffices hs : ∃ m, zb8 P K (run P K m) f args dfr up h = some r by obtain ⟨m, hm⟩ := hs; exact ⟨m + 1, hm⟩
 simp only [<- zgI]
 unfold znN at e; unfold zhu
 cases hk : (bif dfr then none else K f args h) with
 | some q => rw [hk] at e; exact ⟨0, e⟩
 | none =>
  rw [hk] at e; simp only [] at e ⊢
  unfold bodyK at e; unfold bodyF
  cases hf : P.funcs[f]? with
  | none => rw [hf] at e; cases e
  | some fn =>
   rw [hf] at e; simp only [] at e ⊢
   cases hb : fn.body with
   | none => rw [hb] at e; cases e
   | some c =>
    rw [hb] at e; simp only [zcA] at e ⊢
    cases hl : Nat.ble args.toList.length fn.ntmps with
    | false => rw [hl] at e; cases e
    | true =>
     rw [hl] at e; simp only [cond_true] at e
     have hN : nOf P f = fn.ntmps := by unfold nOf; rw [hf]
     have htm : (⟨zer args.toList (undefs (fn.ntmps - args.size))⟩ : Array Value) = zaz (nOf P f) (zcy args.toList 0 .nil) := by
      rw [zcM _ _ (by rw [hN]; exact Nat.le_of_ble_eq_true hl), hN]
      apply Array.ext'; simp [zd7, zfU]
     obtain ⟨m1, e1, s1, h1, h2⟩ := zeV hC (x := { fn := f, round := none, dfr }) c _ _ _ _ _ _ e
     have h1 : (run P K m1).code { fn := f, round := none, dfr } c ⟨zaz (nOf P f) (zcy args.toList 0 .nil), [], up, h⟩ = some (e1, s1.st (nOf P f)) := h1
     rw [htm]
     have lo : zjr P C fn (nOf P f) s1.t s1.h ⟨s1.df, s1.up⟩ = some r -> ∃ m, (zaA P (run P K m) fn (s1.st (nOf P f)).tm (s1.st (nOf P f)).df .returning (s1.st (nOf P f)).h).map (fun p => (p.1, (s1.st (nOf P f)).up, p.2)) = some r := fun q => zo8 hC q
     have join : ∀ {α : Type} {u : FrameMode} {m2 : Nat} {ds : List Deferred} {tm : Array Value} {hh : Heap} {g : End × Heap -> α} {a : α}, (zaA P (run P K m2) fn tm ds u hh).map g = some a -> (zaA P (run P K (max m1 m2)) fn tm ds u hh).map g = some a := by
      intro α u m2 ds tm hh g a q
      cases hc : zaA P (run P K m2) fn tm ds u hh with
      | none => rw [hc] at q; cases q
      | some p => rw [zco (zap P K (Nat.le_max_right m1 m2)) _ _ _ _ hc]; rw [hc] at q; exact q
     cases e1 with
     | normal =>
      obtain ⟨m2, hm2⟩ := lo h2
      refine ⟨max m1 m2, ?_⟩
      rw [(zap P K (Nat.le_max_left m1 m2)).code _ _ _ _ h1]
      exact join hm2
     | ret =>
      obtain ⟨m2, hm2⟩ := lo h2
      refine ⟨max m1 m2, ?_⟩
      rw [(zap P K (Nat.le_max_left m1 m2)).code _ _ _ _ h1]
      exact join hm2
     | exit i => cases h2
     | panic ch =>
      have h2 : endC s1.up (zaA P (zcP (toC C)) fn (zaz (nOf P f) s1.t) s1.df (.panicking ch) s1.h) = some r := h2
      cases hq : zaA P (zcP (toC C)) fn (zaz (nOf P f) s1.t) s1.df (.panicking ch) s1.h with
      | none => rw [hq] at h2; cases h2
      | some p =>
       obtain ⟨m2, hm2⟩ := zhi hC hq
       rw [hq] at h2
       refine ⟨max m1 m2, ?_⟩
       rw [(zap P K (Nat.le_max_left m1 m2)).code _ _ _ _ h1]
       refine join (m2 := m2) (u := .panicking ch) ?_
       show (zaA P (run P K m2) fn (zaz (nOf P f) s1.t) s1.df (.panicking ch) s1.h).map _ = _
       rw [hm2]; cases h2; rfl
noncomputable def ziW (l : Nat) (_ : Vt) (h : Heap) (_ : Rest) : Option (End × Heap) := zbb l none h
noncomputable def ziX (l : Nat) (ok : Bool) (e : Ex) (_ : Vt) (h : Heap) (r : Rest) : Option (End × Heap) :=
 match e with
 | .ret => zbb l (some .ret) h
 | .exit id => zbb l (some (.exit id)) h
 | .panic c => if r.df.isEmpty && ok then some (.panic c, h) else none
 | .normal => none
noncomputable def zeC (P : Program) (F : Nat) (C : RecK) (l : Nat) (fn : FuncId) (body : Code) (t : Vt) (h : Heap) (r : Rest) : Option (End × Heap) :=
 match zbI h l with
 | some r1 => bif r1.state == .ready then (zfb P (nOf P fn) F body).f C { fn, round := some l, dfr := false } t (h.set l (.obj (.loop { r1 with state := .busy }))) r (ziW l) (ziX l (P.funcs[fn]?).isSome) else none
 | none => none
noncomputable def zhh (P : Program) (F : Nat) (C : RecK) (l : Nat) (args : Array Value) (h : Heap) : Option (End × Heap) :=
 match zbI h l with
 | none => none
 | some r0 =>
  bif Nat.beq (lenL args.toList) r0.params.size then
  bif Nat.beq (lenL r0.tmps.toList) (nOf P r0.fn) then
  (zfb P (nOf P r0.fn) F r0.assign).f C { fn := r0.fn, round := some l, dfr := false } (zhJ (nOf P r0.fn) (r0.params.toList.zip args.toList) (zcy r0.tmps.toList 0 .nil)) h ⟨[], .run⟩ (zeC P F C l r0.fn r0.body) (fun _ _ _ _ => none)
  else none
  else none
theorem zov {P : Program} {K : Known} {F : Nat} {C : RecK} (hC : OkK P K C) (l : Nat) (args : Array Value) (h : Heap) (r : End × Heap) (e : zhh P F C l args h = some r) : ∃ m, (run P K m).round l args h = some r := by
 suffices hs : ∃ m, zcg P (run P K m) l args h = some r by obtain ⟨m, hm⟩ := hs; exact ⟨m + 1, hm⟩
 unfold zhh at e; unfold zcg
 cases hl : zbI h l with
 | none => rw [hl] at e; cases e
 | some r0 =>
  rw [hl] at e; simp only [zcA] at e ⊢
  cases h1 : Nat.beq args.toList.length r0.params.size with
  | false => rw [h1] at e; cases e
  | true =>
   rw [h1] at e; simp only [cond_true] at e
   have h1' : args.size = r0.params.size := Nat.eq_of_beq_eq_true h1
   have h1'' : ¬ args.size ≠ r0.params.size := fun q => q h1'
   simp only [if_neg h1'']
   cases h2 : Nat.beq r0.tmps.toList.length (nOf P r0.fn) with
   | false => rw [h2] at e; cases e
   | true =>
    rw [h2] at e; simp only [cond_true] at e
    have h2' : r0.tmps.toList.length = nOf P r0.fn := Nat.eq_of_beq_eq_true h2
    have htm : (r0.params.zip args).foldl (fun tm (t, a) => tm.setIfInBounds t a) r0.tmps = zaz (nOf P r0.fn) (zhJ (nOf P r0.fn) (r0.params.toList.zip args.toList) (zcy r0.tmps.toList 0 .nil)) := by
     rw [zlQ, zcM _ _ (by omega), h2', Nat.sub_self]
     rw [<- Array.foldl_toList, Array.toList_zip]
     congr 1
    rw [htm]
    obtain ⟨m1, e1, s1, h3, h4⟩ := zeV hC (x := { fn := r0.fn, round := some l, dfr := false }) _ _ _ _ _ _ _ e
    have h3 : (run P K m1).code { fn := r0.fn, round := some l, dfr := false } r0.assign ⟨zaz (nOf P r0.fn) (zhJ (nOf P r0.fn) (r0.params.toList.zip args.toList) (zcy r0.tmps.toList 0 .nil)), [], .run, h⟩ = some (e1, s1.st (nOf P r0.fn)) := h3
    cases e1 with
    | normal =>
     have h4 : zeC P F C l r0.fn r0.body s1.t s1.h ⟨s1.df, s1.up⟩ = some r := h4
     unfold zeC at h4
     cases hl1 : zbI s1.h l with
     | none => rw [hl1] at h4; cases h4
     | some r1 =>
      rw [hl1] at h4; simp only [] at h4
      cases hb : (r1.state == .ready) with
      | false => rw [hb] at h4; cases h4
      | true =>
       rw [hb] at h4; simp only [cond_true] at h4
       obtain ⟨m2, e2, s2, h5, h6⟩ := zeV hC (x := { fn := r0.fn, round := some l, dfr := false }) _ _ _ _ _ _ _ h4
       refine ⟨max m1 m2, ?_⟩
       rw [(zap P K (Nat.le_max_left m1 m2)).code _ _ _ _ h3]
       show (match zbI s1.h l with | some r1 => _ | none => none) = _
       rw [hl1]; simp only [hb, if_true]
       have h5' := (zap P K (Nat.le_max_right m1 m2)).code _ _ _ _ h5
       have h5' : (run P K (max m1 m2)).code { fn := r0.fn, round := some l, dfr := false } r0.body { s1.st (nOf P r0.fn) with h := s1.h.set l (.obj (.loop { r1 with state := .busy })) } = some (e2, s2.st (nOf P r0.fn)) := h5'
       have e0 : (s1.st (nOf P r0.fn)).h = s1.h := rfl
       simp only [e0]
       rw [h5']
       cases e2 with
       | normal => exact h6
       | ret => exact h6
       | exit i => exact h6
       | panic c => exact h6
    | _ => cases h4
noncomputable def runK (P : Program) (K : Known) (F : Nat) : Nat -> RecK := @Nat.rec (fun _ => RecK) ⟨fun _ _ _ _ _ => none, fun _ _ _ => none⟩ (fun _ C => { call := znN P K F C, round := zhh P F C })
theorem zoq (P : Program) (K : Known) (F : Nat) : ∀ n, OkK P K (runK P K F n) := by
 intro n
 induction n with
 | zero => exact ⟨fun _ _ _ _ _ _ h => (by cases h), fun _ _ _ _ h => (by cases h)⟩
 | succ n ih => exact ⟨fun f a d u h r e => callK_ok ih f a d u h r e, fun l a h r e => zov ih l a h r e⟩
end Go.AX

namespace Go.AX
def zde (P : Program) (eV : Operand -> Value) (o : Oper) : Option Value :=
 if zaR o && o.op.operands.toList.all (fun x => plain deep (eV x)) then
  match pe P (execOp eV o) with
  | some (.value v) => if plain deep v then some v else none
  | _ => none
 else none
def zil (P : Program) (eV : Operand -> Value) (h : Heap) (o : Oper) (src dst : TypeId) (x : Value) : Option (Value × Heap) :=
 match x with
 | .slice a len _ =>
  match P.underlying src, P.underlying dst with
  | some (.slice e), some .string =>
   match P.underlying e, rowB h 1 len (.slice a len 0) with
   | some (.int .u8), some c => if zax P e != some 1 then none else (zgT c .empty).map fun s => (.string s, h)
   | _, _ => none
  | _, _ => none
 | .string s =>
  match P.underlying dst with
  | some (.slice e) =>
   match P.underlying e with
   | some (.int .u8) => if zax P e != some 1 || (P.underlying src).isNone then none else some (.slice (some ⟨h.n, 0, none⟩) s.size zbZ, h.push (.cells (s.data.toList.map fun b => .int .u8 b.toNat) e true))
   | _ => none
  | _ => (zde P eV o).map fun v => (v, h)
 | _ => (zde P eV o).map fun v => (v, h)
def zpj (P : Program) (eV : Operand -> Value) (o : Oper) (t : TypeId) (x i : Value) : Option Value :=
 match zde P eV o with
 | some v => some v
 | none => zho P t x i
def zkh (P : Program) (eV : Operand -> Value) (h : Heap) (o : Oper) : Option (Value × Heap) :=
 let one (v : Option Value) : Option (Value × Heap) := v.map fun v => (v, h)
 match o.op with
 | .move x | .assign x => some (eV x, h)
 | .pick c a b => match eV c with | .bool t => some (if t then eV a else eV b, h) | _ => none
 | .alloc e => match zbe P e with | some z => boxB P h e z | none => none
 | .box e x => boxB P h e (eV x)
 | .build t parts => one (zd9 P t (parts.toList.map fun (i, x) => (i, eV x)))
 | .buildSlice t len parts => zaK P h t len (parts.toList.map fun (i, x) => (i, eV x))
 | .load t a => one (zb1 P h t (eV a))
 | .nilCheck x => match eV x with | .pointer (some a) => some (.pointer (some a), h) | .iface t v => some (.iface t v, h) | .func (.func f) a b => some (.func (.func f) a b, h) | _ => none
 | .makeInterface t x => match P.underlying t with | some (.interface _) | none => none | some _ => some (.iface t (eV x), h)
 | .makeFunc fn first captured => match fn with | .yield _ => none | fn => some (.func fn (first.map eV) (captured.map eV), h)
 | .makeMap _ none => some (.map (some h.n), h.push (.obj (.map #[] 0)))
 | .makeSlice t l c => zbX P h t (eV l) (eV c)
 | .slice t x lo hi mx => match eV x with
  | .string _ => one (zde P eV o)
  | x => one (sliceB P t x (lo.map eV) (hi.map eV) (mx.map eV))
 | .fieldAddr t x f => one (zb4 P t (eV x) f)
 | .field t x f => one (zft P t (eV x) f)
 | .indexAddr t x i => one (zbQ P t (eV x) (eV i))
 | .sliceToArrayPointer t x => one (zeW P t (eV x))
 | .extract t i => match eV t with | .tuple vs => one vs[i]? | _ => none
 | .lookup t m k ok => one (zcz P h t (eV m) (eV k) ok)
 | .range t x => zf4 P h t (eV x)
 | .typeAssert x _ asserted ok => one (zdt P (eV x) asserted ok)
 | .binOp op t x y _ => match zde P eV o with
  | some v => some (v, h)
  | none => match op with
   | .eql => one ((zcC P t (eV x) (eV y)).map .bool)
   | .neq => one ((zcC P t (eV x) (eV y)).map fun b => .bool (!b))
   | _ => none
 | .call { callee := .builtin .len, args, argTypes } =>
  match argTypes[0]?, args[0]? with
  | some t, some x => match P.underlying t, eV x with
   | some (.slice _), .slice _ n _ => some (goInt n, h)
   | some (.map _ _), .map (some _) => one ((zdz h (eV x)).map fun r => goInt r.2.1.size)
   | some (.array n _), _ => some (goInt n, h)
   | _, _ => one (zde P eV o)
  | _, _ => none
 | .call { callee := .builtin .cap, args, argTypes } =>
  match argTypes[0]?, args[0]? with
  | some t, some x => match P.underlying t, eV x with
   | some (.slice _), .slice _ _ c => if c < unk then some (goInt c, h) else none
   | _, _ => none
  | _, _ => none
 | .convert src dst x => zil P eV h o src dst (eV x)
 | .unOp .. => one (zde P eV o)
 | .index t x i => one (zpj P eV o t (eV x) (eV i))
 | .call { callee := .builtin .min, .. } | .call { callee := .builtin .max, .. } => one (zde P eV o)
 | _ => none
def zlg (P : Program) (eV : Operand -> Value) (h : Heap) (o : Oper) : Option (Out × Heap) :=
 let vh (r : Option (Value × Heap)) : Option (Out × Heap) := r.map fun (v, h) => (.val v, h)
 let hh (r : Option Heap) : Option (Out × Heap) := r.map fun h => (.val undef, h)
 match o.op with
 | .store t a x => hh (zcZ P h t (eV x) (eV a))
 | .mapUpdate t m k v | .insert t m k v => hh (zcH P h t (eV m) (eV k) (eV v))
 | .mapEntry t m k => vh (zdg P h t (eV m) (eV k))
 | .entryStore _ m s v => hh (zcp h (eV m) (eV s) (eV v))
 | .next it isS => vh (znr h (eV it) isS)
 | .panic x => match eV x with | .iface t v => some (.panic (.iface t v), h) | _ => none
 | .call { callee := .builtin .append, args, argTypes } =>
  match args[0]?, args[1]? with
  | some x, some y => vh (zbq P h argTypes (eV x) (eV y))
  | _, _ => none
 | .call { callee := .builtin .copy, args, argTypes } =>
  match args[0]?, args[1]? with
  | some x, some y => vh (znH P h argTypes (eV x) (eV y))
  | _, _ => none
 | .call { callee := .builtin .clear, args, argTypes } =>
  match args[0]? with
  | some x => vh (zht P h argTypes (eV x))
  | none => none
 | .call { callee := .builtin .delete, args, argTypes } =>
  match args[0]?, args[1]? with
  | some x, some y => vh (ze9 P h argTypes (eV x) (eV y))
  | _, _ => none
 | .call { callee := .builtin .panic, args, .. } =>
  match args[0]? with
  | some x => match eV x with | .iface t v => some (.panic (.iface t v), h) | _ => none
  | none => none
 | .call { callee := .builtin .recover, .. } => some (.recover, h)
 | .call { callee := .value f, args, .. } => (zaN P (eV f) (args.map eV)).map fun r => (r, h)
 | .call { callee := .invoke r name, args, .. } => (zb7 P (eV r) name (args.map eV)).map fun r => (r, h)
 | .defer { callee := .value f, args, .. } =>
  match eV f with
  | .func (.func g) first captured => some (.defer { target := .fn (.func g) captured, args := first ++ args.map eV }, h)
  | _ => none
 | _ => none
theorem zf7 (P : Program) (tm : Array Value) (o : Oper) : zde P (ev tm) o = zav P tm o := rfl
theorem zlj (P : Program) (tm : Array Value) (h : Heap) (o : Oper) (a b : TypeId) (x : Value) : zil P (ev tm) h o a b x = zbt P tm h o a b x := rfl
theorem zpi (P : Program) (tm : Array Value) (o : Oper) (t : TypeId) (x i : Value) : zpj P (ev tm) o t x i = zdJ P tm o t x i := rfl
theorem zm5 (P : Program) (tm : Array Value) (h : Heap) (o : Oper) : zkh P (ev tm) h o = zae P tm h o := by
 unfold zkh zae; rfl
theorem znE (P : Program) (tm : Array Value) (h : Heap) (o : Oper) : zlg P (ev tm) h o = zaZ P tm h o := by
 unfold zlg zaZ; rfl
noncomputable def evE (N : Nat) (t : Vt) (x : Operand) : Value := (evC N x).f t
theorem zhq (N : Nat) (t : Vt) : evE N t = ev (zaz N t) := by funext x; exact zbv ..
noncomputable def binE (P : Program) (e : Operand -> Value) (o : Oper) (op : BinOp) (t : TypeId) (x y : Operand) : Option Value :=
 match zed op (e x) (e y) with
 | some v => some v
 | none => match zde P e o with
  | some v => some v
  | none => match op with
   | .eql => (zcC P t (e x) (e y)).map .bool
   | .neq => (zcC P t (e x) (e y)).map fun b => .bool (!b)
   | _ => none
theorem zpP (P : Program) (N : Nat) (t : Vt) (o : Oper) (op : BinOp) (ty : TypeId) (x y : Operand) : binE P (evE N t) o op ty x y = binF P (zaz N t) o op ty x y := by
 rw [zhq]; unfold binE binF; simp only [zbg, zf7]; rfl
noncomputable def lenE (P : Program) (e : Operand -> Value) (h : Heap) (o : Oper) (t : TypeId) (v : Value) : Option Value :=
 match P.underlying t, v with
 | some (.slice _), .slice _ n _ => some (goInt n)
 | some (.map _ _), .map (some _) => (zdz h v).map fun r => goInt r.2.1.size
 | some (.array n _), _ => some (goInt n)
 | _, _ => zde P e o
theorem lenE_eq (P : Program) (N : Nat) (t : Vt) (h : Heap) (o : Oper) (ty : TypeId) (v : Value) : lenE P (evE N t) h o ty v = lenF P (zaz N t) h o ty v := by
 rw [zhq]; unfold lenE lenF; simp only [zf7]; rfl
section
variable {β : Type}
noncomputable def genW (P : Program) (N : Nat) (o : Oper) (C : RecK) (x : Ctx) (t : Vt) (h : Heap) (r : Rest) (kn : Vt -> Heap -> Rest -> Option β) (ke : Ex -> Vt -> Heap -> Rest -> Option β) : Option β :=
 match zkh P (evE N t) h o with
 | some (v, h) => kn ((putC N o.dst).f t v) h r
 | none => bif zaf o then none else finK (putC N o.dst) (actC (toC C) x ⟨t, r.df, r.up, h⟩ (zlg P (evE N t) h o)) kn ke
theorem zk6 (P : Program) (N : Nat) (o : Oper) (hs : (opC P N o).f = fun C x s => zhF P N C x s o) : genW (β := β) P N o = genK P N o := by
 funext C x t h r kn ke
 unfold genW genK
 rw [hs]
 simp only [zhq, zm5, znE]
 unfold zhF
 show _ = finK _ (match zae P (zaz N t) h o with | some (v, h) => _ | none => bif zaf o then none else actC (toC C) x ⟨t, r.df, r.up, h⟩ (zaZ P (zaz N t) h o)) kn ke
 cases zae P (zaz N t) h o with
 | some p => rfl
 | none => cases zaf o <;> rfl
end
end Go.AX

namespace Go.AX
open Instr
theorem zf8 {P : Program} {e : Bool} {d : Nat} {t : TypeId} {k : IntKind} {a : Int} (h : P.underlying t = some (.int k)) : pe P (checkKey e (d + 1) t (.int .i64 a)) = some () := by
 unfold checkKey
 refine (zau (zbi h)).trans ?_
 rfl
theorem zi5 {P : Program} {em : Bool} {d : Nat} {t : TypeId} {a b : Int} (h : zgU P t = true) : pe P (checkKey em (d + 2) t (.agg #[.int .i64 a, .int .i64 b])) = some () := by
 unfold zgU at h
 split at h
 ·rename_i fs hu
  obtain ⟨l⟩ := fs
  simp only at h
  split at h
  ·rename_i f g
   simp only [Bool.and_eq_true, bne_iff_ne, Bool.not_eq_true'] at h
   obtain ⟨⟨⟨⟨⟨⟨hf, hg⟩, ho⟩, ho'⟩, hs⟩, ht⟩, ht'⟩ := h
   have ho := Nat.eq_of_beq_eq_true ho
   have ho' := Nat.eq_of_beq_eq_true ho'
   split at ht
   ·rename_i k hk
    split at ht'
    ·rename_i k' hk'
     unfold checkKey
     refine (zau (zbi hu)).trans ?_
     dsimp only
     refine (zau (a := PUnit.unit) ?_).trans rfl
     rw [List.forIn_toArray, List.forIn_cons]
     have p0 : pe P (part f.type #[Value.int .i64 a, Value.int .i64 b] f.offset) = some (.int .i64 a) := zdF hk (by rw [ho]; rfl)
     have q0 : pe P (part g.type #[Value.int .i64 a, Value.int .i64 b] g.offset) = some (.int .i64 b) := zdF hk' (by rw [ho']; rfl)
     rw [if_pos hf]
     refine (zau (a := .yield ()) ?_).trans ?_
     ·refine (zau p0).trans ?_
      exact (zau (zf8 hk)).trans rfl
     ·dsimp only
      rw [List.forIn_cons, if_pos hg]
      refine (zau (a := .yield ()) ?_).trans ?_
      ·refine (zau q0).trans ?_
       exact (zau (zf8 hk')).trans rfl
      ·rfl
    ·cases ht'
   ·cases ht
  ·cases h
 ·cases h
noncomputable def zh6 (v : Value) : Option (Int × Int) :=
 match v with
 | .agg cs => match cs.toList with
  | [.int .i64 a, .int .i64 b] => some (a, b)
  | _ => none
 | _ => none
theorem zme {v : Value} {p : Int × Int} (h : zh6 v = some p) : v = .agg #[.int .i64 p.1, .int .i64 p.2] := by
 unfold zh6 at h
 split at h
 ·rename_i cs
  obtain ⟨l⟩ := cs
  simp only at h
  split at h
  ·cases h; subst_vars; rfl
  ·cases h
 ·cases h
noncomputable def zk8 (a b : Int) : List MapEntry -> Nat -> Option (Option (Nat × Value)) :=
 @List.rec MapEntry (fun _ => Nat -> Option (Option (Nat × Value))) (fun _ => some none)
  (fun e _ ih i => match zh6 e.key with | some p => bif eqF a p.1 && eqF b p.2 then some (some (i, e.val)) else ih (i + 1) | none => none)
theorem zgw {P : Program} {t : TypeId} {a b : Int} (h : zgU P t = true) : ∀ (es : List MapEntry) (i : Nat) r, zk8 a b es i = some r -> pe P (findAsking t (.agg #[.int .i64 a, .int .i64 b]) (es.map zdR) i) = some (r.map fun q => (q.1, Value.bool false)) := by
 intro es
 induction es with
 | nil => intro i r e; cases e; rfl
 | cons x es ih =>
  intro i r e
  have e : (match zh6 x.key with | some p => bif eqF a p.1 && eqF b p.2 then some (some (i, x.val)) else zk8 a b es (i + 1) | none => none) = some r := e
  cases hk : zh6 x.key with
  | none => rw [hk] at e; cases e
  | some p =>
   rw [hk] at e; simp only [zeQ] at e
   have hx := zme hk
   rw [List.map_cons]
   unfold findAsking
   refine (zau (a := (a == p.1 && b == p.2)) ?_).trans ?_
   ·show pe P (Op.equal t _ (zdR x).key) = _
    show pe P (Op.equal t _ x.key) = _
    rw [hx]
    exact zoP h
   ·cases hb : (a == p.1 && b == p.2) with
    | true => rw [hb] at e; cases e; rfl
    | false =>
     rw [hb] at e
     simp only [Bool.false_eq_true, if_false]
     exact ih _ _ e
theorem findP_at {a b : Int} : ∀ (es : List MapEntry) (i : Nat) j v, zk8 a b es i = some (some (j, v)) -> ∃ k e, j = i + k /\ es[k]? = some e /\ e.val = v := by
 intro es
 induction es with
 | nil => intro i j v e; cases e
 | cons x es ih =>
  intro i j v e
  have e : (match zh6 x.key with | some p => bif eqF a p.1 && eqF b p.2 then some (some (i, x.val)) else zk8 a b es (i + 1) | none => none) = some (some (j, v)) := e
  cases hk : zh6 x.key with
  | none => rw [hk] at e; cases e
  | some p =>
   rw [hk] at e; simp only [] at e
   cases hb : (eqF a p.1 && eqF b p.2) with
   | true => rw [hb] at e; cases e; exact ⟨0, x, rfl, rfl, rfl⟩
   | false =>
    rw [hb] at e
    obtain ⟨k, e', h1, h2, h3⟩ := ih _ _ _ e
    exact ⟨k + 1, e', by omega, by simpa using h2, h3⟩
theorem znA {P : Program} {em : Bool} {t : TypeId} {a b : Int} (h : zgU P t = true) {es : List MapEntry} {r : Option (Nat × Value)} (e : zk8 a b es 0 = some r) : zeN P em t (.agg #[.int .i64 a, .int .i64 b]) es = some r := by
 unfold zeN
 rw [if_pos (by simp [plain, deep])]
 have hpe : pe P (do checkKey em 10000 t (.agg #[.int .i64 a, .int .i64 b]); findKey t (.agg #[.int .i64 a, .int .i64 b]) (es.map zdR)) = some (r.map fun q => (q.1, Value.bool false)) := by
  refine (zau (zi5 h)).trans ?_
  have hu : ∃ fs, P.underlying t = some (.struct fs) := by
   unfold zgU at h
   split at h
   ·rename_i fs hu; exact ⟨fs, hu⟩
   ·cases h
  obtain ⟨fs, hu⟩ := hu
  unfold findKey
  refine (zau (zbi hu)).trans ?_
  cases es with
  | nil => cases e; rfl
  | cons x es =>
   have : findNow (.struct fs) (.agg #[.int .i64 a, .int .i64 b]) ((x :: es).map zdR) 0 = none := by
    rw [List.map_cons]; unfold findNow; rfl
   rw [this]
   exact zgw h _ _ _ e
 rw [hpe]
 cases r with
 | none => rfl
 | some q =>
  obtain ⟨j, v⟩ := q
  obtain ⟨k, x, h1, h2, h3⟩ := findP_at _ _ _ _ e
  have : j = k := by omega
  subst this
  simp only [Option.map_some, h2, h3]
noncomputable def findM (P : Program) (em : Bool) (kt : TypeId) : Bx (Value -> List MapEntry -> Option (Option (Nat × Value))) :=
 bif zgU P kt then ⟨fun k es => match zh6 k with
  | some p => (match zk8 p.1 p.2 es 0 with | some r => some r | none => zeN P em kt k es)
  | none => zeN P em kt k es⟩
 else ⟨fun k es => zeN P em kt k es⟩
theorem findM_eq (P : Program) (em : Bool) (kt : TypeId) (k : Value) (es : List MapEntry) : (findM P em kt).f k es = zeN P em kt k es := by
 unfold findM
 cases hs : zgU P kt with
 | false => rfl
 | true =>
  simp only [cond_true]
  cases hk : zh6 k with
  | none => rfl
  | some p =>
   simp only []
   cases hf : zk8 p.1 p.2 es 0 with
   | none => rfl
   | some r => rw [zme hk]; exact (znA hs hf).symm
noncomputable def zor (h : Heap) (m : Value) : Option (List MapEntry) :=
 match m with
 | .map none => some []
 | .map (some r) => match hGet h r with
  | some (.obj (.map es _)) => some es.toList
  | _ => none
 | _ => none
noncomputable def lookM (z : Value) (ok : Bool) (r : Option (Option (Nat × Value))) : Option Value :=
 match r with
 | some (some (_, v)) => some (if ok then .tuple #[v, .bool true] else v)
 | some none => some (if ok then .tuple #[z, .bool false] else z)
 | none => none
noncomputable def zpe (l : List MapEntry) : Bool := match l with | [] => true | _ => false
noncomputable def zkS (P : Program) (t : TypeId) (ok : Bool) : Bx (Heap -> Value -> Value -> Option Value) :=
 match P.underlying t with
 | some (.map kt e) => match zbe P e with
  | some z => zat (findM P true kt) fun ft => zat (findM P false kt) fun ff => ⟨fun h m k => match zor h m with
   | some es => lookM z ok (@Bool.rec (fun _ => Option (Option (Nat × Value))) (ff k es) (ft k es) (zpe es))
   | none => none⟩
  | none => ⟨fun _ _ _ => none⟩
 | _ => ⟨fun _ _ _ => none⟩
theorem zns (P : Program) (t : TypeId) (ok : Bool) (h : Heap) (m k : Value) : (zkS P t ok).f h m k = zcz P h t m k ok := by
 unfold zkS zcz
 cases hu : P.underlying t with
 | none => rfl
 | some d =>
  cases d with
  | map kt e =>
   simp only []
   have hr : zek h m = (zor h m).map List.toArray := by
    unfold zek zor zdz
    cases m with
    | map r =>
     cases r with
     | none => rfl
     | some r =>
      simp only [zh9]
      cases h.get? r with
      | none => rfl
      | some b => cases b with
       | obj o => cases o <;> rfl
       | _ => rfl
    | _ => rfl
   cases hz : zbe P e with
   | none => rw [hr]; cases zor h m <;> rfl
   | some z =>
    simp only [zaD, findM_eq]
    rw [hr]
    cases zor h m with
    | none => rfl
    | some es =>
     simp only [Option.map_some]
     have : zpe es = es.toArray.isEmpty := by cases es <;> rfl
     rw [<- this]
     cases zpe es with
     | true => simp only []; cases zeN P true kt k es with
      | none => rfl
      | some r => cases r <;> rfl
     | false => simp only []; cases zeN P false kt k es with
      | none => rfl
      | some r => cases r <;> rfl
  | _ => rfl
end Go.AX

namespace Go.AX
def zk1 (P : Program) (t : TypeId) (n : Nat) : Bool :=
 match P.underlying t with
 | some (.struct fs) => fs.toList.map (·.offset) == List.range n && fs.toList.all (fun f => f.name != "_" && (match P.underlying f.type with | some (.int _) => true | _ => false)) && !P.stoodInHeld t && !(P.eqGuardType P.depth t)
 | _ => false
theorem zoO {β : Type} {P : Program} {body : β -> Option Bool × PUnit -> Sem (ForInStep (Option Bool × PUnit))} {ok : β -> Bool} : ∀ {l : List β},
  (∀ f ∈ l, pe P (body f (none, ())) = some (if ok f then .yield (none, ()) else .done (some false, ()))) -> pe P (forIn l (none, ()) body) = some (if l.all ok then (none, ()) else (some false, ())) := by
 intro l
 induction l with
 | nil => intro _; rfl
 | cons a l ih =>
  intro h
  rw [List.forIn_cons]
  refine (zau (h a (List.mem_cons_self ..))).trans ?_
  cases ha : ok a with
  | true =>
   simp only [if_true, List.all_cons, ha, Bool.true_and]
   exact ih fun f q => h f (List.mem_cons_of_mem _ q)
  | false => simp [ha]; rfl
theorem zmg {l : List Int} {o : Nat} (h : o < l.length) : (ints l).toArray[o]? = some (.int .i64 (l.getD o 0)) := by
 rw [List.getElem?_toArray]; exact zaw h
theorem zi4 {P : Program} {d : Nat} {t : TypeId} {n : Nat} {a b : List Int} (h : zk1 P t n = true) (ha : a.length = n) (hb : b.length = n) : pe P (Op.equalIn (d + 2) t (.agg (ints a).toArray) (.agg (ints b).toArray)) = some (decide (a = b)) := by
 unfold zk1 at h
 split at h
 ·rename_i fs hu
  obtain ⟨l⟩ := fs
  simp only [Bool.and_eq_true, Bool.not_eq_true', List.all_eq_true, beq_iff_eq] at h
  obtain ⟨⟨⟨h1, h2⟩, h3⟩, _⟩ := h
  unfold Op.equalIn
  refine (zau (zbi hu)).trans ?_
  dsimp only
  refine (zau (a := P) rfl).trans ?_
  rw [h3]
  simp only [Bool.false_eq_true, if_false]
  rw [List.forIn_toArray]
  refine (zau (zoO (ok := fun f => a.getD f.offset 0 == b.getD f.offset 0) ?_)).trans ?_
  ·intro f hf
   obtain ⟨hn, ht⟩ := h2 f hf
   have ho : f.offset < n := by
    have : f.offset ∈ List.range n := by rw [<- h1]; exact List.mem_map_of_mem hf
    exact List.mem_range.1 this
   split at ht
   ·rename_i k hk
    rw [if_pos (by simpa using hn)]
    have p0 : pe P (part f.type (ints a).toArray f.offset) = some (.int .i64 (a.getD f.offset 0)) := zdF hk (zmg (by omega))
    have p1 : pe P (part f.type (ints b).toArray f.offset) = some (.int .i64 (b.getD f.offset 0)) := zdF hk (zmg (by omega))
    refine (zau p0).trans ((zau p1).trans ((zau (zdX hk)).trans ?_))
    cases hc : (a.getD f.offset 0 == b.getD f.offset 0) <;> rfl
   ·cases ht
  ·have e : (l.all fun f => a.getD f.offset 0 == b.getD f.offset 0) = decide (a = b) := by
    have e1 : (l.all fun f => a.getD f.offset 0 == b.getD f.offset 0) = ((l.map (·.offset)).all fun o => a.getD o 0 == b.getD o 0) := by rw [List.all_map]; rfl
    rw [e1, h1]
    by_cases hab : a = b
    ·subst hab; simp
    ·rw [decide_eq_false hab, Bool.eq_false_iff]
     intro hall
     refine hab (List.ext_getElem (by omega) fun i q1 q2 => ?_)
     rw [List.all_eq_true] at hall
     have := hall i (List.mem_range.2 (by omega))
     simpa [List.getD_eq_getElem?_getD, q1, q2] using this
   rw [e]
   by_cases hab : a = b
   ·rw [decide_eq_true hab]; rfl
   ·rw [decide_eq_false hab]; rfl
 ·cases h
theorem zk0 {P : Program} {t : TypeId} {n : Nat} (h : zk1 P t n = true) : P.eqGuardType P.depth t = false := by
 unfold zk1 at h
 split at h
 ·simp only [Bool.and_eq_true, Bool.not_eq_true'] at h; exact h.2
 ·cases h
theorem zpt {P : Program} {tm : Array Value} {o : Oper} {t yt : TypeId} {x y : Operand} {n : Nat} {a b : List Int} (neg : Bool) (ho : o.op = .binOp (if neg then .neq else .eql) t x y yt) (hx : ev tm x = .agg (ints a).toArray) (hy : ev tm y = .agg (ints b).toArray)
  (hs : zk1 P t n = true) (ha : a.length = n) (hb : b.length = n) : zav P tm o = some (.bool (if neg then !decide (a = b) else decide (a = b))) := by
 have hq := zk0 hs
 have hpl : ∀ l : List Int, (ints l).all (plain 8) = true := by intro l; simp [ints, plain]
 have hp : (zaR o && o.op.operands.toList.all fun x => plain deep (ev tm x)) = true := by
  have e1 : plain deep (.agg (ints a).toArray) = true := hpl a
  have e2 : plain deep (.agg (ints b).toArray) = true := hpl b
  simp [zaR, ho, Op.operands, hx, hy, e1, e2]
 unfold zav
 rw [if_pos hp]
 cases neg with
 | true =>
  simp only [if_true] at ho ⊢
  have he : execOp (ev tm) o = Sem.bind (do eqGuard .neq t x y (ev tm x) (ev tm y); binOp .neq t (ev tm x) (ev tm y)) fun v => .pure (Next.value v) := by
   unfold execOp; rw [ho]; rfl
  rw [he, hx, hy]
  have e1 : pe P (do eqGuard .neq t x y (.agg (ints a).toArray) (.agg (ints b).toArray); binOp .neq t (.agg (ints a).toArray) (.agg (ints b).toArray)) = some (.bool (!decide (a = b))) := by
   refine (zau (a := ()) ?_).trans ?_
   ·unfold eqGuard
    simp only [Bool.not_true, Bool.false_eq_true, if_false]
    show pe P (if (!(P.eqGuardType P.depth t)) = true then _ else _) = _
    rw [hq]; rfl
   ·show pe P (do pure (Value.bool (!(<- Op.equal t (.agg (ints a).toArray) (.agg (ints b).toArray))))) = _
    exact (zau (zi4 hs ha hb)).trans rfl
  rw [(zau e1).trans rfl]
  rfl
 | false =>
  simp only [Bool.false_eq_true, if_false] at ho ⊢
  have he : execOp (ev tm) o = Sem.bind (do eqGuard .eql t x y (ev tm x) (ev tm y); binOp .eql t (ev tm x) (ev tm y)) fun v => .pure (Next.value v) := by
   unfold execOp; rw [ho]; rfl
  rw [he, hx, hy]
  have e1 : pe P (do eqGuard .eql t x y (.agg (ints a).toArray) (.agg (ints b).toArray); binOp .eql t (.agg (ints a).toArray) (.agg (ints b).toArray)) = some (.bool (decide (a = b))) := by
   refine (zau (a := ()) ?_).trans ?_
   ·unfold eqGuard
    simp only [Bool.not_true, Bool.false_eq_true, if_false]
    show pe P (if (!(P.eqGuardType P.depth t)) = true then _ else _) = _
    rw [hq]; rfl
   ·show pe P (do pure (Value.bool (<- Op.equal t (.agg (ints a).toArray) (.agg (ints b).toArray)))) = _
    exact (zau (zi4 hs ha hb)).trans rfl
  rw [(zau e1).trans rfl]
  rfl
noncomputable def eqIL : List Value -> List Value -> Nat -> Option Bool
 | [], l, n => match l, n with | [], 0 => some true | _, _ => none
 | v :: l, m, n => match v, m, n with
  | .int .i64 a, .int .i64 b :: m, n + 1 => match eqIL l m n with
   | some r => some (bif eqF a b then r else false)
   | none => none
  | _, _, _ => none
theorem zpu : ∀ {l m : List Value} {n : Nat} {r : Bool}, eqIL l m n = some r -> ∃ a b : List Int, l = ints a /\ m = ints b /\ a.length = n /\ b.length = n /\ r = decide (a = b) := by
 intro l
 induction l with
 | nil =>
  intro m n r e
  unfold eqIL at e
  split at e
  ·cases e; exact ⟨[], [], rfl, rfl, rfl, rfl, rfl⟩
  ·cases e
 | cons v l ih =>
  intro m n r e
  unfold eqIL at e
  split at e
  ·rename_i a b m n
   cases hr : eqIL l m n with
   | none => rw [hr] at e; cases e
   | some q =>
    rw [hr] at e
    obtain ⟨as, bs, rfl, rfl, h1, h2, rfl⟩ := ih hr
    cases e
    refine ⟨a :: as, b :: bs, rfl, rfl, by simp [h1], by simp [h2], ?_⟩
    rw [zeQ]
    by_cases hab : a = b
    ·subst hab; simp
    ·simp [hab]
  ·cases e
noncomputable def aggL (v : Value) : Option (List Value) := match v with | .agg cs => some cs.toList | _ => none
noncomputable def aggQ (P : Program) (op : BinOp) (ty : TypeId) : Bx (Value -> Value -> Option Value -> Option Value) :=
 match P.underlying ty with
 | some (.struct fs) => bif zk1 P ty fs.size then
   (match op with
   | .eql => ⟨fun x y slow => match aggL x, aggL y with
    | some a, some b => (match eqIL a b fs.size with | some r => some (.bool r) | none => slow)
    | _, _ => slow⟩
   | .neq => ⟨fun x y slow => match aggL x, aggL y with
    | some a, some b => (match eqIL a b fs.size with | some r => some (.bool (bif r then false else true)) | none => slow)
    | _, _ => slow⟩
   | _ => ⟨fun _ _ slow => slow⟩)
  else ⟨fun _ _ slow => slow⟩
 | _ => ⟨fun _ _ slow => slow⟩
theorem znB {op : BinOp} {x y w : Value} (h : zed op x y = some w) : ∃ n, x = .int .i64 n := by
 unfold zed at h
 split at h
 ·rename_i k a k' b
  cases hk : i64 k with
  | false => simp [hk] at h
  | true => exact ⟨a, by cases k <;> simp_all [i64]⟩
 ·cases h
theorem zff {v : Value} {l : List Value} (h : aggL v = some l) : v = .agg l.toArray := by
 unfold aggL at h
 split at h
 ·cases h; rfl
 ·cases h
theorem aggQ_eq {P : Program} {tm : Array Value} {o : Oper} {op : BinOp} {ty yt : TypeId} {a b : Operand} {slow : Option Value} (ho : o.op = .binOp op ty a b yt) (hs : ∀ v, zav P tm o = some v -> (∀ x, ev tm a ≠ .int .i64 x) -> slow = some v) :
  (aggQ P op ty).f (ev tm a) (ev tm b) slow = slow := by
 unfold aggQ
 split
 ·rename_i fs hu
  cases hi : zk1 P ty fs.size with
  | false => rfl
  | true =>
   simp only [cond_true]
   cases op <;> try rfl
   ·simp only []
    split
    ·rename_i u v hu hv
     split
     ·rename_i r hr
      obtain ⟨as, bs, rfl, rfl, h1, h2, rfl⟩ := zpu hr
      refine (hs _ (zpt false ho (zff hu) (zff hv) hi h1 h2) fun x q => ?_).symm
      rw [zff hu] at q; cases q
     ·rfl
    ·rfl
   ·simp only []
    split
    ·rename_i u v hu hv
     split
     ·rename_i r hr
      obtain ⟨as, bs, rfl, rfl, h1, h2, rfl⟩ := zpu hr
      have := (hs _ (zpt true ho (zff hu) (zff hv) hi h1 h2) fun x q => by rw [zff hu] at q; cases q).symm
      simp only [if_true] at this
      rw [<- this]
      cases decide (as = bs) <;> rfl
     ·rfl
    ·rfl
 ·rfl
end Go.AX

namespace Go.AX
theorem zf2 {γ : Type} (b : Bool) (x y : γ) : @Bool.rec (fun _ => γ) y x b = bif b then x else y := by cases b <;> rfl
section
variable {β : Type}
noncomputable def pickW (c a b : Value) (k : Value -> Option β) : Option β := match c with | .bool t => k (@Bool.rec (fun _ => Value) b a t) | _ => none
theorem pickW_eq (c a b : Value) (k : Value -> Option β) : pickW c a b k = zbV (zoN c a b) k := by
 unfold pickW zoN; cases c <;> first | rfl | (simp only [zf2]; rfl)
noncomputable def cellsW (r : Option Blk) (k : List Value -> Option β) : Option β := match r with | some (.cells c _ _) => k c | _ => none
noncomputable def loadW (q : List Value -> Nat -> Option Value) (h : Heap) (a : Value) (k : Value -> Option β) : Option β :=
 match a with
 | .pointer (some ⟨b, o, none⟩) => cellsW (hGet h b) fun c => zbV (q c o) k
 | _ => none
theorem zma (P : Program) (ty : TypeId) (h : Heap) (a : Value) (k : Value -> Option β) : loadW (zkC P ty).f h a k = zbV (zeE P ty h a) k := by
 unfold loadW zeE
 cases a with
 | pointer a =>
  rcases a with _ | ⟨b, o, _ | s⟩
  ·rfl
  ·simp only [zg2, cellsW]
   cases hGet h b with
   | none => rfl
   | some k => cases k <;> rfl
  ·rfl
 | _ => rfl
noncomputable def zi9 (r : Option Value) (slow : Option Value) (k : Value -> Option β) : Option β := @Option.rec Value (fun _ => Option β) (zbV slow k) k r
noncomputable def binW (g : Int -> Int -> Option Value) (x y : Value) (slow : Option Value) (k : Value -> Option β) : Option β :=
 match x with
 | .int .i64 a => (match y with | .int .i64 b => zi9 (g a b) slow k | _ => zbV slow k)
 | _ => zbV slow k
theorem binW_eq (P : Program) (N : Nat) (o : Oper) (op : BinOp) (ty : TypeId) (a b : Operand) (t : Vt) (k : Value -> Option β) :
  binW (zfr op).f ((evC N a).f t) ((evC N b).f t) (binE P (evE N t) o op ty a b) k = zbV (binK P N o op ty a b t) k := by
 rw [zpP]
 unfold binK binV binW
 generalize (evC N a).f t = x
 generalize (evC N b).f t = y
 cases x with
 | int kx m =>
  cases kx <;> try rfl
  cases y with
  | int ky n =>
   cases ky <;> try rfl
   show zi9 ((zfr op).f m n) _ k = zbV (match (zfr op).f m n with | some v => some v | none => _) k
   cases (zfr op).f m n <;> rfl
  | _ => rfl
 | _ => rfl
noncomputable def unW (g : Value -> Option Value) (x : Value) (slow : Option Value) (k : Value -> Option β) : Option β := zi9 (g x) slow k
theorem unW_eq (P : Program) (N : Nat) (o : Oper) (op : UnOp) (a : Operand) (t : Vt) (k : Value -> Option β) : unW (unV op).f ((evC N a).f t) (zde P (evE N t) o) k = zbV (unK P N o op a t) k := by
 rw [zhq, zf7]
 unfold unK unW
 cases (unV op).f ((evC N a).f t) <;> rfl
theorem lenW_eq (P : Program) (N : Nat) (o : Oper) (ty : TypeId) (v : Value) (t : Vt) (h : Heap) (k : Value -> Option β) : zi9 ((lenC P ty).f v) (lenE P (evE N t) h o ty v) k = zbV (lenK P N o ty v t h) k := by
 rw [lenE_eq]
 unfold lenK
 cases (lenC P ty).f v <;> rfl
noncomputable def zlY (N : Nat) : List (Nat × Operand) -> Bx (Vt -> List (Nat × Value)) := @List.rec (Nat × Operand) (fun _ => Bx (Vt -> List (Nat × Value))) ⟨fun _ => []⟩ (fun p _ ih => zat (evC N p.2) fun f => zat ih fun i => ⟨fun t => (p.1, f t) :: i t⟩)
theorem zoQ (N : Nat) (ps : List (Nat × Operand)) : (zlY N ps).f = zf9 N ps := by
 induction ps with
 | nil => rfl
 | cons p ps ih =>
  show (zat (evC N p.2) fun f => zat (zlY N ps) fun i => (⟨fun t => (p.1, f t) :: i t⟩ : Bx (Vt -> List (Nat × Value)))).f = _
  rw [zaD, zaD, ih]; rfl
noncomputable def argsW (N : Nat) : List Operand -> Bx (Vt -> List Value) := @List.rec Operand (fun _ => Bx (Vt -> List Value)) ⟨fun _ => []⟩ (fun x _ ih => zat (evC N x) fun f => zat ih fun i => ⟨fun t => f t :: i t⟩)
theorem zmA (N : Nat) (xs : List Operand) : (argsW N xs).f = zg9 N xs := by
 induction xs with
 | nil => rfl
 | cons x xs ih =>
  show (zat (evC N x) fun f => zat (argsW N xs) fun i => (⟨fun t => f t :: i t⟩ : Bx (Vt -> List Value))).f = _
  rw [zaD, zaD, ih]; rfl
noncomputable def zlm (P : Program) (N : Nat) (o : Oper) (c : Call) : Bx (KOp β) :=
 match c.callee with
 | .builtin .len => match c.argTypes[0]?, c.args[0]? with
  | some ty, some a => zat (evC N a) fun fa => zat (putC N o.dst) fun p => zat (lenC P ty) fun g => ⟨fun _ _ t h r kn _ => zi9 (g (fa t)) (lenE P (evE N t) h o ty (fa t)) fun v => kn (p t v) h r⟩
  | _, _ => ⟨fun _ _ _ _ _ _ _ => none⟩
 | .value (.func f) => match P.funcs[f]? with
  | none => ⟨fun _ _ _ _ _ _ _ => none⟩
  | some fn => bif fn.name == "runtime.NumGoroutine" then ⟨fun _ _ _ _ _ _ _ => none⟩
   else bif fn.body.isSome then zat (argsW N c.args.toList) fun g => ⟨fun C _ t h r kn ke => zmz (putC N o.dst) t r (C.call f ⟨g t⟩ false .run h) kn ke⟩
   else ⟨genK P N o⟩
 | .builtin .append => ⟨genK P N o⟩
 | .value _ => ⟨genK P N o⟩
 | _ => ⟨genW P N o⟩
theorem znM (P : Program) (N : Nat) (o : Oper) (c : Call) (ho : o.op = .call c) : zlm (β := β) P N o c = ziq P N o c := by
 unfold zlm ziq
 obtain ⟨callee, args, argTypes⟩ := c
 have slow : (opC P N o).f = (zpL P N o ⟨callee, args, argTypes⟩).f := by unfold opC; rw [ho]
 cases callee with
 | value f => cases f <;> first | (simp only [zaD, zmA]; done) | (simp only [zaD, zmA]; rfl)
 | invoke r n => simp only []; rw [zk6]; rw [slow]; rfl
 | builtin b =>
  cases b with
  | len => simp only [zaD, lenW_eq]; rfl
  | append => rfl
  | _ => simp only []; rw [zk6]; rw [slow]; rfl
noncomputable def opW (P : Program) (N : Nat) (o : Oper) : Bx (KOp β) :=
 match o.op with
 | .move a => zat (evC N a) fun fa => zat (putC N o.dst) fun p => ⟨fun _ _ t h r kn _ => kn (p t (fa t)) h r⟩
 | .assign a => zat (evC N a) fun fa => zat (putC N o.dst) fun p => ⟨fun _ _ t h r kn _ => kn (p t (fa t)) h r⟩
 | .pick c a b => zat (evC N c) fun fc => zat (evC N a) fun fa => zat (evC N b) fun fb => zat (putC N o.dst) fun p => ⟨fun _ _ t h r kn _ => pickW (fc t) (fa t) (fb t) fun v => kn (p t v) h r⟩
 | .load ty a => zat (evC N a) fun fa => zat (putC N o.dst) fun p => zat (zkC P ty) fun q => ⟨fun _ _ t h r kn _ => loadW q h (fa t) fun v => kn (p t v) h r⟩
 | .binOp op ty a b _ => zat (evC N a) fun fa => zat (evC N b) fun fb => zat (putC N o.dst) fun p => zat (zfr op) fun g => zat (aggQ P op ty) fun q => ⟨fun _ _ t h r kn _ => binW g (fa t) (fb t) (q (fa t) (fb t) (binE P (evE N t) o op ty a b)) fun v => kn (p t v) h r⟩
 | .unOp op _ a => zat (evC N a) fun fa => zat (putC N o.dst) fun p => zat (unV op) fun g => ⟨fun _ _ t h r kn _ => unW g (fa t) (zde P (evE N t) o) fun v => kn (p t v) h r⟩
 | .indexAddr ty a i => zat (evC N a) fun fa => zat (evC N i) fun fi => zat (putC N o.dst) fun p => zat (zjA P ty) fun g => ⟨fun _ _ t h r kn _ => zbV (g (fa t) (fi t)) fun v => kn (p t v) h r⟩
 | .fieldAddr ty a f => zat (evC N a) fun fa => zat (putC N o.dst) fun p => zat (zeP P ty f) fun g => ⟨fun _ _ t h r kn _ => zbV (g (fa t)) fun v => kn (p t v) h r⟩
 | .field ty a f => zat (evC N a) fun fa => zat (putC N o.dst) fun p => zat (zjJ P ty f) fun g => ⟨fun _ _ t h r kn _ => zbV (g (fa t)) fun v => kn (p t v) h r⟩
 | .extract a i => zat (evC N a) fun fa => zat (putC N o.dst) fun p => ⟨fun _ _ t h r kn _ => zbV (extC (fa t) i) fun v => kn (p t v) h r⟩
 | .build ty ps => zat (zlY N ps.toList) fun fs => zat (putC N o.dst) fun p => zat (zpq P ty) fun g => ⟨fun _ _ t h r kn _ => zbV (g (fs t)) fun v => kn (p t v) h r⟩
 | .box e a => zat (evC N a) fun fa => zat (putC N o.dst) fun p => ⟨fun _ _ t h r kn _ => zno (zd6 P e h (zdi (fa t))) fun q => kn (p t q.1) q.2 r⟩
 | .buildSlice ty n ps => zat (zlY N ps.toList) fun fs => zat (putC N o.dst) fun p => zat (zcU P ty n) fun g => ⟨fun _ _ t h r kn _ => zno (g h (fs t)) fun q => kn (p t q.1) q.2 r⟩
 | .store ty a v => zat (evC N a) fun fa => zat (evC N v) fun fv => zat (putC N o.dst) fun p => ⟨fun _ _ t h r kn _ => heapK (ziE P ty h (fv t) (fa t)) fun h => kn (p t undef) h r⟩
 | .call c => zlm P N o c
 | .index ty a i => zat (evC N a) fun fa => zat (evC N i) fun fi => zat (putC N o.dst) fun p => ⟨fun _ _ t h r kn _ => zbV (zpj P (evE N t) o ty (fa t) (fi t)) fun v => kn (p t v) h r⟩
 | .convert a b v => zat (evC N v) fun fa => zat (putC N o.dst) fun p => ⟨fun _ _ t h r kn _ => zno (zil P (evE N t) h o a b (fa t)) fun q => kn (p t q.1) q.2 r⟩
 | .alloc _ => ⟨genK P N o⟩
 | .lookup ty m k ok => zat (evC N m) fun fm => zat (evC N k) fun fk => zat (putC N o.dst) fun p => zat (zkS P ty ok) fun g => ⟨fun _ _ t h r kn _ => zbV (g h (fm t) (fk t)) fun v => kn (p t v) h r⟩
 | _ => ⟨genW P N o⟩
theorem opW_eq (P : Program) (N : Nat) (o : Oper) : opW (β := β) P N o = opK P N o := by
 unfold opW opK
 cases ho : o.op with
 | index ty a i =>
  simp only [zaD, zhq, zpi]
  congr 1
  funext C x t h r kn ke
  unfold genK opC
  rw [ho]
  show _ = finK _ (oneC _ (zdJ P (zaz N t) o ty ((evC N a).f t) ((evC N i).f t))) kn ke
  cases zdJ P (zaz N t) o ty ((evC N a).f t) ((evC N i).f t) <;> rfl
 | convert a b v =>
  simp only [zaD, zhq, zlj]
  congr 1
  funext C x t h r kn ke
  unfold genK opC
  rw [ho]
  show _ = finK _ (valC _ (zbt P (zaz N t) h o a b ((evC N v).f t))) kn ke
  cases zbt P (zaz N t) h o a b ((evC N v).f t) <;> rfl
 | alloc e => rfl
 | lookup ty m k ok =>
  simp only [zaD, zns]
  congr 1
  funext C x t h r kn ke
  unfold genK opC
  rw [ho]
  show _ = finK _ (zhF P N (toC C) x ⟨t, r.df, r.up, h⟩ o) kn ke
  unfold zhF
  have e : zae P (zaz N t) h o = (zcz P h ty (ev (zaz N t) m) (ev (zaz N t) k) ok).map fun v => (v, h) := by simp only [zae, ho]
  simp only [zbv, e]
  cases zcz P h ty (ev (zaz N t) m) (ev (zaz N t) k) ok with
  | none => simp only [zaf, ho]; rfl
  | some v => rfl
 | call c => exact znM _ _ _ _ ho
 | binOp op ty a b yt =>
  simp only [zaD]
  have e : ∀ t, (aggQ P op ty).f ((evC N a).f t) ((evC N b).f t) (binE P (evE N t) o op ty a b) = binE P (evE N t) o op ty a b := fun t => by
   rw [zbv, zbv]
   refine aggQ_eq ho fun v hv hn => ?_
   rw [zpP]
   unfold binF
   have hf : zed op (evF (zaz N t) a) (evF (zaz N t) b) = none := by
    cases hf : zed op (evF (zaz N t) a) (evF (zaz N t) b) with
    | none => rfl
    | some w =>
     rw [zbg] at hf
     have := znB hf
     obtain ⟨x, hx⟩ := this
     exact absurd hx (hn x)
   rw [hf]; simp only [hv]
  simp only [e, binW_eq]
 | _ => first
  | (simp only [zaD, pickW_eq, zma, unW_eq, zoQ]; done)
  | exact congrArg Bx.mk (zk6 P N o (by unfold opC; rw [ho]))
noncomputable def okW (P : Program) (N : Nat) (o : Oper) : Bx (KOp β) := bif zah P o then opW P N o else ⟨fun _ _ _ _ _ _ _ => none⟩
theorem okW_eq (P : Program) (N : Nat) (o : Oper) : okW (β := β) P N o = okK P N o := by unfold okW okK; rw [opW_eq]
noncomputable def stepW (P : Program) (N : Nat) (ops : Array Oper) (o : Oper) : Bx (KOp β) :=
 match o.guard with
 | none => okW P N o
 | some _ => zat (zce N ops o) fun w => zat (okW P N o) fun g => zat (putC N o.dst) fun p => ⟨fun C x t h r kn ke => @Bool.rec (fun _ => Option β) (kn (p t undef) h r) (g C x t h r kn ke) (w t)⟩
theorem stepW_eq (P : Program) (N : Nat) (ops : Array Oper) (o : Oper) : stepW (β := β) P N ops o = zn3 P N ops o := by
 unfold stepW zn3
 cases o.guard with
 | none => exact okW_eq ..
 | some p => simp only [zaD, okW_eq, zf2]
noncomputable def seqW (P : Program) (N : Nat) (ops : Array Oper) : List Oper -> Bx (KOp β) :=
 @List.rec Oper (fun _ => Bx (KOp β)) ⟨fun _ _ t h r kn _ => kn t h r⟩ (fun o _ ih => zat (stepW P N ops o) fun s => zat ih fun i => ⟨fun C x t h r kn ke => s C x t h r (fun t h r => i C x t h r kn ke) ke⟩)
theorem seqW_eq (P : Program) (N : Nat) (ops : Array Oper) (l : List Oper) : seqW (β := β) P N ops l = seqK P N ops l := by
 induction l with
 | nil => rfl
 | cons o l ih =>
  show (zat (stepW P N ops o) fun s => zat (seqW P N ops l) fun i => (⟨fun C x t h r kn ke => s C x t h r (fun t h r => i C x t h r kn ke) ke⟩ : Bx (KOp β))) = _
  rw [zaD, zaD, ih, stepW_eq]; rfl
noncomputable def seeW (P : Program) (N : Nat) (o : Oper) : Bx (Vt -> Heap -> (Value -> Option β) -> Option β) :=
 match o.op with
 | .load ty a => zat (evC N a) fun fa => zat (zkC P ty) fun q => ⟨fun t h k => loadW q h (fa t) k⟩
 | _ => ⟨fun t h k => zbV (match simC P N o t h with | some p => some p.1 | none => none) k⟩
theorem seeW_eq (P : Program) (N : Nat) (o : Oper) (t : Vt) (h : Heap) (k : Value -> Option β) : (seeW P N o).f t h k = zbV ((seeK P N o).f t h) k := by
 unfold seeW seeK
 cases o.op with
 | load ty a => simp only [zaD, zma]
 | _ => rfl
noncomputable def lookW (P : Program) (N : Nat) (ops : Array Oper) (i : Nat) (o : Oper) : Bx (UOp β) :=
 zat (seeW P N o) fun see => zat (putC N o.dst) fun p =>
 bif zfV ops i then ⟨fun _ _ t h r hs lk k => see t h fun v => @Bool.rec (fun _ => Option β) none (k (p t v) h r hs lk) (zi1 v h.n)⟩
 else ⟨fun _ _ t h r hs lk k => see t h fun v => k (p t v) h r hs ({ o, i, t, v, n := h.n } :: lk)⟩
theorem lookW_eq (P : Program) (N : Nat) (ops : Array Oper) (i : Nat) (o : Oper) : lookW (β := β) P N ops i o = lookK P N ops i o := by
 unfold lookW lookK
 simp only [zaD, seeW_eq, zf2]
noncomputable def calmW (P : Program) (N : Nat) (ops : Array Oper) (i : Nat) (o : Oper) : Bx (UOp β) :=
 bif zah P o then
  bif zaf o then bif looks o then lookW P N ops i o else zat (opW P N o) fun g => ⟨fun C x t h r hs lk k => g C x t h r (fun t h r => k t h r hs lk) noEx⟩
  else zat (opW P N o) fun g => ⟨fun C x t h r hs lk k => g C x t h r (fun t h r => k t h r (h :: hs) lk) noEx⟩
 else ⟨fun _ _ _ _ _ _ _ _ => none⟩
theorem zmw (P : Program) (N : Nat) (ops : Array Oper) (i : Nat) (o : Oper) : calmW (β := β) P N ops i o = znL P N ops i o := by
 unfold calmW znL
 simp only [zaD, lookW_eq, opW_eq]
noncomputable def zlH (P : Program) (N : Nat) (ops : Array Oper) (i : Nat) (o : Oper) : Bx (UOp β) :=
 match o.guard with
 | none => calmW P N ops i o
 | some _ => zat (zce N ops o) fun w => zat (calmW P N ops i o) fun g => zat (putC N o.dst) fun p => ⟨fun C x t h r hs lk k => @Bool.rec (fun _ => Option β) (k (p t undef) h r (bif zaf o then hs else h :: hs) lk) (g C x t h r hs lk k) (w t)⟩
theorem znZ (P : Program) (N : Nat) (ops : Array Oper) (i : Nat) (o : Oper) : zlH (β := β) P N ops i o = zhe P N ops i o := by
 unfold zlH zhe
 cases o.guard with
 | none => exact zmw ..
 | some p => simp only [zaD, zmw, zf2]
noncomputable def useqW (P : Program) (N : Nat) (ops : Array Oper) : List (Nat × Oper) -> Bx (UOp β) :=
 @List.rec (Nat × Oper) (fun _ => Bx (UOp β)) ⟨fun _ _ t h r hs lk k => k t h r hs lk⟩ (fun p _ ih => zat (zlH P N ops p.1 p.2) fun s => zat ih fun i => ⟨fun C x t h r hs lk k => s C x t h r hs lk (fun t h r hs lk => i C x t h r hs lk k)⟩)
theorem useqW_eq (P : Program) (N : Nat) (ops : Array Oper) (l : List (Nat × Oper)) : useqW (β := β) P N ops l = useqK P N ops l := by
 induction l with
 | nil => rfl
 | cons p l ih =>
  show (zat (zlH P N ops p.1 p.2) fun s => zat (useqW P N ops l) fun i => (⟨fun C x t h r hs lk k => s C x t h r hs lk (fun t h r hs lk => i C x t h r hs lk k)⟩ : Bx (UOp β))) = _
  rw [zaD, zaD, ih, znZ]; rfl
noncomputable def zmm {γ : Type} (n : Nat) (k : Nat -> γ) : γ := @Nat.rec (fun _ => γ) (k 0) (fun m _ => k (Nat.succ m)) n
theorem zjE {γ : Type} (n : Nat) (k : Nat -> γ) : zmm n k = k n := by cases n <;> rfl
noncomputable def seenW (P : Program) (N : Nat) (o : Oper) : Bx (Vt -> Heap -> Option (Value × Heap)) :=
 bif zaf o then ⟨fun t h => simC P N o t h⟩ else ⟨fun _ _ => none⟩
noncomputable def sameIn (v : Value) (n : Nat) (h : Heap) (r : Option (Value × Heap)) : Bool := match r with | some (w, h1) => zcQ w v n && Nat.beq h1.n h.n | none => false
noncomputable def zh5 (lo hi : Nat) (g : Vt -> Heap -> Option (Value × Heap)) (t : Vt) (v : Value) (n : Nat) : Nat -> List Heap -> Bool := fun k hs => @List.rec Heap (fun _ => Nat -> Bool) (fun _ => true)
 (fun h _ ih k => bif (bif Nat.blt k lo then true else bif Nat.blt hi k then true else sameIn v n h (g t h)) then ih (k + 1) else false) hs k
noncomputable def zo5 (P : Program) (ops : Array Oper) (N : Nat) (hs : List Heap) (l : LookC) : Bool :=
 @LookC.rec (fun _ => Bool) (fun o i t v n => zmm i fun i => zat (seenW P N o) fun g => zh5 (zgP ops i) (zcV ops i) g t v n 0 hs.reverse) l
theorem zo4 (P : Program) (ops : Array Oper) (N : Nat) (hs : List Heap) (l : LookC) : zo5 P ops N hs l = zjp P ops N hs l := by
 obtain ⟨o, i, t, v, n⟩ := l
 unfold zjp
 show (zmm i fun i => zat (seenW P N o) fun g => zh5 (zgP ops i) (zcV ops i) g t v n 0 hs.reverse) = _
 rw [zjE, zaD]
 rw [<- zmE, <- zd8]
 generalize hs.reverse = l
 have key : ∀ l k, zh5 (zci ops ((preds ops.toList).getD i [])) (zaW ops (preds ops.toList) i) (seenW P N o).f t v n k l = zjo P N (zci ops ((preds ops.toList).getD i [])) (zaW ops (preds ops.toList) i) ⟨o, i, t, v, n⟩ k l := by
  intro l
  induction l with
  | nil => intro k; rfl
  | cons h l ih =>
   intro k
   show (bif _ then zh5 _ _ _ t v n (k + 1) l else false) = (bif _ then zjo P N _ _ _ (k + 1) l else false)
   rw [ih]
   congr 3
   unfold sameIn seenW
   cases zaf o <;> rfl
 exact key l 0
noncomputable def zdS (P : Program) (ops : Array Oper) (N : Nat) (hs : List Heap) : List LookC -> Bool := @List.rec LookC (fun _ => Bool) true (fun l _ ih => bif zo5 P ops N hs l then ih else false)
theorem zfx (P : Program) (ops : Array Oper) (N : Nat) (hs : List Heap) (l : List LookC) : zdS P ops N hs l = zct P ops N hs l := by
 induction l with
 | nil => rfl
 | cons a l ih =>
  show (bif zo5 P ops N hs a then zdS P ops N hs l else false) = (bif zjp P ops N hs a then zct P ops N hs l else false)
  rw [zo4, ih]
noncomputable def zmp (P : Program) (ops : Array Oper) (N : Nat) (hs : List Heap) (lk : List LookC) (b : Option β) : Option β :=
 match lk with
 | [] => b
 | _ => bif zdS P ops N hs lk then b else none
theorem zle (P : Program) (ops : Array Oper) (N : Nat) (hs : List Heap) (lk : List LookC) (b : Option β) : zmp P ops N hs lk b = bif zct P ops N hs lk then b else none := by
 cases lk with
 | nil => rfl
 | cons l lk => show (bif zdS P ops N hs (l :: lk) then b else none) = _; rw [zfx]
def unseenm (ops : Array Oper) (news : List (Nat × Nat × Blk)) (i : Nat) : List (Nat × Nat × Blk) := news.filter fun p => !((masks ops.toList).getD i 0).testBit p.1
theorem unseen_m (ops : Array Oper) (news : List (Nat × Nat × Blk)) (i : Nat) : unseen (preds ops.toList) news i = unseenm ops news i := by
 unfold unseen unseenm
 simp only [zeH]
noncomputable def zhY (P : Program) (N : Nat) (ops : Array Oper) (C : RecC) (x : Ctx) (z : OpenC) (i : Nat) (o : Oper) : Option OpenC :=
 match z.news with
 | [] => match (okC P N o).f C x z.s with
  | some (.val v, s) => some { z with s := { s with t := (putC N o.dst).f s.t v }, hs := s.h :: z.hs }
  | _ => none
 | _ :: _ => match (okC P N o).f C x { z.s with h := hide (unseenm ops z.news i) z.s.h } with
  | some (.val v, s) =>
   bif (unseenm ops z.news i).all (fun p => (s.h.get? p.2.1).isSome) then some { z with s := { s with t := (putC N o.dst).f s.t v, h := unhide (unseenm ops z.news i) s.h }, hs := unhide (unseenm ops z.news i) s.h :: z.hs } else none
  | _ => none
theorem zkL (P : Program) (N : Nat) (ops : Array Oper) (C : RecC) (x : Ctx) (z : OpenC) (i : Nat) (o : Oper) : zhY P N ops C x z i o = zfK P N C x (preds ops.toList) z i o := by
 unfold zhY zfK
 simp only [unseen_m]
 rfl
noncomputable def zeI (P : Program) (N : Nat) (ops : Array Oper) (i : Nat) (o : Oper) : Bx (RecC -> Ctx -> OpenC -> Option OpenC) :=
 bif zaf o then bif zah P o then
  match o.guard with
  | none => ⟨fun _ _ z => zdY P N z i o⟩
  | some _ => ⟨fun _ _ z => bif (zce N ops o).f z.s.t then zdY P N z i o else some { z with s := { z.s with t := (putC N o.dst).f z.s.t undef } }⟩
  else ⟨fun _ _ z => bif (zce N ops o).f z.s.t then none else some { z with s := { z.s with t := (putC N o.dst).f z.s.t undef } }⟩
 else ⟨fun C x z => bif (zce N ops o).f z.s.t then zhY P N ops C x z i o else some { z with s := { z.s with t := (putC N o.dst).f z.s.t undef }, hs := z.s.h :: z.hs }⟩
theorem zje (P : Program) (N : Nat) (ops : Array Oper) (i : Nat) (o : Oper) : zeI P N ops i o = zcv P N ops i o := by
 unfold zeI zcv
 simp only [zkL]
 rfl
noncomputable def zhU (P : Program) (N : Nat) (ops : Array Oper) : List (Nat × Oper) -> RecC -> Ctx -> OpenC -> Option OpenC :=
 @List.rec (Nat × Oper) (fun _ => RecC -> Ctx -> OpenC -> Option OpenC) (fun _ _ z => some z) (fun p _ ih C x z => match (zeI P N ops p.1 p.2).f C x z with | some z => ih C x z | none => none)
theorem zkE (P : Program) (N : Nat) (ops : Array Oper) (l : List (Nat × Oper)) : zhU P N ops l = zdZ P N ops l := by
 induction l with
 | nil => rfl
 | cons p l ih =>
  funext C x z
  show (match (zeI P N ops p.1 p.2).f C x z with | some z => zhU P N ops l C x z | none => none) = (match (zcv P N ops p.1 p.2).f C x z with | some z => zdZ P N ops l C x z | none => none)
  rw [ih, zje]
noncomputable def zhX (P : Program) (ops : Array Oper) (N : Nat) (r : Option OpenC) : Option (Ex × FS) :=
 match r with
 | none => none
 | some z => match z.hs with
  | [] => some (.normal, z.s)
  | [_] => some (.normal, z.s)
  | _ => bif zdS P ops N z.hs z.looks then some (.normal, z.s) else none
theorem zkJ (P : Program) (ops : Array Oper) (N : Nat) (r : Option OpenC) : zhX P ops N r = zfJ P ops N r := by
 unfold zhX zfJ
 simp only [zfx]
 rfl
noncomputable def openM (P : Program) (N : Nat) (ops : Array Oper) : Bx (RecC -> Ctx -> FS -> Option (Ex × FS)) :=
 bif zej ops then ⟨fun C x s => zhX P ops N (zhU P N ops (numbered ops.toList 0) C x ⟨s, [s.h], [], []⟩)⟩ else ⟨fun _ _ _ => none⟩
theorem openM_eq (P : Program) (N : Nat) (ops : Array Oper) : openM P N ops = zkK P N ops := by
 unfold openM zkK
 simp only [zkJ, zkE, zhW]
noncomputable def zhN (P : Program) (N : Nat) (ops : Array Oper) : Bx (KOp β) :=
 bif calm ops && zej ops then zat (useqW P N ops (numbered ops.toList 0)) fun g => ⟨fun C x t h r kn _ => g C x t h r [h] [] fun t h r hs lk => zmp P ops N hs lk (kn t h r)⟩ else ⟨fun C x t h r kn ke => match (openM P N ops).f (toC C) x ⟨t, r.df, r.up, h⟩ with | some (.normal, s) => kn s.t s.h ⟨s.df, s.up⟩ | some (e, s) => ke e s.t s.h ⟨s.df, s.up⟩ | none => none⟩
theorem zni (P : Program) (N : Nat) (ops : Array Oper) : zhN (β := β) P N ops = zeg P N ops := by
 unfold zhN zeg
 simp only [zaD, useqW_eq, zle, openM_eq]
 all_goals rfl
noncomputable def zfa (P : Program) (N : Nat) (F : Nat) : Code -> Bx (KOp β) :=
 @Code.rec (fun _ => Bx (KOp β))
  ⟨fun _ _ t h r kn _ => kn t h r⟩
  (fun _ ops draw => bif draw then zhN P N ops else seqW P N ops ops.toList)
  (fun _ _ a b => zat a fun a => zat b fun b => ⟨fun C x t h r kn ke => a C x t h r (fun t h r => b C x t h r kn ke) ke⟩)
  (fun c _ _ a b => zat (evC N c) fun fc => zat a fun a => zat b fun b => ⟨fun C x t h r kn ke => boolK (fc t) (a C x t h r kn ke) (b C x t h r kn ke)⟩)
  (fun id _ b => zat b fun b => ⟨fun C x t h r kn ke => b C x t h r kn (zir id kn ke)⟩)
  (fun _ b => ⟨fun C x t h r _ ke => zo2 b C x ke F t h r⟩)
  (fun f params assign body _ _ => bif opOK P f then ⟨zlX P N f params assign body⟩ else ⟨fun _ _ _ _ _ _ _ => none⟩)
  (fun id => ⟨fun _ _ t h r _ ke => ke (.exit id) t h r⟩)
  (fun _ b => b)
  (fun _ => ⟨fun _ _ t h r kn _ => kn t h r⟩)
  (fun _ => ⟨fun _ _ _ _ _ _ _ => none⟩)
  ⟨fun _ _ t h r _ ke => ke .ret t h r⟩
  (fun _ => ⟨fun _ _ _ _ _ _ _ => none⟩)
theorem zeU (P : Program) (N F : Nat) (c : Code) : zfa (β := β) P N F c = zfb P N F c := by
 induction c with
 | region id ops draw =>
  show (bif draw then zhN P N ops else seqW P N ops ops.toList) = (bif draw then zeg P N ops else seqK P N ops ops.toList)
  rw [zni, seqW_eq]
 | seq a b iha ihb =>
  show (zat (zfa P N F a) fun a => zat (zfa P N F b) fun b => (⟨fun C x t h r kn ke => a C x t h r (fun t h r => b C x t h r kn ke) ke⟩ : Bx (KOp β))) = _
  rw [zaD, zaD, iha, ihb]; rfl
 | cond c a b iha ihb =>
  show (zat (evC N c) fun fc => zat (zfa P N F a) fun a => zat (zfa P N F b) fun b => (⟨fun C x t h r kn ke => boolK (fc t) (a C x t h r kn ke) (b C x t h r kn ke)⟩ : Bx (KOp β))) = _
  rw [zaD, zaD, zaD, iha, ihb]; rfl
 | block id b ih =>
  show (zat (zfa P N F b) fun b => (⟨fun C x t h r kn ke => b C x t h r kn (zir id kn ke)⟩ : Bx (KOp β))) = _
  rw [zaD, ih]; rfl
 | loop b ih =>
  show (⟨fun C x t h r _ ke => zo2 (zfa P N F b) C x ke F t h r⟩ : Bx (KOp β)) = _
  rw [ih]; rfl
 | scope b ih => exact ih
 | _ => rfl
end
noncomputable def resW (P : Program) (N : Nat) : List ResultVar -> Bx (Vt -> Heap -> Option (List Value)) :=
 @List.rec ResultVar (fun _ => Bx (Vt -> Heap -> Option (List Value))) ⟨fun _ _ => some []⟩ (fun r _ ih => zat ih fun i => match r with
  | .tmp a => zat (evC N (.tmp a)) fun f => ⟨fun t h => @Option.rec (List Value) (fun _ => Option (List Value)) none (fun vs => some (f t :: vs)) (i t h)⟩
  | .cell a ty => zat (evC N (.tmp a)) fun f => ⟨fun t h => zbV (zeE P ty h (f t)) fun v => @Option.rec (List Value) (fun _ => Option (List Value)) none (fun vs => some (v :: vs)) (i t h)⟩)
theorem resW_eq (P : Program) (N : Nat) (rs : List ResultVar) : (resW P N rs).f = resL P N rs := by
 induction rs with
 | nil => rfl
 | cons r rs ih =>
  show (zat (resW P N rs) fun i => match r with
   | .tmp a => zat (evC N (.tmp a)) fun f => (⟨fun t h => @Option.rec (List Value) (fun _ => Option (List Value)) none (fun vs => some (f t :: vs)) (i t h)⟩ : Bx (Vt -> Heap -> Option (List Value)))
   | .cell a ty => zat (evC N (.tmp a)) fun f => ⟨fun t h => zbV (zeE P ty h (f t)) fun v => @Option.rec (List Value) (fun _ => Option (List Value)) none (fun vs => some (v :: vs)) (i t h)⟩).f = _
  rw [zaD, ih]
  funext t h
  cases r with
  | tmp a =>
   simp only [zaD]
   show _ = (match some ((evC N (.tmp a)).f t) with | some v => (match resL P N rs t h with | some vs => some (v :: vs) | none => none) | none => none)
   cases resL P N rs t h <;> rfl
  | cell a ty =>
   simp only [zaD]
   show _ = (match zeE P ty h ((evC N (.tmp a)).f t) with | some v => (match resL P N rs t h with | some vs => some (v :: vs) | none => none) | none => none)
   cases zeE P ty h ((evC N (.tmp a)).f t) with
   | none => rfl
   | some v => cases resL P N rs t h <;> rfl
noncomputable def leaveW (res : Vt -> Heap -> Option (List Value)) (P : Program) (C : RecK) (fn : Func) (N : Nat) (t : Vt) (h : Heap) (r : Rest) : Option (End × FrameMode × Heap) :=
 match r.df with
 | [] => retC r.up h (zfL (res t h))
 | _ :: _ => endC r.up (zaA P (zcP (toC C)) fn (zaz N t) r.df .returning h)
noncomputable def leaveWe (res : Vt -> Heap -> Option (List Value)) (P : Program) (C : RecK) (fn : Func) (N : Nat) (e : Ex) (t : Vt) (h : Heap) (r : Rest) : Option (End × FrameMode × Heap) :=
 match e with
 | .ret => leaveW res P C fn N t h r
 | .panic ch => endC r.up (zaA P (zcP (toC C)) fn (zaz N t) r.df (.panicking ch) h)
 | _ => none
noncomputable def rowW : List Value -> Vt -> Vt := fun l t => match l with
 | [] => t
 | [a] => (sC 0).f t a
 | [a, b] => (sC 1).f ((sC 0).f t a) b
 | [a, b, c] => (sC 2).f ((sC 1).f ((sC 0).f t a) b) c
 | l => zcy l 0 t
theorem rowW_eq (l : List Value) (t : Vt) : rowW l t = zcy l 0 t := by
 unfold rowW
 split <;> rfl
noncomputable def bodyW (P : Program) (F : Nat) (f : FuncId) : Bx (RecK -> Array Value -> Bool -> FrameMode -> Heap -> Option (End × FrameMode × Heap)) :=
 match P.funcs[f]? with
 | none => ⟨fun _ _ _ _ _ => none⟩
 | some fn => match fn.body with
  | none => ⟨fun _ _ _ _ _ => none⟩
  | some c => zat (zfa (β := End × FrameMode × Heap) P (nOf P f) F c) fun g => zat (resW P (nOf P f) fn.results.toList) fun res =>
   ⟨fun C args dfr up h => @Bool.rec (fun _ => Option (End × FrameMode × Heap)) none (g C { fn := f, round := none, dfr } (rowW args.toList .nil) h ⟨[], up⟩ (leaveW res P C fn (nOf P f)) (leaveWe res P C fn (nOf P f))) (Nat.ble (lenL args.toList) fn.ntmps)⟩
theorem bodyW_eq (P : Program) (F : Nat) (f : FuncId) : bodyW P F f = bodyK P F f := by
 unfold bodyW bodyK
 cases P.funcs[f]? with
 | none => rfl
 | some fn =>
  cases hb : fn.body with
  | none => simp only [hb]
  | some c =>
   simp only [hb, zaD, zeU, resW_eq, zf2, rowW_eq]
   congr 1
noncomputable def callW (P : Program) (K : Known) (F : Nat) (C : RecK) (f : FuncId) (args : Array Value) (dfr : Bool) (up : FrameMode) (h : Heap) : Option (End × FrameMode × Heap) :=
 match (bif dfr then none else K f args h) with
 | some r => some (.ret r.1, up, zcm h r.2)
 | none => (bodyW P F f).f C args dfr up h
theorem callW_eq (P : Program) (K : Known) (F : Nat) (C : RecK) : callW P K F C = znN P K F C := by
 funext f args dfr up h
 unfold callW znN
 rw [bodyW_eq]
 all_goals rfl
noncomputable def zf1 (P : Program) (F : Nat) (C : RecK) (l : Nat) (fn : FuncId) (body : Code) : Bx (Vt -> Heap -> Rest -> Option (End × Heap)) :=
 zat (zfa (β := End × Heap) P (nOf P fn) F body) fun g => ⟨fun t h r => match zbI h l with
 | some r1 => bif r1.state == .ready then g C { fn, round := some l, dfr := false } t (h.set l (.obj (.loop { r1 with state := .busy }))) r (ziW l) (ziX l (P.funcs[fn]?).isSome) else none
 | none => none⟩
noncomputable def zkt (P : Program) (F : Nat) (C : RecK) (l : Nat) (args : Array Value) (h : Heap) (fn : FuncId) (tmps : Array Value) (params : Array Tmp) (assign body : Code) : Option (End × Heap) :=
 zmm fn fun fn =>
  bif Nat.beq (lenL args.toList) params.size then
  bif Nat.beq (lenL tmps.toList) (nOf P fn) then
  (zfa P (nOf P fn) F assign).f C { fn, round := some l, dfr := false } (zhJ (nOf P fn) (params.toList.zip args.toList) (zcy tmps.toList 0 .nil)) h ⟨[], .run⟩ (zf1 P F C l fn body).f (fun _ _ _ _ => none)
  else none
  else none
noncomputable def zlV (P : Program) (F : Nat) (C : RecK) (l : Nat) (args : Array Value) (h : Heap) : Option (End × Heap) :=
 match zbI h l with
 | none => none
 | some r0 => @Loop.rec (fun _ => Option (End × Heap)) (fun _ _ fn tmps params assign body _ => zkt P F C l args h fn tmps params assign body) r0
theorem zou (P : Program) (F : Nat) (C : RecK) : zlV P F C = zhh P F C := by
 have hm : ∀ l fn body, (zf1 P F C l fn body).f = zeC P F C l fn body := by
  intro l fn body
  unfold zf1 zeC
  rw [zaD, zeU]
  all_goals rfl
 funext l args h
 unfold zlV zhh
 cases zbI h l with
 | none => rfl
 | some r0 =>
  show zkt P F C l args h r0.fn r0.tmps r0.params r0.assign r0.body = _
  unfold zkt
  rw [zjE, hm, zeU]
noncomputable def runW (P : Program) (K : Known) (F : Nat) : Nat -> RecK := @Nat.rec (fun _ => RecK) ⟨fun _ _ _ _ _ => none, fun _ _ _ => none⟩ (fun _ C => { call := callW P K F C, round := zlV P F C })
theorem zop (P : Program) (K : Known) (F : Nat) : ∀ n, runW P K F n = runK P K F n := by
 intro n
 induction n with
 | zero => rfl
 | succ n ih =>
  show RecK.mk (callW P K F (runW P K F n)) (zlV P F (runW P K F n)) = RecK.mk (znN P K F (runK P K F n)) (zhh P F (runK P K F n))
  rw [ih, callW_eq, zou]
end Go.AX

namespace Go.AX
open Go.RowKit
noncomputable def listW {β : Type} (P : Program) (N F : Nat) : List Code -> Bx (KOp β) :=
 @List.rec Code (fun _ => Bx (KOp β)) ⟨fun _ _ t h r kn _ => kn t h r⟩ (fun a _ ih => zat (zfa P N F a) fun a => zat ih fun b => ⟨fun C x t h r kn ke => a C x t h r (fun t h r => b C x t h r kn ke) ke⟩)
noncomputable def zfs (P : Program) (K : Known) (F n N : Nat) (x : Ctx) (l : List Code) (s : St) (ks : List Nat) : Option St :=
 bif Nat.beq (lenL s.tm.toList) N then (listW P N F l).f (runW P K F n) x (zcy s.tm.toList 0 .nil) s.h ⟨s.df, s.up⟩ (fun t h r => some ((FS.st N ⟨t, r.df, r.up, h⟩).keep ks)) (fun _ _ _ _ => none) else none
noncomputable def lastW (P : Program) (K : Known) (F n N : Nat) (x : Ctx) (c : Code) (s : St) : Option St :=
 bif Nat.beq (lenL s.tm.toList) N then (zfa P N F c).f (runW P K F n) x (zcy s.tm.toList 0 .nil) s.h ⟨s.df, s.up⟩ (fun _ _ _ => none) (fun e t h r => match e with | .ret => some ((FS.st N ⟨t, r.df, r.up, h⟩).keep []) | _ => none) else none
theorem zlK {N : Nat} {s : St} (h : Nat.beq (lenL s.tm.toList) N = true) : FS.st N ⟨zcy s.tm.toList 0 .nil, s.df, s.up, s.h⟩ = s := by
 have h : s.tm.toList.length = N := by rw [<- zcA]; exact Nat.eq_of_beq_eq_true h
 obtain ⟨tm, df, up, hh⟩ := s
 simp only at h
 simp only [FS.st, St.mk.injEq, and_true]
 rw [zcM _ _ (by omega), h, Nat.sub_self]
 apply Array.ext'; simp
theorem listW_ok {β : Type} {P : Program} {K : Known} {C : RecK} (hC : OkK P K C) {N F : Nat} {x : Ctx} {kn : Vt -> Heap -> Rest -> Option β} {b : β} : ∀ (l : List Code) (t : Vt) (h : Heap) (r : Rest), (listW P N F l).f C x t h r kn (fun _ _ _ _ => none) = some b ->
  ∃ (m : Nat) (s1 : FS), runL (run P K m) x l (FS.st N ⟨t, r.df, r.up, h⟩) = some (s1.st N) /\ kn s1.t s1.h ⟨s1.df, s1.up⟩ = some b := by
 intro l
 induction l with
 | nil => intro t h r e; exact ⟨0, ⟨t, r.df, r.up, h⟩, rfl, e⟩
 | cons a l ih =>
  intro t h r e
  have e : (zat (zfa P N F a) fun a => zat (listW P N F l) fun b => (⟨fun C x t h r kn ke => a C x t h r (fun t h r => b C x t h r kn ke) ke⟩ : Bx (KOp β))).f C x t h r kn (fun _ _ _ _ => none) = some b := e
  rw [zaD, zaD, zeU] at e
  obtain ⟨m1, e1, s1, h1, h2⟩ := zeV hC a _ _ _ _ _ _ e
  cases e1 with
  | normal =>
   obtain ⟨m2, s2, h3, h4⟩ := ih _ _ _ h2
   refine ⟨max m1 m2, s2, ?_, h4⟩
   simp only [runL]
   rw [(zap P K (Nat.le_max_left m1 m2)).code _ _ _ _ h1]
   have mono : ∀ (l : List Code) (s : St) (r : St), runL (run P K m2) x l s = some r -> runL (run P K (max m1 m2)) x l s = some r := by
    intro l
    induction l with
    | nil => intro s r e; exact e
    | cons a l ih2 =>
     intro s r e
     simp only [runL] at e ⊢
     cases hc : (run P K m2).code x a s with
     | none => rw [hc] at e; cases e
     | some p =>
      rw [(zap P K (Nat.le_max_right m1 m2)).code _ _ _ _ hc]
      rw [hc] at e
      obtain ⟨e1, s3⟩ := p
      cases e1 with
      | normal => exact ih2 _ _ e
      | _ => cases e
   exact mono _ _ _ h3
  | _ => cases h2
theorem zca {P : Program} {K : Known} {N : Nat -> Prop} {w0 : World} {x : Ctx} {Good : World -> Prop} (hmx : P.follows .mixedOrders = true) (hK : KOK P K Good) (hG : Safe Good N w0) {F n M m : Nat} {c : Code} {ks : List Nat} {e : Ex} {s s1 s2 : St}
  (he : zfs P K F n M x (zdh m c).1 s ks = some s1) (h : Piece P N w0 x [.code (zdh m c).2] s1 e s2) : Piece P N w0 x [.code c] s e s2 := by
 unfold zfs at he
 cases hb : Nat.beq (lenL s.tm.toList) M with
 | false => rw [hb] at he; cases he
 | true =>
  rw [hb] at he; simp only [cond_true] at he
  have hC : OkK P K (runW P K F n) := by rw [zop]; exact zoq P K F n
  obtain ⟨m1, s3, h1, h2⟩ := listW_ok hC _ _ _ _ he
  have hs : FS.st M ⟨zcy s.tm.toList 0 .nil, s.df, s.up, s.h⟩ = s := zlK hb
  have h1 : runL (run P K m1) x (zdh m c).1 (FS.st M ⟨zcy s.tm.toList 0 .nil, s.df, s.up, s.h⟩) = some (s3.st M) := h1
  rw [hs, <- zkr] at h1
  cases h2
  have := znd hmx hK hG _ _ _ h1 h
  rwa [cutAt_eq] at this
theorem zo9 {P : Program} {K : Known} {x : Ctx} {F n M : Nat} {c : Code} {s s2 : St} (he : lastW P K F n M x c s = some s2) : ∃ m s', (runF P K m).code x c s = some (.ret, s') /\ s2 = s'.keep [] := by
 unfold lastW at he
 cases hb : Nat.beq (lenL s.tm.toList) M with
 | false => rw [hb] at he; cases he
 | true =>
  rw [hb] at he; simp only [cond_true, zeU] at he
  have hC : OkK P K (runW P K F n) := by rw [zop]; exact zoq P K F n
  obtain ⟨m1, e1, s3, h1, h2⟩ := zeV hC c _ _ _ _ _ _ he
  have hs : FS.st M ⟨zcy s.tm.toList 0 .nil, s.df, s.up, s.h⟩ = s := zlK hb
  have h1 : (run P K m1).code x c (FS.st M ⟨zcy s.tm.toList 0 .nil, s.df, s.up, s.h⟩) = some (e1, s3.st M) := h1
  rw [hs, <- zkr] at h1
  cases e1 with
  | ret => exact ⟨m1, s3.st M, h1, (Option.some.inj h2).symm⟩
  | _ => cases h2
end Go.AX
