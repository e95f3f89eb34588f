/- What the reading says of a call, the machine does: whole. -/
import Derived.Test.YtjdopbcoaocllaaGreatDoorAxC
import Derived.Orders
namespace Go.AX
open Go.RowKit
section
variable {P : Program} {Rr : Recs} {x : Ctx} {ops : Array Oper} {s : St} {z : Nat → Open}
variable {N : Nat → Prop} {w0 w : World} {rd : Option Nat} {cs0 cs : List Frame} {ρ0 ρ : Ren} {E : Nat → Prop} {m : Nat} {tm' : Array Value} {df' : List Deferred}
theorem zeC (tm : Array Value) (d : Option Tmp) (v : Value) (t : Tmp) (h : d ≠ some t) : (put tm d v).getD t undef = tm.getD t undef := by
  cases d with
  | none => rfl
  | some d =>
    have : d ≠ t := fun e => h (by rw [e])
    simp [put, this]
theorem zcU (tm : Array Value) (v : Value) (t : Tmp) : (put tm (some t) v).getD t undef = if t < tm.size then v else undef := by
  rw [Array.getD_eq_getD_getElem?]
  simp only [put, Array.getElem?_setIfInBounds, if_true]
  split <;> rfl
theorem zdH (tm : Array Value) (d : Option Tmp) (v : Value) : (put tm d v).size = tm.size := by cases d <;> simp [put]
theorem Inv.tm_put (Q : Seq P Rr x ops s z) (G : Grows Rr) (I : Inv P x ops s z N w0 rd cs0 ρ0 E m ρ tm' df' cs w) {i : Nat} {o : Oper} (ho : ops[i]? = some o) (hE : ¬ E i) {ρ1 : Ren} (hle : Le ρ ρ1) {v v' : Value}
    (hz : (z (i + 1)).s.tm = put (z i).s.tm o.dst v) (hv : VR (cut ρ1 (z (i + 1)).s.h.n) v v') (q : Nat) (t : Tmp) (hq : q ≤ ops.size) (h1 : ∀ j, (E j ∨ j = i) → writesAt ops j t → j < q) (h2 : ∀ j, j < q → writesAt ops j t → (E j ∨ j = i)) :
    VR (cut ρ1 (z q).s.h.n) ((z q).s.tm.getD t undef) ((put tm' o.dst v').getD t undef) := by
  have hi : i < ops.size := (Array.getElem?_eq_some_iff.1 ho).1
  by_cases hw : o.dst = some t
  · have hwi : writesAt ops i t := ⟨o, ho, hw⟩
    have hiq := h1 i (.inr rfl) hwi
    have hno : ∀ j, i + 1 ≤ j → j < q → ¬ writesAt ops j t := by
      intro j hj hjq hwj
      obtain ⟨p, hp, hpd⟩ := hwj
      have hEj : E j := by
        rcases h2 j hjq ⟨p, hp, hpd⟩ with h | h
        · exact h
        · omega
      rcases Q.ok.tmps i j o p t (by omega) ho hp hw (.inr hpd) with h | h
      · exact hE (I.dn j i hEj h)
      · have := zcV _ Q.ok.down i j (by simpa using hi) h
        omega
    rw [Q.tm_keep (a := i + 1) (by omega) hq hno, hz, hw, zcU, zcU]
    have hs1 := Q.tm_size i (by omega)
    have hs2 := I.size
    have hn := Q.n_mono G (a := i + 1) (b := q) (by omega) hq
    rw [hs1, hs2]
    split
    · exact hv.mono (za0 (Le.refl _) hn)
    · exact VR.undef _
  · rw [zeC _ _ _ _ hw]
    refine (I.tm q t hq (fun j hj hwj => h1 j (.inl hj) hwj) (fun j hj hwj => ?_)).mono (za0 hle (Nat.le_refl _))
    rcases h2 j hj hwj with h | h
    · exact h
    · subst h
      obtain ⟨p, hp, hpd⟩ := hwj
      rw [ho] at hp; cases hp
      exact absurd hpd hw
theorem Inv.simple_keep (Q : Seq P Rr x ops s z) (G : Grows Rr) (I : Inv P x ops s z N w0 rd cs0 ρ0 E m ρ tm' df' cs w) {i : Nat} {o : Oper} (ho : ops[i]? = some o) (hs : isSimple o = true) (hE : ¬ E i) (hp : ∀ j, j ∈ (preds ops.toList).getD i [] → E j)
    {w1 : World} (hm : More w w1) {v v' : Value} (hz : (z (i + 1)).s.tm = put (z i).s.tm o.dst v) (hv : VR (cut ρ (z (i + 1)).s.h.n) v v') (hnl : ∀ A b, ¬ Laid z ops i A b) :
    Inv P x ops s z N w0 rd cs0 ρ0 (fun j => E j ∨ j = i) m ρ (put tm' o.dst v') df' cs w1 := by
  have hi : i < ops.size := (Array.getElem?_eq_some_iff.1 ho).1
  have hact : ¬ actAt ops i := by rintro ⟨p, hpi, hps⟩; rw [ho] at hpi; cases hpi; rw [hs] at hps; cases hps
  exact {
    mle := I.mle
    below := fun j hj ha => .inl (I.below j hj ha)
    above := fun j hj ha => by
      rintro (h | h)
      · exact I.above j hj ha h
      · subst h; exact hact ha
    inn := fun j hj => by
      rcases hj with h | h
      · exact I.inn j h
      · omega
    dn := fun j k hj hk => by
      rcases hj with h | h
      · exact .inl (I.dn j k h hk)
      · subst h; exact .inl (hp k hk)
    r := I.r.more hm
    fine := fun A sl b e f => by
      by_cases hl : live b = true
      · exact (I.fine A sl b e f).keep (Le.refl _) (hm.old _ ((I.fine A sl b e f).lt hl))
      · have : b = .dead := by cases b <;> simp_all [live]
        subst this; exact .dead
    dom := fun A sl e => ⟨fun k b hk hL => .inl ((I.dom A sl e).1 k b hk hL), by
      rcases (I.dom A sl e).2 with h | ⟨k, b, h1, h2⟩
      · exact .inl h
      · exact .inr ⟨k, b, .inl h1, h2⟩⟩
    ag := I.ag
    glob := I.glob
    size := by rw [zdH]; exact I.size
    tm := fun q t hq h1 h2 => I.tm_put Q G ho hE (Le.refl _) hz hv q t hq h1 h2
    df := I.df
    cs := I.cs
    rd := I.rd }
theorem Inv.simple_new (Q : Seq P Rr x ops s z) (G : Grows Rr) (I : Inv P x ops s z N w0 rd cs0 ρ0 E m ρ tm' df' cs w) {i : Nat} {o : Oper} (ho : ops[i]? = some o) (hs : isSimple o = true) (hE : ¬ E i) (hp : ∀ j, j ∈ (preds ops.toList).getD i [] → E j)
    {v : Value} {b : Blk} (hok : opsOK P o = true) (hb : own b = true ∧ live b = true ∧ ro b = false) (hf : ∀ H : Heap, H.n = (z i).s.h.n → simpleB P (z i).s.tm H o = some (v, H.push b)) (hz : (z (i + 1)).s = { (z i).s with h := (z i).s.h.push b, tm := put (z i).s.tm o.dst v }) :
    ∃ ρ1 v' w1, Le ρ ρ1 ∧ (execOp (ev tm') o).run P w = .ok (.value v') w1 ∧ Inv P x ops s z N w0 rd cs0 ρ0 (fun j => E j ∨ j = i) m ρ1 (put tm' o.dst v') df' cs w1 := by
  have hi : i < ops.size := (Array.getElem?_eq_some_iff.1 ho).1
  have hact : ¬ actAt ops i := by rintro ⟨p, hpi, hps⟩; rw [ho] at hpi; cases hpi; rw [hs] at hps; cases hps
  have h0 := Q.n_mono G (a := 0) (b := i) (by omega) (by omega)
  rw [Q.zero] at h0
  simp only at h0
  have hL : Laid z ops i (z i).s.h.n b := ⟨rfl, by rw [hz], hb.1, hb.2.1, hb.2.2, o, ho, hs⟩
  have rD := dead_R I.r (n := (z i).s.h.n) (fun g hg => Nat.lt_of_lt_of_le (I.glob g hg) h0)
  have hsim := hf (deads (z i).s.h.n) rfl
  obtain ⟨ρ', v', w1, hle, hag, hr, hv, hrun, hm⟩ := zb2 rD (I.operands Q G ho hE hp hok) hsim
  have hnone : ρ (z i).s.h.n = none := by
    cases hq : ρ (z i).s.h.n with
    | none => rfl
    | some sl => exact absurd ((I.dom _ sl hq).1 i b hi hL) hE
  let ρ1 : Ren := fun A => if A = (z i).s.h.n then ρ' A else ρ A
  have hle1 : Le ρ ρ1 := fun A sl e => by
    show (if A = (z i).s.h.n then ρ' A else ρ A) = some sl
    rw [if_neg (fun h => by rw [h, hnone] at e; cases e)]; exact e
  have hz1 : (z (i + 1)).s.h.n = (z i).s.h.n + 1 := by rw [hz]; rfl
  have hle2 : Le ρ' (cut ρ1 ((z i).s.h.n + 1)) := fun A sl e => by
    have hA := hr.dom A sl e
    have hA' : A < (z i).s.h.n + 1 := hA
    refine cut_some.2 ⟨hA', ?_⟩
    show (if A = (z i).s.h.n then ρ' A else ρ A) = some sl
    by_cases h : A = (z i).s.h.n
    · rw [if_pos h]; exact e
    · rw [if_neg h]
      have := hag A (by show A < (z i).s.h.n; omega)
      rw [this] at e
      exact (cut_some.1 e).2
  -- the block where it lies
  have hblk : ∀ c, (HB z ops m).get? (z i).s.h.n = some c → c = b := by
    intro c hc
    rcases zlA hc with ⟨_, ⟨hlow, h⟩ | ⟨_, h⟩⟩
    · have him : i < m := by
        apply Classical.byContradiction
        intro hn
        have := Q.n_mono G (a := m) (b := i) (by omega) (by omega)
        omega
      have hcon := (Q.content G hi hL m him I.mle).2 (fun j hj hjm ha hin => hE (I.dn j i (I.below j hjm ha) hin))
      rcases h with h | h
      · rw [hcon] at h; cases h; rfl
      · subst h
        have h3 := Q.HB_low G I.mle hcon
        rw [h3] at hc; cases hc; rfl
    · rw [h]; exact Q.init_laid G hi hL
  have hnewb : ∀ sl, ρ' (z i).s.h.n = some sl → BR P ρ' w1 sl b ∧ w.heap.size ≤ sl.g ∧ sl.g < w1.heap.size := by
    intro sl e
    have hg : ((deads (z i).s.h.n).push b).get? (z i).s.h.n = some b := by rw [Heap.get_push]; exact if_pos rfl
    have h1 := hr.blk _ sl b e hg
    have h2 := hr.mine _ sl b e hg hb.1
    exact ⟨h1, by have := h2.1; omega, h2.2⟩
  have hold : ∀ A sl c, A ≠ (z i).s.h.n → ρ1 A = some sl → (HB z ops m).get? A = some c → ρ A = some sl ∧ BR P (cut ρ (max (z m).s.h.n (A + 1))) w sl c := by
    intro A sl c hA e f
    have e' : ρ A = some sl := by
      have : (if A = (z i).s.h.n then ρ' A else ρ A) = some sl := e
      rw [if_neg hA] at this; exact this
    exact ⟨e', I.fine A sl c e' f⟩
  have hfine : ∀ A sl c, ρ1 A = some sl → (HB z ops m).get? A = some c → BR P (cut ρ1 (max (z m).s.h.n (A + 1))) w1 sl c := by
    intro A sl c e f
    by_cases hA : A = (z i).s.h.n
    · subst hA
      have := hblk c f
      subst this
      have e' : ρ' (z i).s.h.n = some sl := by
        have : (if (z i).s.h.n = (z i).s.h.n then ρ' (z i).s.h.n else ρ (z i).s.h.n) = some sl := e
        rw [if_pos rfl] at this; exact this
      exact (hnewb sl e').1.keep (hle2.trans (za0 (Le.refl _) (by omega))) rfl
    · obtain ⟨e', hB⟩ := hold A sl c hA e f
      by_cases hl : live c = true
      · exact hB.keep (za0 hle1 (Nat.le_refl _)) (hm.old _ (hB.lt hl))
      · have : c = .dead := by cases c <;> simp_all [live]
        subst this; exact .dead
  refine ⟨ρ1, v', w1, hle1, hrun, ?_⟩
  have hM : (z i).s.h.n < (z ops.size).s.h.n := by
    have := Q.n_mono G (a := i + 1) (b := ops.size) (by omega) (Nat.le_refl _)
    omega
  exact {
    mle := I.mle
    below := fun j hj ha => .inl (I.below j hj ha)
    above := fun j hj ha => by
      rintro (h | h)
      · exact I.above j hj ha h
      · subst h; exact hact ha
    inn := fun j hj => by
      rcases hj with h | h
      · exact I.inn j h
      · omega
    dn := fun j k hj hk => by
      rcases hj with h | h
      · exact .inl (I.dn j k h hk)
      · subst h; exact .inl (hp k hk)
    r := {
      below := (I.r.more hm).below
      size := (I.r.more hm).size
      dom := fun A sl e => by
        by_cases hA : A = (z i).s.h.n
        · subst hA; exact hM
        · have : (if A = (z i).s.h.n then ρ' A else ρ A) = some sl := e
          rw [if_neg hA] at this; exact I.r.dom A sl this
      glob := fun g hg => by obtain ⟨sl, h1, h2⟩ := I.r.glob g hg; exact ⟨sl, hle1 _ _ h1, h2⟩
      blk := fun A sl c e f => (hfine A sl c e f).keep (zej _ _) rfl
      mine := fun A sl c e f hoc => by
        by_cases hA : A = (z i).s.h.n
        · subst hA
          have e' : ρ' (z i).s.h.n = some sl := by
            have : (if (z i).s.h.n = (z i).s.h.n then ρ' (z i).s.h.n else ρ (z i).s.h.n) = some sl := e
            rw [if_pos rfl] at this; exact this
          obtain ⟨_, h2, h3⟩ := hnewb sl e'
          exact ⟨fun hN => by have := I.r.size _ hN; omega, h3⟩
        · obtain ⟨e', _⟩ := hold A sl c hA e f
          exact ⟨(I.r.mine A sl c e' f hoc).1, Nat.lt_of_lt_of_le (I.r.mine A sl c e' f hoc).2 hm.size⟩
      inj := fun A B sa sb c d ea eb fa fb hoc hld hAB => by
        by_cases hA : A = (z i).s.h.n
        · subst hA
          have e' : ρ' (z i).s.h.n = some sa := by
            have : (if (z i).s.h.n = (z i).s.h.n then ρ' (z i).s.h.n else ρ (z i).s.h.n) = some sa := ea
            rw [if_pos rfl] at this; exact this
          obtain ⟨_, h2, h3⟩ := hnewb sa e'
          obtain ⟨_, hB⟩ := hold B sb d (Ne.symm hAB) eb fb
          have := hB.lt hld; omega
        · obtain ⟨ea', hBa⟩ := hold A sa c hA ea fa
          by_cases hB : B = (z i).s.h.n
          · subst hB
            have e' : ρ' (z i).s.h.n = some sb := by
              have : (if (z i).s.h.n = (z i).s.h.n then ρ' (z i).s.h.n else ρ (z i).s.h.n) = some sb := eb
              rw [if_pos rfl] at this; exact this
            obtain ⟨_, h2, h3⟩ := hnewb sb e'
            have := (I.r.mine A sa c ea' fa hoc).2; omega
          · obtain ⟨eb', _⟩ := hold B sb d hB eb fb
            exact I.r.inj A B sa sb c d ea' eb' fa fb hoc hld hAB }
    fine := hfine
    dom := fun A sl e => by
      by_cases hA : A = (z i).s.h.n
      · subst hA
        exact ⟨fun k c hk hLk => .inr (Q.laid_one G hk hi hLk hL).1, .inr ⟨i, b, .inr rfl, hi, hL⟩⟩
      · have e' : ρ A = some sl := by
          have : (if A = (z i).s.h.n then ρ' A else ρ A) = some sl := e
          rw [if_neg hA] at this; exact this
        refine ⟨fun k c hk hLk => .inl ((I.dom A sl e').1 k c hk hLk), ?_⟩
        rcases (I.dom A sl e').2 with h | ⟨k, c, h1, h2⟩
        · exact .inl h
        · exact .inr ⟨k, c, .inl h1, h2⟩
    ag := fun A hA => by
      show (if A = (z i).s.h.n then ρ' A else ρ A) = ρ0 A
      rw [if_neg (by omega)]; exact I.ag A hA
    glob := I.glob
    size := by rw [zdH]; exact I.size
    tm := fun q t hq h1 h2 => I.tm_put Q G ho hE hle1 (by rw [hz]) (by rw [hz1]; exact hv.mono hle2) q t hq h1 h2
    df := I.df.mono (za0 hle1 (Nat.le_refl _))
    cs := I.cs.mono (za0 hle1 (Nat.le_refl _))
    rd := I.rd.mono (za0 hle1 (Nat.le_refl _)) }
end
end Go.AX

namespace Go.AX
open Go.RowKit
theorem set_inv {h : Heap} {i A : Nat} {c b : Blk} (e : (h.set i c).get? A = some b) : h.get? A = some b ∨ b = c := by
  have hA : A < h.n := show A < (h.set i _).n from Heap.get_lt e
  unfold Heap.get? Heap.set at *
  dsimp only at e
  rw [if_pos hA] at e ⊢
  rw [Bt.get_set] at e
  split at e
  · cases hg : h.bs.get (h.n - 1 - i) with
    | none => rw [hg] at e; cases e
    | some y => rw [hg] at e; cases e; exact .inr rfl
  · exact .inl e
theorem zfn : ∀ (l : List (Nat × Nat × Blk)) (h : Heap) (A : Nat) (b : Blk), (hide l h).get? A = some b → h.get? A = some b ∨ b = .dead := by
  intro l
  induction l with
  | nil => intro h A b e; exact .inl e
  | cons p l ih =>
    intro h A b e
    have e' : (hide l (h.set p.2.1 .dead)).get? A = some b := e
    rcases ih (h.set p.2.1 .dead) A b e' with h1 | h1
    · exact set_inv h1
    · exact .inr h1
theorem zkX : ∀ (l : List (Nat × Nat × Blk)) (h : Heap) (A : Nat) (b : Blk), (∃ p ∈ l, p.2.1 = A) → A < h.n → (hide l h).get? A = some b → b = .dead := by
  intro l
  induction l with
  | nil => intro h A b ⟨p, hp, _⟩; cases hp
  | cons p l ih =>
    intro h A b hex hA e
    have e' : (hide l (h.set p.2.1 .dead)).get? A = some b := e
    by_cases hq : ∃ q ∈ l, q.2.1 = A
    · exact ih (h.set p.2.1 .dead) A b hq hA e'
    · have hpA : p.2.1 = A := by
        obtain ⟨q, h1, h2⟩ := hex
        rcases List.mem_cons.1 h1 with rfl | h1
        · exact h2
        · exact absurd ⟨q, h1, h2⟩ hq
      rcases zfn l _ A b e' with h1 | h1
      · subst hpA
        rw [Heap.get_set' h hA, if_pos rfl] at h1
        cases hg : h.get? p.2.1 with
        | none => rw [hg] at h1; cases h1
        | some y => rw [hg] at h1; cases h1; rfl
      · exact h1
section
variable {P : Program} {Rr : Recs} {x : Ctx} {ops : Array Oper} {s : St} {z : Nat → Open}
variable {N : Nat → Prop} {w0 w : World} {rd : Option Nat} {cs0 cs : List Frame} {ρ0 ρ : Ren} {E : Nat → Prop} {m : Nat} {tm' : Array Value} {df' : List Deferred}
theorem Inv.turn (Q : Seq P Rr x ops s z) (G : Grows Rr) (I : Inv P x ops s z N w0 rd cs0 ρ0 E m ρ tm' df' cs w) {i : Nat} {o : Oper} (ho : ops[i]? = some o) (hs : isSimple o = false) (hE : ¬ E i) (hp : ∀ j, j ∈ (preds ops.toList).getD i [] → E j) :
    Inv P x ops s z N w0 rd cs0 ρ0 E i ρ tm' df' cs w := by
  have hi : i < ops.size := (Array.getElem?_eq_some_iff.1 ho).1
  have hact : actAt ops i := ⟨o, ho, hs⟩
  have hlow : ∀ j, j < i → actAt ops j → E j := by
    rintro j hj ⟨p, hpj, hps⟩
    rcases Q.ok.acts j i p o (by omega) hpj ho hps hs with h | h
    · exact hp j h
    · have := zcV _ Q.ok.down j i (by have := (Array.getElem?_eq_some_iff.1 hpj).1; simpa using this) h
      omega
  have hmi : m ≤ i := by
    apply Classical.byContradiction
    intro h
    exact hE (I.below i (by omega) hact)
  exact I.move Q G hmi (by omega) (fun j h1 h2 ha => I.above j h1 ha (hlow j h2 ha))
theorem Inv.act (Q : Seq P Rr x ops s z) (G : Grows Rr) {Good : World → Prop} (S : Sims P Rr Good) (hG : Safe Good N w0) {i : Nat} (I : Inv P x ops s z N w0 rd cs0 ρ0 E i ρ tm' df' cs w) {o : Oper} (ho : ops[i]? = some o) (hs : isSimple o = false) (hE : ¬ E i) (hp : ∀ j, j ∈ (preds ops.toList).getD i [] → E j)
    {v : Value} {s2 : St} (he : doOp P Rr x { (z i).s with h := hide (unseen (preds ops.toList) (z i).news i) (z i).s.h } o = some (.val v, s2))
    (hz : (z (i + 1)).s = { s2 with tm := put s2.tm o.dst v, h := unhide (unseen (preds ops.toList) (z i).news i) s2.h }) (hw : Region.wanted o (yielded ops tm') = true) {rest : List Nat} {k : List Item} :
    ∃ ρ2 v' df1 cs1 w1, Le ρ ρ2 ∧ Steps P (lone (F x.fn x.dfr rd tm' df' (.inRegion ops (i :: rest) :: k) .run) cs w) (lone (F x.fn x.dfr rd (put tm' o.dst v') df1 (.inRegion ops rest :: k) .run) cs1 w1) ∧
      Inv P x ops s z N w0 rd cs0 ρ0 (fun j => E j ∨ j = i) (i + 1) ρ2 (put tm' o.dst v') df1 cs1 w1 := by
  have hi : i < ops.size := (Array.getElem?_eq_some_iff.1 ho).1
  have hb := I.back Q G
  have hnn := Q.n_step G hi
  generalize hun : unseen (preds ops.toList) (z i).news i = un at he hz
  -- what is hidden
  have hhid : ∀ p ∈ un, p.1 < i ∧ Laid z ops p.1 p.2.1 p.2.2 ∧ p.1 ∉ (preds ops.toList).getD i [] := by
    intro p hpu
    rw [← hun] at hpu
    obtain ⟨h1, h2⟩ := List.mem_filter.1 hpu
    obtain ⟨h3, h4⟩ := Q.news G (m := i) (by omega) p h1
    exact ⟨h3, h4, by simpa using h2⟩
  have hcon : ∀ p ∈ un, (z i).s.h.get? p.2.1 = some p.2.2 ∧ (z (i + 1)).s.h.get? p.2.1 = some p.2.2 := by
    intro p hpu
    obtain ⟨h1, h2, h3⟩ := hhid p hpu
    have hj : ∀ j, p.1 < j → j < i + 1 → actAt ops j → p.1 ∉ (preds ops.toList).getD j [] := by
      rintro j hj1 hj2 ⟨q, hq, hqs⟩ hin
      by_cases hji : j = i
      · subst hji; exact h3 hin
      · rcases Q.ok.acts j i q o hji hq ho hqs hs with h | h
        · exact h3 (zhc _ Q.ok.down i p.1 j (by simpa using hi) hin h)
        · have := zcV _ Q.ok.down j i (by have := (Array.getElem?_eq_some_iff.1 hq).1; simpa using this) h
          omega
    exact ⟨(Q.content G (by omega) h2 i h1 (by omega)).2 (fun j a b c => hj j a (by omega) c), (Q.content G (by omega) h2 (i + 1) (by omega) (by omega)).2 hj⟩
  have hn2 : (z (i + 1)).s.h.n = s2.h.n := by rw [hz]; simp only [zhU]
  let N' : Nat → Prop := fun g => g < w.heap.size ∧ ∀ A sl b, cut ρ (z i).s.h.n A = some sl → (hide un (z i).s.h).get? A = some b → own b = true → sl.g ≠ g
  have hown : ∀ A b, (hide un (z i).s.h).get? A = some b → live b = true → (z i).s.h.get? A = some b := by
    intro A b h1 h2
    rcases zfn un _ A b h1 with h3 | h3
    · exact h3
    · subst h3; cases h2
  have hol : ∀ b, own b = true → live b = true := by intro b h; cases b <;> simp_all [own, live]
  have hNN : ∀ g, N g → N' g := fun g hg => ⟨I.r.size g hg, fun A sl b h1 h2 h3 h4 => by
    have h5 := hown A b h2 (hol b h3)
    exact (I.r.mine A sl b (cut_some.1 h1).2 (Q.HB_low G (by omega) h5) h3).1 (h4 ▸ hg)⟩
  have rH : R P N' w (cut ρ (z i).s.h.n) (hide un (z i).s.h) w := {
    below := Kept.refl _ _
    size := fun g h => h.1
    dom := fun A sl h => by rw [zim]; exact (cut_some.1 h).1
    glob := fun g hg => by
      obtain ⟨sl, h1, h2⟩ := I.r.glob g hg
      exact ⟨sl, cut_some.2 ⟨Nat.lt_of_lt_of_le (I.glob g hg) hb, h1⟩, h2⟩
    blk := fun A sl b h1 h2 => by
      rcases zfn un _ A b h2 with h3 | h3
      · have h4 := I.fine A sl b (cut_some.1 h1).2 (Q.HB_low G (by omega) h3)
        have : max (z i).s.h.n (A + 1) = (z i).s.h.n := by have := (cut_some.1 h1).1; omega
        rw [this] at h4; exact h4
      · subst h3; exact .dead
    mine := fun A sl b h1 h2 h3 => ⟨fun h => h.2 A sl b h1 h2 h3 rfl, (I.r.mine A sl b (cut_some.1 h1).2 (Q.HB_low G (by omega) (hown A b h2 (hol b h3))) h3).2⟩
    inj := fun A B sa sb a b h1 h2 h3 h4 h5 h6 h7 => I.r.inj A B sa sb a b (cut_some.1 h1).2 (cut_some.1 h2).2 (Q.HB_low G (by omega) (hown A a h3 (hol a h5))) (Q.HB_low G (by omega) (hown B b h4 h6)) h5 h6 h7 }
  have hkn : ∀ W, Kept N' w W → Kept N w0 W := fun W h => I.r.below.trans ⟨h.os, h.tape, h.output, h.size, fun g hg => h.block g (hNN g hg)⟩
  obtain ⟨htm, ρ1, df1, cs1, w1, hle1, hag, hsq, v', hv, hsteps⟩ := zkC S (N := N') (w0 := w) (fun W h => hG W (hkn W h)) he (rd := rd) (cs0 := cs0) (tm' := tm') (df' := df') (cs := cs) (w := w) (ρ := cut ρ (z i).s.h.n)
    ⟨rH, I.df, I.cs, I.rd.mono (za0 (Le.refl _) hb)⟩ (fun hok => I.operands Q G ho hE hp hok) ho hw (rest := rest) (k := k)
  simp only [zim] at hag
  simp only at htm
  have hn3 : (z i).s.h.n ≤ s2.h.n := by omega
  let ρ2 : Ren := fun A => if A < s2.h.n then ρ1 A else ρ A
  have hlo : ∀ A, A < s2.h.n → ρ2 A = ρ1 A := fun A h => if_pos h
  have hhi : ∀ A, ¬ A < s2.h.n → ρ2 A = ρ A := fun A h => if_neg h
  have hle2 : Le ρ ρ2 := fun A sl e => by
    by_cases hA : A < (z i).s.h.n
    · rw [hlo A (by omega), hag A hA]; exact cut_some.2 ⟨hA, e⟩
    · rcases (I.dom A sl e).2 with h | ⟨j, b, h1, h2, h3⟩
      · omega
      · have hji : ¬ j < i := fun hlt => by
          have h4 := Q.laid_lt G h2 h3
          have h5 := Q.n_mono G (a := j + 1) (b := i) (by omega) (by omega)
          omega
        have hne : j ≠ i := fun h => hE (h ▸ h1)
        have h5 := Q.n_mono G (a := i + 1) (b := j) (by omega) (by omega)
        have h6 := h3.1
        rw [hhi A (by omega)]; exact e
  have hle3 : Le ρ1 (cut ρ2 s2.h.n) := fun A sl e => by
    have hA := hsq.r.dom A sl e
    exact cut_some.2 ⟨hA, by rw [hlo A hA]; exact e⟩
  -- what the act has not touched
  have hkeep : ∀ A sl b, ρ A = some sl → (HB z ops i).get? A = some b → live b = true → ((z i).s.h.n ≤ A ∨ ∃ p ∈ un, p.2.1 = A) → N' sl.g := by
    intro A sl b e f hl hor
    refine ⟨(I.fine A sl b e f).lt hl, fun A2 sl2 b2 h1 h2 h3 h4 => ?_⟩
    have h5 := hown A2 b2 h2 (hol b2 h3)
    refine I.r.inj A2 A sl2 sl b2 b (cut_some.1 h1).2 e (Q.HB_low G (by omega) h5) f h3 hl ?_ h4
    intro hAA
    subst hAA
    rcases hor with h | h
    · have := (cut_some.1 h1).1; omega
    · have := zkX un _ A2 b2 h (cut_some.1 h1).1 h2
      subst this; cases h3
  have hget : ∀ A c, (HB z ops (i + 1)).get? A = some c → live c = true →
      ((A < s2.h.n ∧ s2.h.get? A = some c ∧ ¬ ∃ p ∈ un, p.2.1 = A) ∨ (((z i).s.h.n ≤ A ∧ ¬ A < s2.h.n ∨ A < (z i).s.h.n ∧ ∃ p ∈ un, p.2.1 = A) ∧ (HB z ops i).get? A = some c)) := by
    intro A c f hl
    obtain ⟨hM, h1⟩ := zlA f
    rcases h1 with ⟨h2, h3⟩ | ⟨h2, h3⟩
    · rcases h3 with h3 | h3
      · by_cases hex : ∃ p ∈ un, p.2.1 = A
        · obtain ⟨p, hp1, hp2⟩ := hex
          obtain ⟨c1, c2⟩ := hcon p hp1
          rw [hp2] at c1 c2
          rw [c2] at h3; cases h3
          exact .inr ⟨.inr ⟨Heap.get_lt c1, p, hp1, hp2⟩, Q.HB_low G (by omega) c1⟩
        · refine .inl ⟨by omega, ?_, hex⟩
          rw [hz] at h3
          simp only at h3
          rw [zdm un s2.h A (fun p hp1 => ⟨by
            have := Heap.get_lt (hcon p hp1).1; omega, fun h => hex ⟨p, hp1, h⟩⟩)] at h3
          exact h3
      · subst h3; cases hl
    · exact .inr ⟨.inl ⟨by omega, by omega⟩, by rw [h3]; exact HB_high (by omega) hM⟩
  have hrho : ∀ A sl, ρ2 A = some sl → ((z i).s.h.n ≤ A ∧ ¬ A < s2.h.n ∨ A < (z i).s.h.n) → ρ A = some sl := by
    intro A sl e hor
    rcases hor with ⟨h1, h2⟩ | h
    · rw [hhi A h2] at e; exact e
    · rw [hlo A (by omega), hag A h] at e; exact (cut_some.1 e).2
  have hor1 : ∀ {A : Nat}, ((z i).s.h.n ≤ A ∧ ¬ A < s2.h.n ∨ A < (z i).s.h.n ∧ ∃ p ∈ un, p.2.1 = A) → ((z i).s.h.n ≤ A ∧ ¬ A < s2.h.n ∨ A < (z i).s.h.n) := fun h => h.elim (fun h => .inl h) (fun h => .inr h.1)
  have hor2 : ∀ {A : Nat}, ((z i).s.h.n ≤ A ∧ ¬ A < s2.h.n ∨ A < (z i).s.h.n ∧ ∃ p ∈ un, p.2.1 = A) → ((z i).s.h.n ≤ A ∨ ∃ p ∈ un, p.2.1 = A) := fun h => h.elim (fun h => .inl h.1) (fun h => .inr h.2)
  have hfine : ∀ A sl c, ρ2 A = some sl → (HB z ops (i + 1)).get? A = some c → BR P (cut ρ2 (max (z (i + 1)).s.h.n (A + 1))) w1 sl c := by
    intro A sl c e f
    by_cases hl : live c = true
    · rcases hget A c f hl with ⟨h1, h2, h3⟩ | ⟨h1, h2⟩
      · rw [hlo A h1] at e
        exact (hsq.r.blk A sl c e h2).keep (hle3.trans (za0 (Le.refl _) (by omega))) rfl
      · have e' := hrho A sl e (hor1 h1)
        have hk := hkeep A sl c e' h2 hl (hor2 h1)
        exact (I.fine A sl c e' h2).keep (za0 hle2 (by omega)) (hsq.r.below.block _ hk)
    · have : c = .dead := by cases c <;> simp_all [live]
      subst this; exact .dead
  have hact : ∀ j, i + 1 ≤ j → actAt ops j → ¬ E j := fun j h => I.above j (by omega)
  refine ⟨ρ2, v', df1, cs1, w1, hle2, hsteps, ?_⟩
  exact {
    mle := by omega
    below := fun j hj ha => by
      by_cases h : j = i
      · exact .inr h
      · exact .inl (I.below j (by omega) ha)
    above := fun j hj ha => by
      rintro (h | h)
      · exact hact j hj ha h
      · omega
    inn := fun j hj => by
      rcases hj with h | h
      · exact I.inn j h
      · omega
    dn := fun j k hj hk => by
      rcases hj with h | h
      · exact .inl (I.dn j k h hk)
      · subst h; exact .inl (hp k hk)
    r := {
      below := hkn w1 hsq.r.below
      size := fun g hg => Nat.lt_of_lt_of_le (I.r.size g hg) hsq.r.below.size
      dom := fun A sl e => by
        by_cases hA : A < s2.h.n
        · have := Q.n_mono G (a := i + 1) (b := ops.size) (by omega) (Nat.le_refl _)
          rw [HB_n]; omega
        · rw [hhi A hA] at e; exact I.r.dom A sl e
      glob := fun g hg => by obtain ⟨sl, h1, h2⟩ := I.r.glob g hg; exact ⟨sl, hle2 _ _ h1, h2⟩
      blk := fun A sl c e f => (hfine A sl c e f).keep (zej _ _) rfl
      mine := fun A sl c e f hoc => by
        rcases hget A c f (hol c hoc) with ⟨h1, h2, h3⟩ | ⟨h1, h2⟩
        · rw [hlo A h1] at e
          have := hsq.r.mine A sl c e h2 hoc
          exact ⟨fun h => this.1 (hNN _ h), this.2⟩
        · have e' := hrho A sl e (hor1 h1)
          have := I.r.mine A sl c e' h2 hoc
          exact ⟨this.1, Nat.lt_of_lt_of_le this.2 hsq.r.below.size⟩
      inj := fun A B sa sb a b ea eb fa fb hoa hlb hAB => by
        rcases hget A a fa (hol a hoa) with ⟨h1, h2, h3⟩ | ⟨h1, h2⟩
        · rw [hlo A h1] at ea
          rcases hget B b fb hlb with ⟨k1, k2, k3⟩ | ⟨k1, k2⟩
          · rw [hlo B k1] at eb
            exact hsq.r.inj A B sa sb a b ea eb h2 k2 hoa hlb hAB
          · have eb' := hrho B sb eb (hor1 k1)
            have hk := hkeep B sb b eb' k2 hlb (hor2 k1)
            exact fun h => (hsq.r.mine A sa a ea h2 hoa).1 (h ▸ hk)
        · have ea' := hrho A sa ea (hor1 h1)
          have hka := hkeep A sa a ea' h2 (hol a hoa) (hor2 h1)
          rcases hget B b fb hlb with ⟨k1, k2, k3⟩ | ⟨k1, k2⟩
          · rw [hlo B k1] at eb
            by_cases hob : own b = true
            · exact fun h => (hsq.r.mine B sb b eb k2 hob).1 (h ▸ hka)
            · have hro : ro b = true := by cases b <;> simp_all [own, live, ro]
              have k4 := (zbu G he).ro B b k2 hro
              have k5 := hown B b k4 hlb
              have k6 := Heap.get_lt k5
              rw [hag B k6] at eb
              exact I.r.inj A B sa sb a b ea' (cut_some.1 eb).2 h2 (Q.HB_low G (by omega) k5) hoa hlb hAB
          · exact I.r.inj A B sa sb a b ea' (hrho B sb eb (hor1 k1)) h2 k2 hoa hlb hAB }
    fine := hfine
    dom := fun A sl e => by
      by_cases hA : A < (z i).s.h.n
      · have e' := hrho A sl e (.inr hA)
        exact ⟨fun j b hj hL => .inl ((I.dom A sl e').1 j b hj hL), .inl (by omega)⟩
      · by_cases hA2 : A < s2.h.n
        · refine ⟨fun j b hj hL => ?_, .inl (by omega)⟩
          exfalso
          have h1 := hL.1
          have h2 := Q.laid_lt G hj hL
          have hsj := hL.2.2.2.2.2
          rcases Nat.lt_trichotomy j i with hlt | heq | hgt
          · have := Q.n_mono G (a := j + 1) (b := i) (by omega) (by omega); omega
          · subst heq
            obtain ⟨q, hq, hqs⟩ := hsj
            rw [ho] at hq; cases hq; rw [hs] at hqs; cases hqs
          · have := Q.n_mono G (a := i + 1) (b := j) (by omega) (by omega); omega
        · have e' := hrho A sl e (.inl ⟨by omega, hA2⟩)
          refine ⟨fun j b hj hL => .inl ((I.dom A sl e').1 j b hj hL), ?_⟩
          rcases (I.dom A sl e').2 with h | ⟨j, b, h1, h2⟩
          · omega
          · exact .inr ⟨j, b, .inl h1, h2⟩
    ag := fun A hA => by
      rw [hlo A (by omega), hag A (by omega)]
      rw [← I.ag A hA]
      unfold cut; rw [if_pos (by omega)]
    glob := I.glob
    size := by rw [zdH]; exact I.size
    tm := fun q t hq h1 h2 => I.tm_put Q G ho hE hle2 (by have := congrArg St.tm hz; rw [this]; exact congrArg (fun tm => put tm o.dst v) htm) (by rw [hn2]; exact hv.mono hle3) q t hq h1 h2
    df := by rw [hn2, hz]; exact hsq.df.mono hle3
    cs := by rw [hn2, hz]; exact hsq.cs.mono hle3
    rd := I.rd.mono (za0 hle2 (Nat.le_refl _)) }
end
end Go.AX

namespace Go.AX
open Go.RowKit
def actB (ops : Array Oper) (i : Nat) : Bool := match ops[i]? with | some o => !isSimple o | none => false
theorem actB_iff {ops : Array Oper} {i : Nat} : actB ops i = true ↔ actAt ops i := by
  unfold actB actAt
  cases h : ops[i]? with
  | none => simp
  | some o => simp
def cnt (p : Nat → Bool) (n : Nat) : Nat := ((List.range n).filter p).length
theorem zbw (p : Nat → Bool) (n : Nat) : cnt p (n + 1) = cnt p n + (if p n then 1 else 0) := by
  unfold cnt
  rw [List.range_succ, List.filter_append, List.length_append]
  by_cases h : p n = true <;> simp [h]
theorem zfy (p : Nat → Bool) {a b : Nat} (h : a ≤ b) : cnt p a ≤ cnt p b := by
  induction b with
  | zero => have : a = 0 := by omega
            subst this; exact Nat.le_refl _
  | succ b ih =>
    by_cases hab : a = b + 1
    · subst hab; exact Nat.le_refl _
    · rw [zbw]; have := ih (by omega); omega
theorem cnt_le {p q : Nat → Bool} {m : Nat} : ∀ n, (∀ j, j < n → p j = true → j < m ∧ q j = true) → cnt p n ≤ cnt q (min n m) := by
  intro n
  induction n with
  | zero => intro _; simp [cnt]
  | succ n ih =>
    intro h
    have h1 := ih fun j hj => h j (by omega)
    rw [zbw]
    by_cases hp : p n = true
    · obtain ⟨h2, h3⟩ := h n (by omega) hp
      rw [show min (n + 1) m = n + 1 from by omega, zbw, if_pos hp, if_pos h3]
      rw [show min n m = n from by omega] at h1
      omega
    · rw [if_neg hp]
      have := zfy q (a := min n m) (b := min (n + 1) m) (by omega)
      omega
section
variable {P : Program} {Rr : Recs} {x : Ctx} {ops : Array Oper} {s : St} {z : Nat → Open}
theorem Seq.hs_at (Q : Seq P Rr x ops s z) : ∀ m, m ≤ ops.size → (z m).hs.length = cnt (actB ops) m + 1 ∧ ∃ τ rest, (z m).hs = τ :: rest ∧ Sub τ (z m).s.h := by
  intro m
  induction m with
  | zero => intro _; rw [Q.zero]; exact ⟨rfl, _, _, rfl, fun A b h => h⟩
  | succ m ih =>
    intro hm
    obtain ⟨h1, τ, rest, h2, h3⟩ := ih (by omega)
    obtain ⟨o, ho, st⟩ := Q.step m (by omega)
    rw [zbw]
    have hB : actB ops m = !isSimple o := by unfold actB; rw [ho]
    cases st with
    | keep v hs hw hok he e1 e2 => rw [e2, hB, hs, e1]; exact ⟨by simpa using h1, τ, rest, h2, h3⟩
    | new v b hs hw hok he hb hf e1 e2 =>
      rw [e2, hB, hs, e1]
      refine ⟨by simpa using h1, τ, rest, h2, fun A c hA => ?_⟩
      have := h3 A c hA
      simp only [Heap.get_push]
      rw [if_neg (by have := Heap.get_lt this; omega)]; exact this
    | skip hs hw e1 e2 => rw [e2, hB, hs, e1]; exact ⟨by simpa using h1, τ, rest, h2, h3⟩
    | act v s2 hs hw he hwf e1 e2 => rw [e2, hB, hs, e1]; exact ⟨by simp [h1], _, _, rfl, fun A b h => h⟩
    | rest hs hw e1 e2 => rw [e2, hB, hs, e1]; exact ⟨by simp [h1], _, _, rfl, fun A b h => h⟩
theorem Seq.hs_suffix (Q : Seq P Rr x ops s z) {m : Nat} : ∀ b, m ≤ b → b ≤ ops.size → ∃ pre, (z b).hs = pre ++ (z m).hs := by
  intro b
  induction b with
  | zero => intro h _; have : m = 0 := by omega
            subst this; exact ⟨[], rfl⟩
  | succ b ih =>
    intro h hb
    by_cases hmb : m = b + 1
    · subst hmb; exact ⟨[], rfl⟩
    · obtain ⟨pre, hpre⟩ := ih (by omega) (by omega)
      obtain ⟨o, ho, st⟩ := Q.step b (by omega)
      cases st with
      | keep v hs hw hok he e1 e2 => rw [e2]; exact ⟨pre, hpre⟩
      | new v c hs hw hok he hb hf e1 e2 => rw [e2]; exact ⟨pre, hpre⟩
      | skip hs hw e1 e2 => rw [e2]; exact ⟨pre, hpre⟩
      | act v s2 hs hw he hwf e1 e2 => rw [e2, hpre]; exact ⟨_ :: pre, rfl⟩
      | rest hs hw e1 e2 => rw [e2, hpre]; exact ⟨_ :: pre, rfl⟩
theorem Seq.seen (Q : Seq P Rr x ops s z) {m : Nat} (hm : m ≤ ops.size) : ∃ τ, (z ops.size).hs[(z ops.size).hs.length - 1 - cnt (actB ops) m]? = some τ ∧ Sub τ (z m).s.h ∧ cnt (actB ops) m < (z ops.size).hs.length := by
  obtain ⟨h1, τ, rest, h2, h3⟩ := Q.hs_at m hm
  obtain ⟨pre, hpre⟩ := Q.hs_suffix ops.size hm (Nat.le_refl _)
  refine ⟨τ, ?_, h3, ?_⟩
  · have : (z ops.size).hs.length - 1 - cnt (actB ops) m = pre.length := by rw [hpre, List.length_append]; omega
    rw [this, hpre, List.getElem?_append_right (Nat.le_refl _), h2]; simp
  · rw [hpre, List.length_append]; omega
theorem Seq.looks_mem (Q : Seq P Rr x ops s z) {a : Nat} : ∀ b, a ≤ b → b ≤ ops.size → ∀ l ∈ (z a).looks, l ∈ (z b).looks := by
  intro b
  induction b with
  | zero => intro h _; have : a = 0 := by omega
            subst this; exact fun l hl => hl
  | succ b ih =>
    intro h hb l hl
    by_cases hab : a = b + 1
    · subst hab; exact hl
    · have := ih (by omega) (by omega) l hl
      obtain ⟨o, ho, st⟩ := Q.step b (by omega)
      cases st with
      | keep v hs hw hok he e1 e2 e3 e4 e5 => exact e5 l this
      | new v c hs hw hok he hb hf e1 e2 e3 e5 => exact e5 l this
      | skip hs hw e1 e2 e3 e5 => exact e5 l this
      | act v s2 hs hw he hwf e1 e2 e3 e5 => exact e5 l this
      | rest hs hw e1 e2 e3 e5 => exact e5 l this
end
end Go.AX

namespace Go.AX
open Go.RowKit
section
variable {P : Program} {Rr : Recs} {x : Ctx} {ops : Array Oper} {s : St} {z : Nat → Open}
variable {N : Nat → Prop} {w0 w : World} {rd : Option Nat} {cs0 cs : List Frame} {ρ0 ρ : Ren} {E : Nat → Prop} {m : Nat} {tm' : Array Value} {df' : List Deferred}
def moreH (h : Heap) (n : Nat) : Heap := ofFn (max h.n n) fun A => if A < h.n then (h.get? A).getD .dead else .dead
theorem zgd (h : Heap) (n : Nat) : Sub h (moreH h n) := by
  intro A b e
  have := Heap.get_lt e
  unfold moreH
  rw [zbQ, if_pos (by omega), if_pos this, e]; rfl
theorem zge {h : Heap} {n A : Nat} {b : Blk} (e : (moreH h n).get? A = some b) : h.get? A = some b ∨ b = .dead := by
  unfold moreH at e
  rw [zbQ] at e
  split at e
  · cases e
    split
    · cases h.get? A with
      | none => exact .inr rfl
      | some c => exact .inl rfl
    · exact .inr rfl
  · cases e
theorem Inv.look_R (Q : Seq P Rr x ops s z) (G : Grows Rr) (I : Inv P x ops s z N w0 rd cs0 ρ0 E m ρ tm' df' cs w) (n : Nat) :
    R P N w0 (cut ρ (max (z m).s.h.n n)) (moreH (z m).s.h n) w := by
  have hb := I.back Q G
  have hol : ∀ b, own b = true → live b = true := by intro b h; cases b <;> simp_all [own, live]
  have hlow : ∀ A b, (moreH (z m).s.h n).get? A = some b → live b = true → (z m).s.h.get? A = some b := by
    intro A b h1 h2
    rcases zge h1 with h | h
    · exact h
    · subst h; cases h2
  exact {
    below := I.r.below
    size := I.r.size
    dom := fun A sl e => (cut_some.1 e).1
    glob := fun g hg => by
      obtain ⟨sl, h1, h2⟩ := I.r.glob g hg
      have := I.glob g hg
      exact ⟨sl, cut_some.2 ⟨by omega, h1⟩, h2⟩
    blk := fun A sl b e f => by
      rcases zge f with h | h
      · have h1 := I.fine A sl b (cut_some.1 e).2 (Q.HB_low G I.mle h)
        have h2 := Heap.get_lt h
        exact h1.keep (za0 (Le.refl _) (by omega)) rfl
      · subst h; exact .dead
    mine := fun A sl b e f ho => I.r.mine A sl b (cut_some.1 e).2 (Q.HB_low G I.mle (hlow A b f (hol b ho))) ho
    inj := fun A B sa sb a b ea eb fa fb ho hl hAB => I.r.inj A B sa sb a b (cut_some.1 ea).2 (cut_some.1 eb).2 (Q.HB_low G I.mle (hlow A a fa (hol a ho))) (Q.HB_low G I.mle (hlow B b fb hl)) ho hl hAB }
theorem zcj {w1 : World} {ρ' : Ren} {n : Nat} {H : Heap} (_hH : H.n = n) {Nx : Nat → Prop} {wx : World} (hr : R P Nx wx ρ' H w1) (hag : ∀ A, A < H.n → ρ' A = cut ρ n A) : Le ρ' (cut ρ n) := fun A sl e => by
  rw [← hag A (hr.dom A sl e)]; exact e
theorem Inv.simple (Q : Seq P Rr x ops s z) (G : Grows Rr) (I : Inv P x ops s z N w0 rd cs0 ρ0 E m ρ tm' df' cs w) (hno : (∀ j, ¬ actAt ops j) → m = 0) {i : Nat} {o : Oper} (ho : ops[i]? = some o) (hs : isSimple o = true) (hE : ¬ E i) (hp : ∀ j, j ∈ (preds ops.toList).getD i [] → E j)
    {rest : List Nat} {k : List Item} :
    ∃ ρ1 v' w1, Le ρ ρ1 ∧ Steps P (lone (F x.fn x.dfr rd tm' df' (.inRegion ops (i :: rest) :: k) .run) cs w) (lone (F x.fn x.dfr rd (put tm' o.dst v') df' (.inRegion ops rest :: k) .run) cs w1) ∧
      Inv P x ops s z N w0 rd cs0 ρ0 (fun j => E j ∨ j = i) m ρ1 (put tm' o.dst v') df' cs w1 := by
  have hi : i < ops.size := (Array.getElem?_eq_some_iff.1 ho).1
  have hwd := I.wanted Q ho hE hp
  have h0 := Q.n_mono G (a := 0) (b := i) (by omega) (by omega)
  rw [Q.zero] at h0
  simp only at h0
  obtain ⟨o', ho', st⟩ := Q.step i hi
  rw [ho] at ho'; cases ho'
  cases st with
  | act v s2 hs2 => rw [hs] at hs2; cases hs2
  | rest hs2 => rw [hs] at hs2; cases hs2
  | skip hs2 hw h1 h2 h3 h5 =>
    have hnl : ∀ A b, ¬ Laid z ops i A b := fun A b hL => by have := hL.2.1; rw [h1] at this; have := congrArg Heap.n this; simp [Heap.push] at this
    refine ⟨ρ, undef, w, Le.refl _, ?_, I.simple_keep Q G ho hs hE hp (More.refl w) (by rw [h1]) (VR.undef _) hnl⟩
    have hst := zcE (P := P) (fn := x.fn) (dfr := x.dfr) (rd := rd) (df := df') (k := k) (cs := cs) (rest := rest) (w := w) (ops := ops) (i := i) (tm := tm') (by rw [ho]; simp only [Option.map_some, Option.getD_some]; rw [hwd]; exact hw)
    rw [ho] at hst
    exact .one hst
  | new v b hs2 hw hok he hb hf h1 h2 h3 h5 =>
    obtain ⟨ρ1, v', w1, hle, hrun, hI⟩ := I.simple_new Q G ho hs hE hp hok hb hf h1
    exact ⟨ρ1, v', w1, hle, .one (zdB ho (hwd.trans hw) (.inr (zbX he)) hrun), hI⟩
  | keep v hs2 hw hok he h1 h2 h3 h4 h5 =>
    have hnl : ∀ A b, ¬ Laid z ops i A b := fun A b hL => by have := hL.2.1; rw [h1] at this; have := congrArg Heap.n this; simp [Heap.push] at this
    have hn1 : (z (i + 1)).s.h.n = (z i).s.h.n := by rw [h1]
    have hops := I.operands Q G ho hE hp hok
    have hdone : ∀ {v' : Value} {w1 : World}, More w w1 → VR (cut ρ (z i).s.h.n) v v' → (execOp (ev tm') o).run P w = .ok (.value v') w1 →
        ∃ ρ1 v' w1, Le ρ ρ1 ∧ Steps P (lone (F x.fn x.dfr rd tm' df' (.inRegion ops (i :: rest) :: k) .run) cs w) (lone (F x.fn x.dfr rd (put tm' o.dst v') df' (.inRegion ops rest :: k) .run) cs w1) ∧
          Inv P x ops s z N w0 rd cs0 ρ0 (fun j => E j ∨ j = i) m ρ1 (put tm' o.dst v') df' cs w1 := fun hm hv hrun =>
      ⟨ρ, _, _, Le.refl _, .one (zdB ho (hwd.trans hw) (.inr (zbX he)) hrun), I.simple_keep Q G ho hs hE hp hm (by rw [h1]) (by rw [hn1]; exact hv) hnl⟩
    have hkind : (looks o = false → ∀ H, simpleB P (z i).s.tm H o = some (v, H)) := by
      rcases zb7 he with ⟨_, hk, _⟩ | ⟨b, hk, _⟩
      · exact hk
      · have := congrArg Heap.n hk; simp [Heap.push] at this
    by_cases hl : looks o = true
    · rcases Q.look with hlen | hlook
      · -- there are no acts
        have hna : ∀ j, ¬ actAt ops j := by
          intro j hj
          have hjs : j < ops.size := by obtain ⟨q, hq, _⟩ := hj; exact (Array.getElem?_eq_some_iff.1 hq).1
          have h6 := (Q.hs_at ops.size (Nat.le_refl _)).1
          have h7 := zfy (actB ops) (a := j + 1) (b := ops.size) (by omega)
          rw [zbw, if_pos (actB_iff.2 hj)] at h7
          omega
        have hm0 := hno hna
        have I' := I.move Q G (b := i) (by omega) (by omega) (fun j _ _ => hna j)
        have hR := I'.look_R Q G (z i).s.h.n
        rw [Nat.max_self] at hR
        have hsim : simpleB P (z i).s.tm (moreH (z i).s.h (z i).s.h.n) o = some (v, moreH (z i).s.h (z i).s.h.n) := by
          rcases zb7 he with ⟨_, _, hk⟩ | ⟨b, hk, _⟩
          · exact hk _ (zgd _ _)
          · have := congrArg Heap.n hk; simp [Heap.push] at this
        obtain ⟨ρ', v', w1, a1, a2, a3, a4, a5, a6⟩ := zb2 hR hops hsim
        refine hdone a6 (a4.mono (zcj (H := moreH (z i).s.h (z i).s.h.n) (by simp [moreH, ofFn]) a3 a2)) a5
      · -- what the look sees now
        have hmem := Q.looks_mem (a := i + 1) ops.size (by omega) (Nat.le_refl _) _ (h4 hl)
        have hlk := hlook _ hmem
        obtain ⟨τ, ht1, ht2, ht3⟩ := Q.seen I.mle
        unfold lookOK at hlk
        rw [List.all_eq_true] at hlk
        have hk := hlk (cnt (actB ops) m) (List.mem_range.2 ht3)
        simp only [ht1] at hk
        have hlo : ¬ cnt (actB ops) m < actsIn ops ((preds ops.toList).getD i []) := by
          have : actsIn ops ((preds ops.toList).getD i []) = cnt (fun j => ((preds ops.toList).getD i []).contains j && actB ops j) ops.size := rfl
          rw [this]
          have h6 := cnt_le (p := fun j => ((preds ops.toList).getD i []).contains j && actB ops j) (q := actB ops) (m := m) ops.size (fun j hj hpj => by
            simp only [Bool.and_eq_true, List.contains_iff_mem] at hpj
            have hEj := hp j hpj.1
            refine ⟨?_, hpj.2⟩
            apply Classical.byContradiction
            intro hn
            exact I.above j (by omega) (actB_iff.1 hpj.2) hEj)
          have h7 := I.mle
          rw [show min ops.size m = m from by omega] at h6
          omega
        have hhi : ¬ actsMost ops (preds ops.toList) i < cnt (actB ops) m := by
          have : actsMost ops (preds ops.toList) i = cnt (fun j => !((preds ops.toList).getD j []).contains i && actB ops j) ops.size := rfl
          rw [this]
          have h6 := cnt_le (p := actB ops) (q := fun j => !((preds ops.toList).getD j []).contains i && actB ops j) (m := ops.size) m (fun j hj hpj => by
            have hEj := I.below j hj (actB_iff.1 hpj)
            refine ⟨by have := I.mle; omega, ?_⟩
            simp only [Bool.and_eq_true, Bool.not_eq_true']
            refine ⟨?_, hpj⟩
            cases hc : ((preds ops.toList).getD j []).contains i with
            | false => rfl
            | true => exact absurd (I.dn j i hEj (by simpa using hc)) hE)
          have h7 := I.mle
          rw [show min m ops.size = m from by omega] at h6
          have h8 := zfy (fun j => !((preds ops.toList).getD j []).contains i && actB ops j) h7
          omega
        simp only [hlo, hhi, decide_false, Bool.false_or] at hk
        split at hk
        · rename_i v2 h9 hsim0
          simp only [Bool.and_eq_true, beq_iff_eq] at hk
          have hv2 := same_eq 20 hk.1.1
          subst hv2
          have hsim : simpleB P (z i).s.tm (moreH (z m).s.h (z i).s.h.n) o = some (v2, moreH (z m).s.h (z i).s.h.n) := by
            rcases zb7 hsim0 with ⟨_, _, hq⟩ | ⟨b, hq, _⟩
            · exact hq _ (fun A b hA => zgd _ _ A b (ht2 A b hA))
            · have h10 := congrArg Heap.n hq; have h11 := hk.1.2; simp [Heap.push] at h10; omega
          have hR := I.look_R Q G (z i).s.h.n
          obtain ⟨ρ', v', w1, a1, a2, a3, a4, a5, a6⟩ := zb2 hR (fun y hy => (hops y hy).mono (za0 (Le.refl _) (by omega))) hsim
          have h12 := a4.mono (zcj (H := moreH (z m).s.h (z i).s.h.n) (by simp [moreH, ofFn]) a3 a2)
          exact hdone a6 (ziP 20 hk.2 (h12.mono (zej _ _))) a5
        · cases hk
    · have hsim := hkind (by simpa using hl) (deads (z i).s.h.n)
      have rD := dead_R I.r (n := (z i).s.h.n) (fun g hg => Nat.lt_of_lt_of_le (I.glob g hg) h0)
      obtain ⟨ρ', v', w1, a1, a2, a3, a4, a5, a6⟩ := zb2 rD hops hsim
      exact hdone a6 (a4.mono (zcj (H := deads (z i).s.h.n) rfl a3 a2)) a5
end
end Go.AX

namespace Go.AX
open Go.RowKit
section
variable {P : Program} {Rr : Recs} {x : Ctx} {ops : Array Oper} {s : St} {z : Nat → Open}
variable {N : Nat → Prop} {w0 w : World} {rd : Option Nat} {cs0 cs : List Frame} {ρ0 ρ : Ren} {E : Nat → Prop} {m : Nat} {tm' : Array Value} {df' : List Deferred}
theorem Inv.next (Q : Seq P Rr x ops s z) (G : Grows Rr) {Good : World → Prop} (S : Sims P Rr Good) (hG : Safe Good N w0) (I : Inv P x ops s z N w0 rd cs0 ρ0 E m ρ tm' df' cs w) (hno : (∀ j, ¬ actAt ops j) → m = 0) {i : Nat} {o : Oper} (ho : ops[i]? = some o) (hE : ¬ E i)
    (hp : ∀ j, j ∈ (preds ops.toList).getD i [] → E j) {rest : List Nat} {k : List Item} :
    ∃ ρ1 m1 tm1 df1 cs1 w1, Le ρ ρ1 ∧ Steps P (lone (F x.fn x.dfr rd tm' df' (.inRegion ops (i :: rest) :: k) .run) cs w) (lone (F x.fn x.dfr rd tm1 df1 (.inRegion ops rest :: k) .run) cs1 w1) ∧
      Inv P x ops s z N w0 rd cs0 ρ0 (fun j => E j ∨ j = i) m1 ρ1 tm1 df1 cs1 w1 ∧ ((∀ j, ¬ actAt ops j) → m1 = 0) := by
  have hi : i < ops.size := (Array.getElem?_eq_some_iff.1 ho).1
  by_cases hs : isSimple o = true
  · obtain ⟨ρ1, v', w1, h1, h2, h3⟩ := I.simple Q G hno ho hs hE hp (rest := rest) (k := k)
    exact ⟨ρ1, m, _, df', cs, w1, h1, h2, h3, hno⟩
  · have hs' : isSimple o = false := by simpa using hs
    have hact : actAt ops i := ⟨o, ho, hs'⟩
    have I' := I.turn Q G ho hs' hE hp
    have hwd := I'.wanted Q ho hE hp
    obtain ⟨o', ho', st⟩ := Q.step i hi
    rw [ho] at ho'; cases ho'
    cases st with
    | keep v hs2 => rw [hs'] at hs2; cases hs2
    | new v b hs2 => rw [hs'] at hs2; cases hs2
    | skip hs2 => rw [hs'] at hs2; cases hs2
    | act v s2 hs2 hw he hwf h1 h2 h3 h5 =>
      obtain ⟨ρ2, v', df1, cs1, w1, a1, a2, a3⟩ := I'.act Q G S hG ho hs' hE hp he h1 (hwd.trans hw) (rest := rest) (k := k)
      exact ⟨ρ2, i + 1, _, df1, cs1, w1, a1, a2, a3, fun h => absurd hact (h i)⟩
    | rest hs2 hw h1 h2 h3 h5 =>
      have hHB : HB z ops (i + 1) = HB z ops i := by unfold HB; rw [h1]
      have hst := zcE (P := P) (fn := x.fn) (dfr := x.dfr) (rd := rd) (df := df') (k := k) (cs := cs) (rest := rest) (w := w) (ops := ops) (i := i) (tm := tm') (by rw [ho]; simp only [Option.map_some, Option.getD_some]; rw [hwd]; exact hw)
      rw [ho] at hst
      refine ⟨ρ, i + 1, put tm' o.dst undef, df', cs, w, Le.refl _, .one hst, ?_, fun h => absurd hact (h i)⟩
      exact {
        mle := by omega
        below := fun j hj ha => by
          by_cases h : j = i
          · exact .inr h
          · exact .inl (I'.below j (by omega) ha)
        above := fun j hj ha => by
          rintro (h | h)
          · exact I'.above j (by omega) ha h
          · omega
        inn := fun j hj => by
          rcases hj with h | h
          · exact I'.inn j h
          · omega
        dn := fun j k hj hk => by
          rcases hj with h | h
          · exact .inl (I'.dn j k h hk)
          · subst h; exact .inl (hp k hk)
        r := by rw [hHB]; exact I'.r
        fine := by rw [hHB, h1]; exact I'.fine
        dom := fun A sl e => ⟨fun j b hj hL => .inl ((I'.dom A sl e).1 j b hj hL), by
          rw [h1]
          rcases (I'.dom A sl e).2 with h | ⟨j, b, h2, h3⟩
          · exact .inl h
          · exact .inr ⟨j, b, .inl h2, h3⟩⟩
        ag := I'.ag
        glob := I'.glob
        size := by rw [zdH]; exact I'.size
        tm := fun q t hq h3 h4 => I'.tm_put Q G ho hE (Le.refl _) (by rw [h1]) (VR.undef _) q t hq h3 h4
        df := by rw [h1]; exact I'.df
        cs := by rw [h1]; exact I'.cs
        rd := I'.rd }
theorem zgE (e : Edge) : Region.binds .any e = binds e := by
  unfold Region.binds binds
  cases e.ground <;> rfl
theorem zle {p q : Nat → Bool} : ∀ n, (∀ j, j < n → p j = q j) → cnt p n = cnt q n := by
  intro n
  induction n with
  | zero => intro _; rfl
  | succ n ih => intro h; rw [zbw, zbw, ih (fun j hj => h j (by omega)), h n (by omega)]
theorem cnt_drop {p q : Nat → Bool} {i : Nat} (h : ∀ j, j ≠ i → q j = p j) (hq : q i = false) (hp : p i = true) : ∀ n, i < n → cnt q n + 1 = cnt p n := by
  intro n
  induction n with
  | zero => intro h0; omega
  | succ n ih =>
    intro hn
    rw [zbw, zbw]
    by_cases hin : n = i
    · subst hin
      rw [zle n (fun j hj => h j (by omega)), hq, hp]; simp
    · rw [← ih (by omega), h n hin]; omega
theorem cnt_zero {p : Nat → Bool} : ∀ n, cnt p n = 0 → ∀ j, j < n → p j = false := by
  intro n
  induction n with
  | zero => intro _ j hj; omega
  | succ n ih =>
    intro h j hj
    rw [zbw] at h
    by_cases hjn : j = n
    · subst hjn
      cases hp : p j with
      | false => rfl
      | true => rw [hp] at h; simp at h
    · exact ih (by omega) j (by omega)
theorem Inv.all (Q : Seq P Rr x ops s z) (G : Grows Rr) {Good : World → Prop} (S : Sims P Rr Good) (hG : Safe Good N w0) {k : List Item} : ∀ (fuel t : Nat) (listed : Array Bool) (ρ : Ren) (m : Nat) (tm' : Array Value) (df' : List Deferred) (cs : List Frame) (w : World),
    listed.size = ops.size → cnt (fun j => !listed.getD j true) ops.size ≤ fuel → Inv P x ops s z N w0 rd cs0 ρ0 (fun j => j < ops.size ∧ listed.getD j true = true) m ρ tm' df' cs w → ((∀ j, ¬ actAt ops j) → m = 0) →
    ∃ ρ1 m1 tm1 df1 cs1 w1, Le ρ ρ1 ∧ Steps P (lone (F x.fn x.dfr rd tm' df' (.inRegion ops (Region.linearise.go .any ops fuel t listed []) :: k) .run) cs w) (lone (F x.fn x.dfr rd tm1 df1 (.inRegion ops [] :: k) .run) cs1 w1) ∧
      Inv P x ops s z N w0 rd cs0 ρ0 (fun j => j < ops.size) m1 ρ1 tm1 df1 cs1 w1 := by
  intro fuel
  have hdone : ∀ (listed : Array Bool), (∀ j, j < ops.size → listed.getD j true = true) → (fun j => j < ops.size ∧ listed.getD j true = true) = (fun j => j < ops.size) := by
    intro listed h
    funext j
    exact propext ⟨fun h1 => h1.1, fun h1 => ⟨h1, h j h1⟩⟩
  induction fuel with
  | zero =>
    intro t listed ρ m tm' df' cs w hsz hc I hno
    have h0 : cnt (fun j => !listed.getD j true) ops.size = 0 := by omega
    have hall : ∀ j, j < ops.size → listed.getD j true = true := fun j hj => by
      have := cnt_zero ops.size h0 j hj
      simpa using this
    rw [hdone listed hall] at I
    exact ⟨ρ, m, tm', df', cs, w, Le.refl _, Steps.refl P _, I⟩
  | succ fuel ih =>
    intro t listed ρ m tm' df' cs w hsz hc I hno
    simp only [Region.linearise.go]
    change ∃ ρ1 m1 tm1 df1 cs1 w1, Le ρ ρ1 ∧ Steps P (lone (F x.fn x.dfr rd tm' df' (.inRegion ops (match (Region.ready .any ops listed)[t % (Region.ready .any ops listed).length]? with
      | some i => Region.linearise.go .any ops fuel (t / (Region.ready .any ops listed).length) (listed.setIfInBounds i true) [i]
      | none => [].reverse) :: k) .run) cs w) (lone (F x.fn x.dfr rd tm1 df1 (.inRegion ops [] :: k) .run) cs1 w1) ∧ Inv P x ops s z N w0 rd cs0 ρ0 (fun j => j < ops.size) m1 ρ1 tm1 df1 cs1 w1
    have hready : ∀ i, i ∈ Region.ready .any ops listed ↔ i < ops.size ∧ listed.getD i true = false ∧ ∀ o, ops[i]? = some o → ∀ e ∈ o.after.toList, binds e = true → listed.getD e.on false = true := by
      intro i
      unfold Region.ready
      rw [List.mem_filter, List.mem_range]
      constructor
      · rintro ⟨h1, h2⟩
        simp only [Bool.and_eq_true, Bool.not_eq_true'] at h2
        refine ⟨h1, h2.1, fun o ho e he hb => ?_⟩
        have h3 := h2.2
        rw [ho] at h3
        simp only [Option.map_some, Option.getD_some] at h3
        rw [← Array.all_toList, List.all_eq_true] at h3
        have := h3 e he
        rw [zgE, hb] at this
        simpa using this
      · rintro ⟨h1, h2, h3⟩
        refine ⟨h1, ?_⟩
        simp only [Bool.and_eq_true, Bool.not_eq_true']
        refine ⟨h2, ?_⟩
        have ho : ops[i]? = some ops[i] := Array.getElem?_eq_getElem h1
        rw [ho]
        simp only [Option.map_some, Option.getD_some]
        rw [← Array.all_toList, List.all_eq_true]
        intro e he
        rw [zgE]
        cases hb : binds e with
        | false => rfl
        | true => simpa using h3 _ ho e he hb
    cases hi : (Region.ready .any ops listed)[t % (Region.ready .any ops listed).length]? with
    | none =>
      have hnil : Region.ready .any ops listed = [] := by
        cases hr : Region.ready .any ops listed with
        | nil => rfl
        | cons y ys =>
          rw [hr] at hi
          have hlt : t % (y :: ys).length < (y :: ys).length := Nat.mod_lt _ (by simp)
          simp at hi
          simp at hlt
          omega
      have hall : ∀ j, j < ops.size → listed.getD j true = true := by
        intro j
        induction j using Nat.strongRecOn with
        | _ j ihj =>
          intro hj
          cases hl : listed.getD j true with
          | true => rfl
          | false =>
            have : j ∈ Region.ready .any ops listed := (hready j).2 ⟨hj, hl, fun o ho e he hb => by
              have hlt := Q.ok.down j o (by simpa using ho) e he hb
              have h1 := ihj e.on hlt (by omega)
              have h2 : e.on < listed.size := by omega
              rw [Array.getD_eq_getD_getElem?, Array.getElem?_eq_getElem h2] at h1 ⊢
              exact h1⟩
            rw [hnil] at this; cases this
      rw [hdone listed hall] at I
      exact ⟨ρ, m, tm', df', cs, w, Le.refl _, Steps.refl P _, I⟩
    | some i =>
      have hmem := (hready i).1 (List.mem_of_getElem? hi)
      obtain ⟨h1, h2, h3⟩ := hmem
      have ho : ops[i]? = some ops[i] := Array.getElem?_eq_getElem h1
      have hE : ¬ (i < ops.size ∧ listed.getD i true = true) := by rintro ⟨_, h⟩; rw [h2] at h; cases h
      have hp : ∀ j, j ∈ (preds ops.toList).getD i [] → j < ops.size ∧ listed.getD j true = true := by
        intro j hj
        obtain ⟨e, he, hb, hor⟩ := (zdX ops.toList Q.ok.down i ops[i] (by simp) j).1 hj
        have hlt := Q.ok.down i ops[i] (by simp) e he hb
        have hEe : e.on < ops.size ∧ listed.getD e.on true = true := by
          refine ⟨by omega, ?_⟩
          have := h3 _ ho e he hb
          have h4 : e.on < listed.size := by omega
          rw [Array.getD_eq_getD_getElem?, Array.getElem?_eq_getElem h4] at this ⊢
          exact this
        rcases hor with rfl | hor
        · exact hEe
        · exact I.dn e.on j hEe hor
      simp only []
      rw [linearise_go_acc, List.reverse_singleton, List.singleton_append]
      obtain ⟨ρ1, m1, tm1, df1, cs1, w1, a1, a2, a3, a4⟩ := I.next Q G S hG hno ho hE hp (rest := Region.linearise.go .any ops fuel (t / (Region.ready .any ops listed).length) (listed.setIfInBounds i true) []) (k := k)
      have hset : ∀ j, (listed.setIfInBounds i true).getD j true = if j = i then true else listed.getD j true := by
        intro j
        rw [Array.getD_eq_getD_getElem?, Array.getElem?_setIfInBounds]
        by_cases hji : j = i
        · subst hji; rw [if_pos rfl, if_pos rfl]; split <;> rfl
        · rw [if_neg (Ne.symm hji), if_neg hji, Array.getD_eq_getD_getElem?]
      have hEq : (fun j => (j < ops.size ∧ listed.getD j true = true) ∨ j = i) = (fun j => j < ops.size ∧ (listed.setIfInBounds i true).getD j true = true) := by
        funext j
        refine propext ?_
        rw [hset]
        by_cases hji : j = i
        · subst hji; simp [h1]
        · simp [hji]
      rw [hEq] at a3
      have hc2 : cnt (fun j => !(listed.setIfInBounds i true).getD j true) ops.size ≤ fuel := by
        have := cnt_drop (p := fun j => !listed.getD j true) (q := fun j => !(listed.setIfInBounds i true).getD j true) (i := i) (fun j hj => by rw [hset, if_neg hj]) (by rw [hset, if_pos rfl]; rfl) (by rw [h2]; rfl) ops.size h1
        omega
      obtain ⟨ρ2, m2, tm2, df2, cs2, w2, b1, b2, b3⟩ := ih _ _ ρ1 m1 tm1 df1 cs1 w1 (by simpa using hsz) hc2 a3 a4
      exact ⟨ρ2, m2, tm2, df2, cs2, w2, a1.trans b1, a2.trans b2, b3⟩
end
end Go.AX

namespace Go.AX
open Go.RowKit
section
variable {P : Program} {Rr : Recs} {N : Nat → Prop} {w0 : World}
theorem zhg (hmx : P.follows .mixedOrders = true) {Good : World → Prop} (S : Sims P Rr Good) (G : Grows Rr) (hG : Safe Good N w0) {x : Ctx} {ops : Array Oper} {s : St} {e : Ex} {s1 : St} {fid : Nat} (he : openOps P Rr x ops s = some (e, s1)) :
    SimCode P N w0 x [.code (.region fid ops true)] s e s1 := by
  intro ρ rd cs0 tm' df' cs w k hs
  obtain ⟨z, Q, rfl, rfl⟩ := zhh he
  obtain ⟨t, hst⟩ := st_draw (P := P) (fn := x.fn) (dfr := x.dfr) (rd := rd) (tm := tm') (df := df') (k := k) (cs := cs) (w := w) (id := fid) (ops := ops)
  have hsch : Region.schedule (P.follows .mixedOrders) ops t = Region.linearise.go .any ops ops.size t (Array.replicate ops.size false) [] := by
    simp only [Region.schedule, hmx, Bool.true_or, if_true]; rfl
  rw [hsch] at hst
  have hm : More w w.drew := ⟨rfl, rfl, rfl, Nat.le_refl _, fun _ _ => rfl⟩
  have hr := hs.r.more hm
  have hz0 : (z 0).s = s := by rw [Q.zero]
  have hcut : Le ρ (cut ρ s.h.n) := fun A sl e => cut_some.2 ⟨hs.r.dom A sl e, e⟩
  have hfalse : ∀ j, ¬ (j < ops.size ∧ (Array.replicate ops.size false).getD j true = true) := by
    rintro j ⟨h1, h2⟩
    rw [Array.getD_eq_getD_getElem?, Array.getElem?_eq_getElem (by simpa using h1)] at h2
    simp at h2
  have hHB : ∀ A sl b, ρ A = some sl → (HB z ops 0).get? A = some b → s.h.get? A = some b ∨ b = .dead := by
    intro A sl b e f
    have hA := hs.r.dom A sl e
    obtain ⟨_, h | h⟩ := zlA f
    · rw [hz0] at h; exact h.2
    · rw [hz0] at h; omega
  have hlive : ∀ A sl b, ρ A = some sl → (HB z ops 0).get? A = some b → live b = true → s.h.get? A = some b := by
    intro A sl b e f hl
    rcases hHB A sl b e f with h | h
    · exact h
    · subst h; cases hl
  have hol : ∀ b, own b = true → live b = true := by intro b h; cases b <;> simp_all [own, live]
  have I : Inv P x ops s z N w0 rd cs0 ρ (fun j => j < ops.size ∧ (Array.replicate ops.size false).getD j true = true) 0 ρ tm' df' cs w.drew := {
    mle := Nat.zero_le _
    below := fun j hj => by omega
    above := fun j _ _ h => hfalse j h
    inn := fun j h => h.1
    dn := fun j i h => absurd h (hfalse j)
    r := {
      below := hr.below
      size := hr.size
      dom := fun A sl e => by
        have h1 := Q.n_mono G (a := 0) (b := ops.size) (Nat.zero_le _) (Nat.le_refl _)
        rw [hz0] at h1
        exact Nat.lt_of_lt_of_le (hs.r.dom A sl e) h1
      glob := hr.glob
      blk := fun A sl b e f => by
        rcases hHB A sl b e f with h | h
        · exact hr.blk A sl b e h
        · subst h; exact .dead
      mine := fun A sl b e f ho => hr.mine A sl b e (hlive A sl b e f (hol b ho)) ho
      inj := fun A B sa sb a b ea eb fa fb ho hl hAB => hr.inj A B sa sb a b ea eb (hlive A sa a ea fa (hol a ho)) (hlive B sb b eb fb hl) ho hl hAB }
    fine := fun A sl b e f => by
      rcases hHB A sl b e f with h | h
      · exact (hr.blk A sl b e h).keep (hcut.trans (za0 (Le.refl _) (by rw [hz0]; omega))) rfl
      · subst h; exact .dead
    dom := fun A sl e => by
      have hA := hs.r.dom A sl e
      refine ⟨fun i b hi hL => ?_, .inl (by rw [hz0]; exact hA)⟩
      exfalso
      have h1 := hL.1
      have h2 := Q.n_mono G (a := 0) (b := i) (Nat.zero_le _) (by omega)
      rw [hz0] at h2
      omega
    ag := fun _ _ => rfl
    glob := fun g hg => by obtain ⟨sl, h1, _⟩ := hs.r.glob g hg; exact hs.r.dom g sl h1
    size := hs.tm.size.symm
    tm := fun q t hq h1 h2 => by
      have hno : ∀ j, 0 ≤ j → j < q → ¬ writesAt ops j t := fun j _ hj hw => hfalse j (h2 j hj hw)
      rw [Q.tm_keep (Nat.zero_le q) hq hno, hz0]
      have h3 := Q.n_mono G (a := 0) (b := q) (Nat.zero_le _) hq
      rw [hz0] at h3
      exact (hs.tm.getD t).mono (hcut.trans (za0 (Le.refl _) h3))
    df := by rw [hz0]; exact hs.df.mono hcut
    cs := by rw [hz0]; exact hs.cs.mono hcut
    rd := hs.rd.mono hcut }
  have hcnt : cnt (fun j => !(Array.replicate ops.size false).getD j true) ops.size ≤ ops.size := by
    unfold cnt
    exact Nat.le_trans (List.length_filter_le _ _) (by simp)
  obtain ⟨ρ1, m1, tm1, df1, cs1, w1, a1, a2, a3⟩ := I.all Q G S hG ops.size t (Array.replicate ops.size false) ρ 0 tm' df' cs w.drew (by simp) hcnt (fun _ => rfl)
  have I2 := a3.move Q G a3.mle (Nat.le_refl _) (fun j hj hjs ha => a3.above j hj ha hjs)
  have hR : R P N w0 ρ1 (z ops.size).s.h w1 := {
    below := I2.r.below
    size := I2.r.size
    dom := fun A sl e => I2.r.dom A sl e
    glob := I2.r.glob
    blk := fun A sl b e f => I2.r.blk A sl b e (Q.HB_low G (Nat.le_refl _) f)
    mine := fun A sl b e f ho => I2.r.mine A sl b e (Q.HB_low G (Nat.le_refl _) f) ho
    inj := fun A B sa sb a b ea eb fa fb ho hl hAB => I2.r.inj A B sa sb a b ea eb (Q.HB_low G (Nat.le_refl _) fa) (Q.HB_low G (Nat.le_refl _) fb) ho hl hAB }
  have htm : XR ρ1 (z ops.size).s.tm tm1 := by
    have hsz : (z ops.size).s.tm.size = tm1.size := by rw [Q.tm_size _ (Nat.le_refl _), I2.size]
    refine XR.mk hsz fun i v v' h1 h2 => ?_
    have := I2.tm ops.size i (Nat.le_refl _) (fun j hj _ => hj) (fun j hj _ => hj)
    rw [Array.getD_eq_getD_getElem?, Array.getD_eq_getD_getElem?, h1, h2] at this
    exact this.mono (zej _ _)
  exact ⟨ρ1, tm1, df1, cs1, w1, a1, fun A hA => I2.ag A hA, ⟨hR, htm, I2.df.mono (zej _ _), I2.cs.mono (zej _ _), I2.rd.mono (zej _ _)⟩,
    (Steps.one hst).trans (a2.trans (.one zjW))⟩
theorem zh1 (hmx : P.follows .mixedOrders = true) {K : Known} {Good : World → Prop} (hK : KOK P K Good) : ∀ n, Sims P (run P K n) Good := by
  intro n
  induction n with
  | zero => exact ⟨fun _ _ _ _ _ _ _ _ h => by simp [run] at h, fun _ _ _ _ _ _ _ _ h => by simp [run] at h, fun _ _ _ _ _ _ _ _ _ _ _ h => by simp [run] at h, fun _ _ _ _ _ _ _ _ h => by simp [run] at h⟩
  | succ n ih =>
    have G := zfP P K n
    refine ⟨fun N w0 hG x c s e s1 h => ?_, fun N w0 hG x c s e s1 h => ?_, fun N w0 hG f args dfr up h e up1 h1 hc => ?_, fun N w0 hG l args h e h1 hc => ?_⟩
    · exact zlb ih G hG (fun x ops s e s1 fid ho => zhg hmx ih G hG ho) (fun x s f params assign body e s1 hr => zfg ih G hG hr) h
    · have hl : SimCode P N w0 x ([.code c] ++ [.inLoop c]) s e s1 := zid ih G hG h
      exact hl.step (fun _ _ _ _ _ _ _ _ _ => zjV)
    · exact zgC ih G hG hK hc
    · exact zja ih G hG hc
end
end Go.AX

namespace Go.AX
open Go.RowKit
section
variable {P : Program}
theorem zkd (hmx : P.follows .mixedOrders = true) {K : Known} {Good : World → Prop} (hK : KOK P K Good) {n : Nat} {f : FuncId} {args : Array Value} {h h1 : Heap} {up : FrameMode} {v : Value}
    (he : (run P K n).call f args false .run h = some (.ret v, up, h1)) {w : World} {ρ : Ren} {args' : Array Value} (r : R P (fun g => g < w.heap.size) w ρ h w) (ha : XR ρ args args') (hG : Safe Good (fun g => g < w.heap.size) w) :
    Calls P f args' w fun e w' => ∃ v' ρ', e = .returned v' ∧ VR ρ' v v' ∧ R P (fun g => g < w.heap.size) w ρ' h1 w' ∧ Below w.heap.size w w' := by
  intro cs
  obtain ⟨ρ1, cs1, w1, e', fr, a1, a2, a3, a4, a5, a6, a7, a8, a9⟩ := (zh1 hmx hK n).call _ _ hG _ _ _ _ _ _ _ _ he ρ args' cs cs w r ha (by simp [CsR])
  have hcs : cs1 = cs := by simpa [CsR] using a4
  subst hcs
  cases e' with
  | panicked c => exact a5.elim
  | outgrown => exact a5.elim
  | returned v' =>
    refine ⟨.returned v', w1, fr, ⟨v', ρ1, rfl, a5, a3, ?_⟩, a6, a8, a9.1, a9.2.1, by simpa using a7, a9.2.2⟩
    exact ⟨a3.below.os, a3.below.tape, a3.below.output, a3.below.size, fun g hg => a3.below.block g hg⟩
theorem zdT (hmx : P.follows .mixedOrders = true) {K : Known} {Good : World → Prop} (hK : KOK P K Good) {n : Nat} {f : FuncId} {args : Array Value} {h h1 : Heap} {up : FrameMode} {v : Value} (hv : plain deep v = true)
    (he : (run P K n).call f args false .run h = some (.ret v, up, h1)) {w : World} {ρ : Ren} {args' : Array Value} (r : R P (fun g => g < w.heap.size) w ρ h w) (ha : XR ρ args args') (hG : Safe Good (fun g => g < w.heap.size) w) :
    Calls P f args' w fun e w' => e = .returned v ∧ Below w.heap.size w w' := by
  intro cs
  obtain ⟨e, w', fr, ⟨v', ρ', h2, h3, _, h4⟩, rest⟩ := zkd hmx hK he r ha hG cs
  exact ⟨e, w', fr, ⟨by rw [h2, zaP deep hv h3], h4⟩, rest⟩
end
end Go.AX
