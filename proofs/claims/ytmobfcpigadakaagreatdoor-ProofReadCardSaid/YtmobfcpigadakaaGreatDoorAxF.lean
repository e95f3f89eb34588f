/- The reading for the kernel, each operation's way found once. -/
import Derived.Test.YtmobfcpigadakaaGreatDoorAxE
import Derived.Test.YtmobfcpigadakaaGreatDoorAxV
namespace Go.AX
theorem zha {a b : Nat} (h : Nat.blt a b = true) : a < b := Nat.le_of_ble_eq_true h
theorem zlw {a b : Nat} (h : Nat.blt a b = false) : ¬ a < b := fun k => by
  have : Nat.blt a b = true := Nat.ble_eq_true_of_le k
  rw [this] at h; cases h
inductive Vb where
  | nil
  | node (v : Value) (l r : Vb)
structure N8 (α : Type) where
  a0 : α
  a1 : α
  a2 : α
  a3 : α
  a4 : α
  a5 : α
  a6 : α
  a7 : α
structure Vt where
  lo : N8 (N8 Value)
  hi : Vb
structure Bx (α : Type) where
  f : α
noncomputable def zaz {α γ : Type} (b : Bx α) (k : α → γ) : γ := @Bx.rec α (fun _ => γ) k b
theorem zaP {α γ : Type} (b : Bx α) (k : α → γ) : zaz b k = k b.f := by cases b; rfl
inductive Pth where
  | here
  | l (p : Pth)
  | r (p : Pth)
noncomputable def zjs : Nat → Nat → Pth := @Nat.rec (fun _ => Nat → Pth) (fun _ => .here)
  (fun _ ih i => @Nat.rec (fun _ => Pth) .here (fun j _ => bif Nat.beq (Nat.mod j 2) 0 then .l (ih (Nat.div j 2)) else .r (ih (Nat.div j 2))) i)
def unpath : Pth → Nat
  | .here => 0
  | .l p => 2 * unpath p + 1
  | .r p => 2 * unpath p + 2
theorem ze2 : ∀ n i, i ≤ n → unpath (zjs n i) = i := by
  intro n
  induction n with
  | zero => intro i h; have : i = 0 := by omega
            subst this; rfl
  | succ n ih =>
    intro i h
    cases i with
    | zero => rfl
    | succ j =>
      show unpath (bif Nat.beq (Nat.mod j 2) 0 then .l (zjs n (Nat.div j 2)) else .r (zjs n (Nat.div j 2))) = j + 1
      have hd : Nat.div j 2 = j / 2 := rfl
      have hm : Nat.mod j 2 = j % 2 := rfl
      cases hb : Nat.beq (Nat.mod j 2) 0 with
      | true =>
        have := Nat.eq_of_beq_eq_true hb
        simp only [cond_true, unpath, ih _ (by omega : Nat.div j 2 ≤ n)]; omega
      | false =>
        have : Nat.mod j 2 ≠ 0 := fun q => by rw [q] at hb; cases hb
        simp only [cond_false, unpath, ih _ (by omega : Nat.div j 2 ≤ n)]; omega
noncomputable def getC : Pth → Bx (Vb → Value) := @Pth.rec (fun _ => Bx (Vb → Value)) ⟨fun t => @Vb.rec (fun _ => Value) undef (fun v _ _ _ _ => v) t⟩
  (fun _ ih => zaz ih fun g => ⟨fun t => @Vb.rec (fun _ => Value) undef (fun _ l _ _ _ => g l) t⟩) (fun _ ih => zaz ih fun g => ⟨fun t => @Vb.rec (fun _ => Value) undef (fun _ _ r _ _ => g r) t⟩)
noncomputable def setC : Pth → Bx (Vb → Value → Vb) := @Pth.rec (fun _ => Bx (Vb → Value → Vb)) ⟨fun t v => @Vb.rec (fun _ => Vb) (.node v .nil .nil) (fun _ l r _ _ => .node v l r) t⟩
  (fun _ ih => ⟨fun t v => @Vb.rec (fun _ => Vb) (.node undef (ih.f .nil v) .nil) (fun w l r _ _ => .node w (ih.f l v) r) t⟩) (fun _ ih => ⟨fun t v => @Vb.rec (fun _ => Vb) (.node undef .nil (ih.f .nil v)) (fun w l r _ _ => .node w l (ih.f r v)) t⟩)
theorem zeU (p : Pth) : (getC p).f .nil = undef := by cases p <;> rfl
theorem vb_same (p : Pth) : ∀ t v, (getC p).f ((setC p).f t v) = v := by
  induction p with
  | here => intro t v; cases t <;> rfl
  | l p ih => intro t v; cases t <;> exact ih _ v
  | r p ih => intro t v; cases t <;> exact ih _ v
theorem vb_other (p : Pth) : ∀ q t v, unpath p ≠ unpath q → (getC q).f ((setC p).f t v) = (getC q).f t := by
  induction p with
  | here => intro q t v h; cases q with
    | here => exact absurd rfl h
    | l q => cases t with
      | nil => exact zeU q
      | node => rfl
    | r q => cases t with
      | nil => exact zeU q
      | node => rfl
  | l p ih => intro q t v h; cases q with
    | here => cases t <;> rfl
    | l q => cases t with
      | nil => exact (ih q .nil v (fun e => h (by simp only [unpath, e]))).trans (zeU q)
      | node w l r => exact ih q l v (fun e => h (by simp only [unpath, e]))
    | r q => cases t with
      | nil => exact zeU q
      | node => rfl
  | r p ih => intro q t v h; cases q with
    | here => cases t <;> rfl
    | l q => cases t with
      | nil => exact zeU q
      | node => rfl
    | r q => cases t with
      | nil => exact (ih q .nil v (fun e => h (by simp only [unpath, e]))).trans (zeU q)
      | node w l r => exact ih q r v (fun e => h (by simp only [unpath, e]))
noncomputable def zjU {α : Type} (i : Nat) : Bx (N8 α → α) :=
  match i with
  | 0 => ⟨fun t => t.a0⟩
  | 1 => ⟨fun t => t.a1⟩
  | 2 => ⟨fun t => t.a2⟩
  | 3 => ⟨fun t => t.a3⟩
  | 4 => ⟨fun t => t.a4⟩
  | 5 => ⟨fun t => t.a5⟩
  | 6 => ⟨fun t => t.a6⟩
  | _ => ⟨fun t => t.a7⟩
noncomputable def setD8 {α : Type} (i : Nat) : Bx (N8 α → α → N8 α) :=
  match i with
  | 0 => ⟨fun t v => @N8.rec α (fun _ => N8 α) (fun _ a1 a2 a3 a4 a5 a6 a7 => ⟨v, a1, a2, a3, a4, a5, a6, a7⟩) t⟩
  | 1 => ⟨fun t v => @N8.rec α (fun _ => N8 α) (fun a0 _ a2 a3 a4 a5 a6 a7 => ⟨a0, v, a2, a3, a4, a5, a6, a7⟩) t⟩
  | 2 => ⟨fun t v => @N8.rec α (fun _ => N8 α) (fun a0 a1 _ a3 a4 a5 a6 a7 => ⟨a0, a1, v, a3, a4, a5, a6, a7⟩) t⟩
  | 3 => ⟨fun t v => @N8.rec α (fun _ => N8 α) (fun a0 a1 a2 _ a4 a5 a6 a7 => ⟨a0, a1, a2, v, a4, a5, a6, a7⟩) t⟩
  | 4 => ⟨fun t v => @N8.rec α (fun _ => N8 α) (fun a0 a1 a2 a3 _ a5 a6 a7 => ⟨a0, a1, a2, a3, v, a5, a6, a7⟩) t⟩
  | 5 => ⟨fun t v => @N8.rec α (fun _ => N8 α) (fun a0 a1 a2 a3 a4 _ a6 a7 => ⟨a0, a1, a2, a3, a4, v, a6, a7⟩) t⟩
  | 6 => ⟨fun t v => @N8.rec α (fun _ => N8 α) (fun a0 a1 a2 a3 a4 a5 _ a7 => ⟨a0, a1, a2, a3, a4, a5, v, a7⟩) t⟩
  | _ => ⟨fun t v => @N8.rec α (fun _ => N8 α) (fun a0 a1 a2 a3 a4 a5 a6 _ => ⟨a0, a1, a2, a3, a4, a5, a6, v⟩) t⟩
theorem zfo {i : Nat} (h : i < 8) : i = 0 ∨ i = 1 ∨ i = 2 ∨ i = 3 ∨ i = 4 ∨ i = 5 ∨ i = 6 ∨ i = 7 := by omega
theorem zlo {α : Type} {i : Nat} (h : i < 8) (t : N8 α) (v : α) : (zjU i).f ((setD8 i).f t v) = v := by
  cases t
  rcases zfo h with rfl | rfl | rfl | rfl | rfl | rfl | rfl | rfl <;> rfl
theorem zmx {α : Type} {i j : Nat} (h : i < 8) (k : j < 8) (hij : i ≠ j) (t : N8 α) (v : α) : (zjU j).f ((setD8 i).f t v) = (zjU j).f t := by
  cases t
  rcases zfo h with rfl | rfl | rfl | rfl | rfl | rfl | rfl | rfl <;> rcases zfo k with rfl | rfl | rfl | rfl | rfl | rfl | rfl | rfl <;> first | rfl | exact absurd rfl hij
noncomputable def gC (i : Nat) : Bx (Vt → Value) :=
  bif Nat.blt i 64 then zaz (zjU (α := Value) (Nat.mod i 8)) fun g => zaz (zjU (α := N8 Value) (Nat.div i 8)) fun f => ⟨fun t => g (f t.lo)⟩ else zaz (getC (zjs (Nat.sub i 64) (Nat.sub i 64))) fun g => ⟨fun t => g t.hi⟩
noncomputable def sC (i : Nat) : Bx (Vt → Value → Vt) :=
  bif Nat.blt i 64 then zaz (setD8 (α := N8 Value) (Nat.div i 8)) fun s => zaz (setD8 (α := Value) (Nat.mod i 8)) fun s' => zaz (zjU (α := N8 Value) (Nat.div i 8)) fun g => ⟨fun t v => @Vt.rec (fun _ => Vt) (fun lo hi => ⟨s lo (s' (g lo) v), hi⟩) t⟩
  else zaz (setC (zjs (Nat.sub i 64) (Nat.sub i 64))) fun s => ⟨fun t v => @Vt.rec (fun _ => Vt) (fun lo hi => ⟨lo, s hi v⟩) t⟩
theorem zph (i : Nat) (t : Vt) (v : Value) : (gC i).f ((sC i).f t v) = v := by
  unfold gC sC
  simp only [zaP]
  have hd : Nat.div i 8 = i / 8 := rfl
  have hm : Nat.mod i 8 = i % 8 := rfl
  cases hb : Nat.blt i 64 with
  | true =>
    have := zha hb
    cases t
    simp only [cond_true]
    rw [zlo (by omega), zlo (by omega)]
  | false => cases t; exact vb_same _ _ _
theorem zmo {i j : Nat} (h : i ≠ j) (t : Vt) (v : Value) : (gC j).f ((sC i).f t v) = (gC j).f t := by
  unfold gC sC
  simp only [zaP]
  have hd : ∀ i, Nat.div i 8 = i / 8 := fun _ => rfl
  have hm : ∀ i, Nat.mod i 8 = i % 8 := fun _ => rfl
  have hs : ∀ i, Nat.sub i 64 = i - 64 := fun _ => rfl
  cases hb : Nat.blt i 64 with
  | true =>
    have h1 := zha hb
    cases hc : Nat.blt j 64 with
    | false => cases t; rfl
    | true =>
      have h2 := zha hc
      cases t
      simp only [cond_true]
      by_cases hq : Nat.div i 8 = Nat.div j 8
      · rw [← hq, zlo (by rw [hd]; omega), zmx (by rw [hm]; omega) (by rw [hm]; omega)]
        rw [hd, hd] at hq
        rw [hm, hm]; omega
      · rw [zmx (by rw [hd]; omega) (by rw [hd]; omega) hq]
  | false =>
    have h1 := zlw hb
    cases hc : Nat.blt j 64 with
    | true => cases t; rfl
    | false =>
      have h2 := zlw hc
      cases t
      simp only [cond_false]
      refine vb_other _ _ _ _ ?_
      rw [ze2 _ _ (Nat.le_refl _), ze2 _ _ (Nat.le_refl _), hs, hs]
      omega
noncomputable def u8 : N8 Value := ⟨undef, undef, undef, undef, undef, undef, undef, undef⟩
noncomputable def Vt.nil : Vt := ⟨⟨u8, u8, u8, u8, u8, u8, u8, u8⟩, .nil⟩
theorem u8_get {i : Nat} (h : i < 8) : (zjU i).f u8 = undef := by rcases zfo h with rfl | rfl | rfl | rfl | rfl | rfl | rfl | rfl <;> rfl
theorem nil_get (i : Nat) : (gC i).f .nil = undef := by
  unfold gC
  simp only [zaP]
  have hd : Nat.div i 8 = i / 8 := rfl
  have hm : Nat.mod i 8 = i % 8 := rfl
  cases hb : Nat.blt i 64 with
  | false => exact zeU _
  | true =>
    have := zha hb
    have e : (zjU (Nat.div i 8)).f Vt.nil.lo = u8 := by
      rcases zfo (show Nat.div i 8 < 8 by omega) with h | h | h | h | h | h | h | h <;> rw [h] <;> rfl
    simp only [cond_true]
    rw [e, u8_get (by omega)]
noncomputable def zfx : Nat → Nat → Vt → List Value := @Nat.rec (fun _ => Nat → Vt → List Value) (fun _ _ => []) (fun _ ih k t => (gC k).f t :: ih (k + 1) t)
noncomputable def zaG (N : Nat) (t : Vt) : Array Value := ⟨zfx N 0 t⟩
theorem zkC (t : Vt) : ∀ N k i, (zfx N k t)[i]? = if i < N then some ((gC (k + i)).f t) else none := by
  intro N
  induction N with
  | zero => intro k i; show ([] : List Value)[i]? = _; simp
  | succ N ih =>
    intro k i
    show ((gC k).f t :: zfx N (k + 1) t)[i]? = _
    cases i with
    | zero => simp
    | succ i => rw [List.getElem?_cons_succ, ih]; simp [Nat.add_assoc, Nat.add_comm 1 i]
theorem zd3 (N : Nat) (t : Vt) (i : Nat) : (zaG N t)[i]? = if i < N then some ((gC i).f t) else none := by
  show (Array.mk (zfx N 0 t))[i]? = _
  rw [List.getElem?_toArray, zkC]; simp
theorem zhu (t : Vt) : ∀ N k, (zfx N k t).length = N := by
  intro N
  induction N with
  | zero => intro k; rfl
  | succ N ih => intro k; show (zfx N (k + 1) t).length + 1 = _; rw [ih]
theorem zmS (N : Nat) (t : Vt) : (zaG N t).size = N := zhu t N 0
noncomputable def evC (N : Nat) (o : Operand) : Bx (Vt → Value) :=
  match o with
  | .tmp i => bif Nat.blt i N then gC i else ⟨fun _ => undef⟩
  | .const v => ⟨fun _ => v⟩
  | .global g => ⟨fun _ => .pointer (some ⟨g, 0, none⟩)⟩
  | .func f => ⟨fun _ => .func (.func f) #[] #[]⟩
theorem zbT (N : Nat) (o : Operand) (t : Vt) : (evC N o).f t = ev (zaG N t) o := by
  cases o with
  | tmp i =>
    simp only [evC, ev, Array.getD_eq_getD_getElem?, zd3]
    cases hb : Nat.blt i N with
    | true => simp [zha hb]
    | false => simp [zlw hb]
  | _ => rfl
noncomputable def putC (N : Nat) (d : Option Tmp) : Bx (Vt → Value → Vt) :=
  match d with
  | some d => bif Nat.blt d N then sC d else ⟨fun t _ => t⟩
  | none => ⟨fun t _ => t⟩
theorem zcl (N : Nat) (d : Option Tmp) (t : Vt) (v : Value) : zaG N ((putC N d).f t v) = put (zaG N t) d v := by
  cases d with
  | none => rfl
  | some d =>
    apply Array.ext_getElem?
    intro i
    simp only [putC, put, Array.getElem?_setIfInBounds, zmS]
    cases hb : Nat.blt d N with
    | true =>
      have hd := zha hb
      simp only [cond_true, zd3]
      by_cases hi : d = i
      · subst hi; simp [hd, zph]
      · simp [hi, zmo hi]
    | false =>
      have hd := zlw hb
      simp only [cond_false, zd3]
      by_cases hi : d = i
      · subst hi; simp [hd]
      · simp [hi]
noncomputable def zc3 : List Value → Nat → Vt → Vt := @List.rec Value (fun _ => Nat → Vt → Vt) (fun _ t => t) (fun v _ ih i t => ih (i + 1) ((sC i).f t v))
theorem zoW (l : List Value) : ∀ k t i, (gC i).f (zc3 l k t) = if k ≤ i ∧ i < k + l.length then l.getD (i - k) undef else (gC i).f t := by
  induction l with
  | nil => intro k t i; rw [if_neg (by simp only [List.length_nil]; omega)]; rfl
  | cons v l ih =>
    intro k t i
    show (gC i).f (zc3 l (k + 1) ((sC k).f t v)) = _
    rw [ih]
    by_cases h1 : k + 1 ≤ i ∧ i < k + 1 + l.length
    · rw [if_pos h1, if_pos (by simp only [List.length_cons]; omega)]
      obtain ⟨j, rfl⟩ : ∃ j, i = k + 1 + j := ⟨i - (k + 1), by omega⟩
      rw [show k + 1 + j - (k + 1) = j by omega, show k + 1 + j - k = j + 1 by omega]; simp
    · rw [if_neg h1]
      by_cases h2 : k = i
      · subst h2; rw [zph, if_pos (by simp)]; simp
      · rw [zmo h2, if_neg (by simp only [List.length_cons]; omega)]
theorem zdc (N : Nat) (l : List Value) (hl : l.length ≤ N) : zaG N (zc3 l 0 .nil) = ⟨l⟩ ++ Array.replicate (N - l.length) undef := by
  apply Array.ext_getElem?
  intro i
  rw [zd3, zoW]
  rw [nil_get]
  by_cases h1 : i < l.length
  · rw [if_pos (by omega), if_pos (by omega), Array.getElem?_append_left (by simpa using h1)]; simp [h1]
  · rw [Array.getElem?_append_right (by simp; omega), Array.getElem?_replicate]
    by_cases h2 : i < N
    · rw [if_pos h2, if_neg (by omega), if_pos (by simp; omega)]
    · rw [if_neg h2, if_neg (by simp; omega)]
structure FS where
  t : Vt
  df : List Deferred
  up : FrameMode
  h : Heap
noncomputable def FS.st (N : Nat) (s : FS) : St := ⟨zaG N s.t, s.df, s.up, s.h⟩
noncomputable def btGet : Bt → Nat → Option Blk := @Bt.rec (fun _ => Nat → Option Blk) (fun _ => none)
  (fun b _ _ il ir i => @Nat.rec (fun _ => Option Blk) (some b) (fun j _ => bif Nat.beq (Nat.mod j 2) 0 then il (Nat.div j 2) else ir (Nat.div j 2)) i)
theorem btGet_eq (t : Bt) : ∀ i, btGet t i = t.get i := by
  induction t with
  | nil => intro i; cases i <;> rfl
  | node b l r il ir =>
    intro i
    cases i with
    | zero => rfl
    | succ j =>
      show (bif Nat.beq (Nat.mod j 2) 0 then btGet l (Nat.div j 2) else btGet r (Nat.div j 2)) = _
      rw [il, ir]; rfl
noncomputable def zpN (t : Bt) : Blk → Bt := @Bt.rec (fun _ => Blk → Bt) (fun b => .node b .nil .nil) (fun a l _ _ ir b => .node b (ir a) l) t
theorem zpM (t : Bt) : ∀ b, zpN t b = t.cons b := by
  induction t with
  | nil => intro b; rfl
  | node a l r _ ir => intro b; show Bt.node b (zpN r a) l = _; rw [ir]; rfl
noncomputable def btSet : Bt → Nat → Blk → Bt := @Bt.rec (fun _ => Nat → Blk → Bt) (fun _ _ => .nil)
  (fun a l r il ir i b => @Nat.rec (fun _ => Bt) (.node b l r) (fun j _ => bif Nat.beq (Nat.mod j 2) 0 then .node a (il (Nat.div j 2) b) r else .node a l (ir (Nat.div j 2) b)) i)
theorem btSet_eq (t : Bt) : ∀ i b, btSet t i b = t.set i b := by
  induction t with
  | nil => intro i b; cases i <;> rfl
  | node a l r il ir =>
    intro i b
    cases i with
    | zero => rfl
    | succ j =>
      show (bif Nat.beq (Nat.mod j 2) 0 then Bt.node a (btSet l (Nat.div j 2) b) r else .node a l (btSet r (Nat.div j 2) b)) = _
      rw [il, ir]; rfl
noncomputable def hGet (h : Heap) (i : Nat) : Option Blk := bif Nat.blt i h.n then btGet h.bs (Nat.sub (Nat.sub h.n 1) i) else none
theorem ziF (h : Heap) (i : Nat) : hGet h i = h.get? i := by
  unfold hGet Heap.get?
  rw [btGet_eq]
  cases hb : Nat.blt i h.n with
  | true => rw [if_pos (zha hb)]; rfl
  | false => rw [if_neg (zlw hb)]; rfl
noncomputable def hPush (h : Heap) (b : Blk) : Heap := { n := Nat.succ h.n, bs := zpN h.bs b }
theorem zmn (h : Heap) (b : Blk) : hPush h b = h.push b := by unfold hPush Heap.push; rw [zpM]
noncomputable def hSet (h : Heap) (i : Nat) (b : Blk) : Heap := { n := h.n, bs := btSet h.bs (Nat.sub (Nat.sub h.n 1) i) b }
theorem hSet_eq (h : Heap) (i : Nat) (b : Blk) : hSet h i b = h.set i b := by unfold hSet Heap.set; rw [btSet_eq]; rfl
end Go.AX

namespace Go.AX
structure RecC where
  code : Ctx → Code → FS → Option (Ex × FS)
  call : FuncId → Array Value → Bool → FrameMode → Heap → Option (End × FrameMode × Heap)
  round : Nat → Array Value → Heap → Option (End × Heap)
noncomputable def nOf (P : Program) (f : FuncId) : Nat := match P.funcs[f]? with | some fn => fn.ntmps | none => 0
structure Under (P : Program) (C : RecC) (R : Recs) : Prop where
  code : ∀ x c s e s', C.code x c s = some (e, s') → R.code x c (s.st (nOf P x.fn)) = some (e, s'.st (nOf P x.fn))
  call : ∀ f args d u h r, C.call f args d u h = some r → R.call f args d u h = some r
  round : ∀ l args h r, C.round l args h = some r → R.round l args h = some r
noncomputable def oneC (s : FS) (r : Option Value) : Option (Did × FS) := match r with | some v => some (.val v, s) | none => none
noncomputable def valC (s : FS) (r : Option (Value × Heap)) : Option (Did × FS) := match r with | some (v, h) => some (.val v, { s with h }) | none => none
noncomputable def hhC (s : FS) (r : Option Heap) : Option (Did × FS) := match r with | some h => some (.val undef, { s with h }) | none => none
theorem zeG {N : Nat} {s s' : FS} {d : Did} {r r' : Option Value} (e : r = r') (h : oneC s r = some (d, s')) : oneF (s.st N) r' = some (d, s'.st N) := by
  subst e; cases r with
  | none => cases h
  | some v => cases h; rfl
theorem zoV {N : Nat} {s s' : FS} {d : Did} {r r' : Option (Value × Heap)} (e : r = r') (h : valC s r = some (d, s')) : valF (s.st N) r' = some (d, s'.st N) := by
  subst e; cases r with
  | none => cases h
  | some v => cases h; rfl
theorem of_hh {N : Nat} {s s' : FS} {d : Did} {r r' : Option Heap} (e : r = r') (h : hhC s r = some (d, s')) : hhF (s.st N) r' = some (d, s'.st N) := by
  subst e; cases r with
  | none => cases h
  | some v => cases h; rfl
noncomputable def zgn (s : FS) (r : Option (End × FrameMode × Heap)) : Option (Did × FS) :=
  match r with
  | some (.ret v, _, h) => some (.val v, { s with h })
  | some (.panic c, _, h) => some (.panic c, { s with h })
  | none => none
noncomputable def actC (C : RecC) (x : Ctx) (s : FS) (r : Option (Out × Heap)) : Option (Did × FS) :=
  match r with
  | none => none
  | some (.val v, h) => some (.val v, { s with h })
  | some (.enter f args, h) => zgn s (C.call f args false .run h)
  | some (.round l args, h) =>
    match C.round l args h with
    | some (.ret v, h) => some (.val v, { s with h })
    | some (.panic c, h) => some (.panic c, { s with h })
    | none => none
  | some (.defer d, h) => if x.round.isSome then none else some (.val undef, { s with h, df := d :: s.df })
  | some (.recover, h) =>
    if x.round.isSome then none
    else if x.dfr then some (.val (zb2 s.up).1, { s with h, up := (zb2 s.up).2 })
    else some (.val .nilIface, { s with h })
  | some (.panic v, h) => some (.panic [{ v, recovered := false }], { s with h })
theorem zh2 {N : Nat} {s s' : FS} {d : Did} {r r' : Option (End × FrameMode × Heap)} (hr : ∀ a, r = some a → r' = some a) (h : zgn s r = some (d, s')) : zgm (s.st N) r' = some (d, s'.st N) := by
  cases hc : r with
  | none => rw [hc] at h; cases h
  | some a =>
    rw [hr a hc]; rw [hc] at h
    obtain ⟨e, u, h1⟩ := a
    cases e <;> (cases h; rfl)
theorem zpY {P : Program} {C : RecC} {R : Recs} (hU : Under P C R) {N : Nat} {x : Ctx} {s s' : FS} {d : Did} {r : Option (Out × Heap)} (h : actC C x s r = some (d, s')) : actF R x (s.st N) r = some (d, s'.st N) := by
  cases r with
  | none => cases h
  | some p =>
    obtain ⟨q, h1⟩ := p
    cases q with
    | val v => cases h; rfl
    | enter f args => exact zh2 (hU.call _ _ _ _ _) h
    | round l args =>
      simp only [actC] at h
      cases hc : C.round l args h1 with
      | none => rw [hc] at h; cases h
      | some a =>
        simp only [actF, hU.round _ _ _ _ hc]
        rw [hc] at h
        obtain ⟨e, h2⟩ := a
        cases e <;> (cases h; rfl)
    | defer dd =>
      simp only [actC] at h; simp only [actF]
      split at h
      · cases h
      · rename_i hx; rw [if_neg hx]; cases h; rfl
    | recover =>
      simp only [actC] at h; simp only [actF]
      split at h
      · cases h
      · rename_i hx; rw [if_neg hx]
        split at h
        · rename_i hd; rw [if_pos hd]; cases h; rfl
        · rename_i hd; rw [if_neg hd]; cases h; rfl
    | panic v => cases h; rfl
noncomputable def zic (P : Program) (N : Nat) (C : RecC) (x : Ctx) (s : FS) (o : Oper) : Option (Did × FS) :=
  match zad P (zaG N s.t) s.h o with
  | some (v, h) => some (.val v, { s with h })
  | none => bif zaf o then none else actC C x s (zbA P (zaG N s.t) s.h o)
theorem zkp {P : Program} {C : RecC} {R : Recs} (hU : Under P C R) {N : Nat} {x : Ctx} {s s' : FS} {d : Did} {o : Oper} (h : zic P N C x s o = some (d, s')) : ze3 P R x (s.st N) o = some (d, s'.st N) := by
  unfold zic at h; unfold ze3
  show (match zad P (zaG N s.t) s.h o with | some (v, h) => some (Did.val v, { s.st N with h }) | none => if zaf o then none else actF R x (s.st N) (zbA P (zaG N s.t) s.h o)) = _
  cases hs : zad P (zaG N s.t) s.h o with
  | some p => rw [hs] at h; cases h; rfl
  | none =>
    rw [hs] at h; simp only [] at h
    cases hi : zaf o with
    | true => rw [hi] at h; cases h
    | false => rw [hi] at h; exact zpY hU h
noncomputable def zfU (op : BinOp) : Bx (Int → Int → Option Value) :=
  match op with
  | .add => ⟨fun a b => bif zdx (Int.add a b) then some (.int .i64 (Int.add a b)) else none⟩
  | .sub => ⟨fun a b => bif zdx (Int.add a (Int.neg b)) then some (.int .i64 (Int.add a (Int.neg b))) else none⟩
  | .mul => ⟨fun a b => bif zdx (Int.mul a b) then some (.int .i64 (Int.mul a b)) else none⟩
  | .quo => ⟨fun a b => bif eqF b (.ofNat 0) then none else bif zdx (Int.tdiv a b) then some (.int .i64 (Int.tdiv a b)) else none⟩
  | .rem => ⟨fun a b => bif eqF b (.ofNat 0) then none else some (.int .i64 (Int.tmod a b))⟩
  | .eql => ⟨fun a b => some (.bool (eqF a b))⟩
  | .neq => ⟨fun a b => some (.bool (not (eqF a b)))⟩
  | .lss => ⟨fun a b => some (.bool (ltF a b))⟩
  | .leq => ⟨fun a b => some (.bool (not (ltF b a)))⟩
  | .gtr => ⟨fun a b => some (.bool (ltF b a))⟩
  | .geq => ⟨fun a b => some (.bool (not (ltF a b)))⟩
  | _ => ⟨fun _ _ => none⟩
theorem znw {op : BinOp} {a b : Int} {v : Value} (h : (zfU op).f a b = some v) : zbm op a b = some v := by
  cases op <;> simp only [zfU] at h <;> try (cases h; done)
  · cases hf : zdx (Int.add a b) with
    | false => rw [hf] at h; cases h
    | true => rw [hf] at h; cases h; simp only [zbm]; rw [show a + b = Int.add a b from rfl, zc2 _ hf]
  · cases hf : zdx (Int.add a (Int.neg b)) with
    | false => rw [hf] at h; cases h
    | true => rw [hf] at h; cases h; simp only [zbm]; rw [show a - b = Int.add a (Int.neg b) from rfl, zc2 _ hf]
  · cases hf : zdx (Int.mul a b) with
    | false => rw [hf] at h; cases h
    | true => rw [hf] at h; cases h; simp only [zbm]; rw [show a * b = Int.mul a b from rfl, zc2 _ hf]
  · rw [zeJ] at h
    cases hz : (b == Int.ofNat 0) with
    | true => rw [hz] at h; cases h
    | false =>
      rw [hz] at h; simp only [cond_false] at h
      have : ¬ b = 0 := by simpa using hz
      cases hf : zdx (Int.tdiv a b) with
      | false => rw [hf] at h; cases h
      | true => rw [hf] at h; cases h; simp only [zbm, if_neg this, zc2 _ hf]
  · rw [zeJ] at h
    cases hz : (b == Int.ofNat 0) with
    | true => rw [hz] at h; cases h
    | false =>
      rw [hz] at h; cases h
      have : ¬ b = 0 := by simpa using hz
      simp only [zbm, if_neg this]
  · cases h; simp only [zbm, zeJ]
  · cases h; simp only [zbm, zeJ]; rfl
  · cases h; simp only [zbm, zfT]
  · cases h; simp only [zbm, zfT]; congr 2; rw [Bool.eq_iff_iff]; simp
  · cases h; simp only [zbm, zfT]
  · cases h; simp only [zbm, zfT]; congr 2; rw [Bool.eq_iff_iff]; simp
noncomputable def i64Of (v : Value) : Option Int := match v with | .int k a => bif i64 k then some a else none | _ => none
theorem zfj {v : Value} {a : Int} (h : i64Of v = some a) : v = .int .i64 a := by
  cases v with
  | int k n => cases k <;> simp_all [i64Of, i64]
  | _ => cases h
noncomputable def binV (op : BinOp) : Bx (Value → Value → Option Value) :=
  ⟨fun x y => match i64Of x with | none => none | some a => match i64Of y with | none => none | some b => (zfU op).f a b⟩
theorem znO {P : Program} {tm : Array Value} {o : Oper} {op : BinOp} {t yt : TypeId} {x y : Operand} {v : Value} (ho : o.op = .binOp op t x y yt) (h : (binV op).f (ev tm x) (ev tm y) = some v) : binF P tm o op t x y = some v := by
  simp only [binV] at h
  cases hx : i64Of (ev tm x) with
  | none => rw [hx] at h; cases h
  | some a =>
    rw [hx] at h; simp only [] at h
    cases hy : i64Of (ev tm y) with
    | none => rw [hy] at h; cases h
    | some b =>
      rw [hy] at h; simp only [] at h
      have hp := zhb (P := P) ho (zfj hx) (zfj hy) (znw h)
      unfold binF
      cases hf : zeI op (evF tm x) (evF tm y) with
      | some w =>
        rw [zbB] at hf
        rw [zfX (P := P) ho hf] at hp
        exact hp
      | none => simp only [hp]
noncomputable def binC (P : Program) (N : Nat) (o : Oper) (op : BinOp) (t : TypeId) (a b : Operand) (s : FS) : Option Value :=
  match (binV op).f ((evC N a).f s.t) ((evC N b).f s.t) with
  | some v => some v
  | none => binF P (zaG N s.t) o op t a b
noncomputable def unV (op : UnOp) : Bx (Value → Option Value) :=
  match op with
  | .not => ⟨fun v => match v with | .bool b => some (.bool (not b)) | _ => none⟩
  | .neg => ⟨fun v => match i64Of v with | some n => bif zdx (Int.add (.ofNat 0) (Int.neg n)) then some (.int .i64 (Int.add (.ofNat 0) (Int.neg n))) else none | none => none⟩
  | _ => ⟨fun _ => none⟩
theorem zn0 {P : Program} {tm : Array Value} {o : Oper} {op : UnOp} {t : TypeId} {x : Operand} {v : Value} (ho : o.op = .unOp op t x) (h : (unV op).f (ev tm x) = some v) : zaN P tm o = some v := by
  cases op with
  | not =>
    simp only [unV] at h
    split at h
    · rename_i b hb
      cases h
      have hp : (zbe o && o.op.operands.toList.all fun x => plain deep (ev tm x)) = true := by
        simp [zbe, ho, Op.operands, hb, plain, deep]
      unfold zaN
      rw [if_pos hp]
      have he : pe P (execOp (ev tm) o) = some (.value (.bool (!b))) := by
        unfold execOp; rw [ho]; simp only [hb]; rfl
      rw [he]; rfl
    · cases h
  | neg =>
    simp only [unV] at h
    split at h
    · rename_i n hn
      have hb := zfj hn
      cases hf : zdx (Int.add (.ofNat 0) (Int.neg n)) with
      | false => rw [hf] at h; cases h
      | true =>
        rw [hf] at h; cases h
        have hp : (zbe o && o.op.operands.toList.all fun x => plain deep (ev tm x)) = true := by
          simp [zbe, ho, Op.operands, hb, plain, deep]
        unfold zaN
        rw [if_pos hp]
        have he : pe P (execOp (ev tm) o) = some (.value (.int .i64 (IntKind.wrap .i64 (0 - n)))) := by
          unfold execOp; rw [ho]; simp only [hb]; rfl
        rw [he, show (0 : Int) - n = Int.add (.ofNat 0) (Int.neg n) from rfl, zc2 _ hf]; rfl
    · cases h
  | _ => cases h
noncomputable def unC (P : Program) (N : Nat) (o : Oper) (op : UnOp) (a : Operand) (s : FS) : Option Value :=
  match (unV op).f ((evC N a).f s.t) with
  | some v => some v
  | none => zaN P (zaG N s.t) o
noncomputable def takeF : Nat → List Value → List Value := @Nat.rec (fun _ => List Value → List Value) (fun _ => []) (fun _ ih l => @List.rec Value (fun _ => List Value) [] (fun a as _ => a :: ih as) l)
theorem zlN : ∀ n l, takeF n l = l.take n := by
  intro n
  induction n with
  | zero => intro l; rfl
  | succ n ih => intro l; cases l with
    | nil => rfl
    | cons a l => show a :: takeF n l = _; rw [ih]; rfl
noncomputable def dropF : Nat → List Value → List Value := @Nat.rec (fun _ => List Value → List Value) (fun l => l) (fun _ ih l => @List.rec Value (fun _ => List Value) [] (fun _ as _ => ih as) l)
theorem zmv : ∀ n l, dropF n l = l.drop n := by
  intro n
  induction n with
  | zero => intro l; rfl
  | succ n ih => intro l; cases l with
    | nil => rfl
    | cons a l => exact ih l
noncomputable def lenL : List Value → Nat := @List.rec Value (fun _ => Nat) 0 (fun _ _ n => Nat.succ n)
theorem zc4 (l : List Value) : lenL l = l.length := by
  induction l with
  | nil => rfl
  | cons a l ih => exact congrArg Nat.succ ih
noncomputable def zkL (P : Program) (t : TypeId) : Bx (List Value → Nat → Option Value) :=
  match aggB P t with
  | some true => match zaJ P t with
    | some n => ⟨fun cs off => bif Nat.ble (Nat.add off n) (lenL cs) then some (.agg ⟨takeF n (dropF off cs)⟩) else none⟩
    | none => ⟨fun _ _ => none⟩
  | some false => match zaJ P t with
    | some _ => ⟨fun cs off => optF cs off⟩
    | none => ⟨fun _ _ => none⟩
  | none => ⟨fun _ _ => none⟩
theorem zl6 (P : Program) (t : TypeId) (cs : List Value) (off : Nat) : (zkL P t).f cs off = zoL P t cs off := by
  unfold zkL zoL
  cases aggB P t with
  | none => rfl
  | some b =>
    cases zaJ P t with
    | none => cases b <;> rfl
    | some n => cases b
                · rfl
                · simp only [zc4, zlN, zmv]; rfl
noncomputable def zhy (v : Value) : Option (Nat × Nat) := match v with | .pointer (some ⟨b, o, none⟩) => some (b, o) | _ => none
noncomputable def cellsOf (r : Option Blk) : Option (List Value) := match r with | some (.cells c _ _) => some c | _ => none
noncomputable def partAt (P : Program) (t : TypeId) (o : Nat) (r : Option (List Value)) : Option Value := match r with | some c => (zkL P t).f c o | none => none
noncomputable def ze9 (P : Program) (t : TypeId) (h : Heap) (v : Value) : Option Value := match zhy v with | some p => partAt P t p.2 (cellsOf (hGet h p.1)) | none => none
theorem zin (P : Program) (t : TypeId) (h : Heap) (v : Value) : ze9 P t h v = readF P h t v := by
  unfold ze9 readF
  cases v with
  | pointer a =>
    rcases a with _ | ⟨b, o, _ | s⟩
    · rfl
    · simp only [zhy, ziF]
      cases h.get? b with
      | none => rfl
      | some k => cases k <;> first | rfl | exact zl6 ..
    · rfl
  | _ => rfl
noncomputable def zgu (c : List Value) (off : Nat) (new : List Value) : List Value := zeY (takeF off c) (zeY new (dropF (Nat.add off (lenL new)) c))
theorem zhN (c : List Value) (off : Nat) (new : List Value) : zgu c off new = splice c off new := by
  unfold zgu splice
  simp only [zez, zlN, zmv, zc4, List.append_assoc]; rfl
noncomputable def oneF' (v : Value) : Bool := match v with | .agg _ => false | .tuple _ => false | _ => true
theorem oneF'_eq (v : Value) : oneF' v = oneB v := by cases v <;> rfl
noncomputable def zkf : List Value → Bool := @List.rec Value (fun _ => Bool) true (fun v _ ih => bif oneF' v then ih else false)
theorem zhd (l : List Value) : zkf l = l.all oneB := by
  induction l with
  | nil => rfl
  | cons v l ih => show (bif oneF' v then zkf l else false) = _; rw [oneF'_eq, ih, List.all_cons]; cases oneB v <;> rfl
noncomputable def zdH (v : Value) : List Value := match v with | .agg cs => cs.toList | v => [v]
theorem zg6 (v : Value) : zdH v = v.cells.toList := by cases v <;> rfl
noncomputable def zhI (P : Program) (t : TypeId) (h : Heap) (new : List Value) (b o : Nat) : Option Heap :=
  match hGet h b, zaJ P t with
  | some (.cells c e true), some n => bif Nat.beq (lenL new) n && Nat.ble (Nat.add o n) (lenL c) && zkf new then some (hSet h b (.cells (zgu c o new) e true)) else none
  | _, _ => none
noncomputable def zi0 (P : Program) (t : TypeId) (h : Heap) (v a : Value) : Option Heap := match zhy a with | some p => zhI P t h (zdH v) p.1 p.2 | none => none
theorem znV (P : Program) (t : TypeId) (h : Heap) (v a : Value) : zi0 P t h v a = zdm P h t v a := by
  unfold zi0 zdm
  cases a with
  | pointer a =>
    rcases a with _ | ⟨b, o, _ | s⟩
    · rfl
    · simp only [zhy, zhI, ziF, zg6, zc4, zhd, zhN, hSet_eq]
      cases h.get? b with
      | none => rfl
      | some k =>
        cases k with
        | cells c e own =>
          cases own with
          | false => cases zaJ P t <;> rfl
          | true =>
            cases zaJ P t with
            | none => rfl
            | some n =>
              simp only [cond_eq_ite, Bool.and_eq_true, Nat.ble_eq, Nat.beq_eq, Array.length_toList, and_assoc]
              rfl
        | _ => cases zaJ P t <;> rfl
    · rfl
  | _ => rfl
noncomputable def zee (k : Int) (len : Nat) : Option Nat := match k with | .ofNat m => bif Nat.blt m len then some m else none | .negSucc _ => none
theorem zjR {k : Int} {len m : Nat} (h : zee k len = some m) : (0 ≤ k ∧ k < len) ∧ k.toNat = m := by
  cases k with
  | ofNat j =>
    simp only [zee] at h
    cases hb : Nat.blt j len with
    | true => rw [hb] at h; cases h; have := zha hb; exact ⟨⟨by simp, by simp only [Int.ofNat_eq_natCast]; omega⟩, rfl⟩
    | false => rw [hb] at h; cases h
  | negSucc j => cases h
theorem zjS {k : Int} {len : Nat} (h : zee k len = none) : ¬ (0 ≤ k ∧ k < len) := by
  cases k with
  | ofNat j =>
    simp only [zee] at h
    cases hb : Nat.blt j len with
    | true => rw [hb] at h; cases h
    | false => have := zlw hb; simp only [Int.ofNat_eq_natCast]; omega
  | negSucc j => omega
noncomputable def idxAt (b o n : Nat) (r : Option Nat) : Option Value := match r with | some m => some (.pointer (some ⟨b, Nat.add o (Nat.mul m n), none⟩)) | none => none
noncomputable def znv (v : Value) : Option Int := match v with | .int _ k => some k | _ => none
noncomputable def rowOf (v : Value) : Option (Nat × Nat × Nat) := match v with | .slice (some ⟨b, o, none⟩) n _ => some (b, o, n) | _ => none
noncomputable def zjQ (P : Program) (t : TypeId) : Bx (Value → Value → Option Value) :=
  match P.underlying t with
  | some (.array len e) => match zaJ P e with
    | some n => ⟨fun x i => match znv i with | some k => (match zhy x with | some p => idxAt p.1 p.2 n (zee k len) | none => none) | none => none⟩
    | none => ⟨fun _ _ => none⟩
  | some (.slice e) => match zaJ P e with
    | some n => ⟨fun x i => match znv i with | some k => (match rowOf x with | some p => idxAt p.1 p.2.1 n (zee k p.2.2) | none => none) | none => none⟩
    | none => ⟨fun _ _ => none⟩
  | _ => ⟨fun _ _ => none⟩
theorem zml (b o n : Nat) (k : Int) (len : Nat) : idxAt b o n (zee k len) = if 0 ≤ k ∧ k < len then some (.pointer (some ⟨b, o + k.toNat * n, none⟩)) else none := by
  cases hr : zee k len with
  | none => rw [if_neg (zjS hr)]; rfl
  | some m => obtain ⟨h1, h2⟩ := zjR hr; rw [if_pos h1, h2]; rfl
theorem zpe (P : Program) (t : TypeId) (x i : Value) : (zjQ P t).f x i = zci P t x i := by
  unfold zjQ zci
  cases i with
  | int kk k =>
    simp only []
    cases hu : P.underlying t with
    | none => rfl
    | some d =>
      cases d with
      | array len e =>
        cases x with
        | pointer a => rcases a with _ | ⟨b, o, _ | s⟩ <;> cases hs : zaJ P e <;> first | rfl | simp only [znv, zhy, zml, hs]
        | _ => simp only [znv, zhy]; cases zaJ P e <;> rfl
      | slice e =>
        cases x with
        | slice a len cap => rcases a with _ | ⟨b, o, _ | s⟩ <;> cases hs : zaJ P e <;> first | rfl | simp only [znv, rowOf, zml, hs]
        | _ => simp only [znv, rowOf]; cases zaJ P e <;> rfl
      | _ => rfl
  | _ =>
    simp only []
    cases P.underlying t with
    | none => rfl
    | some d => cases d with
      | array len e => simp only []; cases zaJ P e <;> rfl
      | slice e => simp only []; cases zaJ P e <;> rfl
      | _ => rfl
noncomputable def zfn (P : Program) (t : TypeId) (f : Nat) : Bx (Value → Option Value) :=
  match zb7 P t with
  | some fs => match fs[f]? with
    | some fd => match zaJ P fd.type with
      | some (_ + 1) => ⟨fun x => match zhy x with | some p => some (.pointer (some ⟨p.1, Nat.add p.2 fd.offset, none⟩)) | none => none⟩
      | _ => ⟨fun _ => none⟩
    | none => ⟨fun _ => none⟩
  | none => ⟨fun _ => none⟩
theorem zlh (P : Program) (t : TypeId) (f : Nat) (x : Value) : (zfn P t f).f x = zcx P t x f := by
  unfold zfn zcx
  cases zb7 P t with
  | none => rfl
  | some fs =>
    cases x with
    | pointer a =>
      rcases a with _ | ⟨b, o, _ | s⟩ <;> (cases hf : fs[f]? with
        | none => first | rfl | simp only [hf]
        | some fd => rcases hs : zaJ P fd.type with _ | _ | n <;> first | rfl | (simp only [hf, hs]; rfl) | simp only [hf, hs])
    | _ =>
      simp only [zhy]
      cases fs[f]? with
      | none => rfl
      | some fd => simp only []; rcases zaJ P fd.type with _ | _ | n <;> rfl
noncomputable def zj0 (P : Program) (t : TypeId) (f : Nat) : Bx (Value → Option Value) :=
  match zb7 P t with
  | some fs => match fs[f]? with
    | some fd => ⟨fun x => match x with | .agg cs => (zkL P fd.type).f cs.toList fd.offset | _ => none⟩
    | none => ⟨fun _ => none⟩
  | none => ⟨fun _ => none⟩
theorem zpq (P : Program) (t : TypeId) (f : Nat) (x : Value) : (zj0 P t f).f x = zfW P t x f := by
  unfold zj0 zfW
  cases zb7 P t with
  | none => rfl
  | some fs =>
    simp only []
    cases hf : fs[f]? with
    | none => simp only []; split <;> simp_all
    | some fd =>
      simp only []
      split
      · simp only [hf, zl6, zl5]
      · split <;> simp_all
noncomputable def extC (t : Value) (i : Nat) : Option Value := match t with | .tuple vs => optF vs.toList i | _ => none
theorem extC_eq (t : Value) (i : Nat) : extC t i = extV t i := by
  unfold extC extV; split <;> simp [zgO]
noncomputable def zey (P : Program) (t : TypeId) (h : Heap) (c : List Value) : Option (Value × Heap) :=
  match zaJ P t with
  | some n => bif Nat.beq (lenL c) n && zkf c then some (.pointer (some ⟨h.n, 0, none⟩), hPush h (.cells c t true)) else none
  | none => none
theorem zg9 (P : Program) (t : TypeId) (h : Heap) (v : Value) : zey P t h (zdH v) = boxB P h t v := by
  unfold zey boxB
  cases zaJ P t with
  | none => rfl
  | some n =>
    simp only [zg6, zc4, zhd, zmn, newB, cond_eq_ite, Array.length_toList, Bool.and_eq_true, Nat.beq_eq]
end Go.AX

namespace Go.AX
theorem zlf (off : Nat) : ∀ (l : List Value) (i : Nat) (c : Array Value), off + i + l.length ≤ c.size →
  ((l.zipIdx i).foldl (fun cs (p : Value × Nat) => cs.setIfInBounds (off + p.2) p.1) c).toList = splice c.toList (off + i) l := by
 intro l
 induction l with
 | nil => intro i c h; simp [splice]
 | cons v l ih =>
  intro i c h
  simp only [List.length_cons] at h
  simp only [List.zipIdx_cons, List.foldl_cons]
  rw [ih (i + 1) _ (by simp; omega)]
  simp only [splice, Array.toList_setIfInBounds, List.length_cons]
  apply List.ext_getElem?
  intro j
  have hc : c.toList.length = c.size := rfl
  simp only [List.getElem?_append, List.length_append, List.length_take, List.length_set, List.getElem?_take, List.getElem?_drop, List.getElem?_set, hc, List.length_cons]
  by_cases h1 : j < off + i
  ·simp only [show j < min (off + (i + 1)) c.size by omega, show j < off + (i + 1) by omega, show j < min (off + i) c.size by omega, if_true, h1, show ¬ off + i = j by omega, if_false, show j < min (off + (i + 1)) c.size + l.length by omega, show j < min (off + i) c.size + (l.length + 1) by omega]
  ·by_cases h2 : j = off + i
   ·subst h2
    simp only [show off + i < min (off + (i + 1)) c.size by omega, show off + i < off + (i + 1) by omega, show ¬ off + i < min (off + i) c.size by omega, if_true, if_false, show off + i < c.size by omega, show off + i < min (off + (i + 1)) c.size + l.length by omega, show off + i < min (off + i) c.size + (l.length + 1) by omega]
    rw [show off + i - min (off + i) c.size = 0 by omega]; rfl
   ·by_cases h3 : j < off + i + 1 + l.length
    ·simp only [show ¬ j < min (off + (i + 1)) c.size by omega, show ¬ j < min (off + i) c.size by omega, if_false, show j < min (off + (i + 1)) c.size + l.length by omega, show j < min (off + i) c.size + (l.length + 1) by omega, if_true]
     rw [show j - min (off + i) c.size = (j - min (off + (i + 1)) c.size) + 1 by omega, List.getElem?_cons_succ]
    ·simp only [show ¬ j < min (off + (i + 1)) c.size + l.length by omega, show ¬ j < min (off + i) c.size + (l.length + 1) by omega, if_false]
     rw [if_neg (by omega)]
     congr 1
     omega
noncomputable def zlg (place : Nat → Option (Nat × Nat)) : List (Nat × Value) → List Value → Option (List Value) :=
 @List.rec (Nat × Value) (fun _ => List Value → Option (List Value)) (fun c => some c)
  (fun p _ ih c => match place p.1 with
   | some q => bif Nat.beq (lenL (zdH p.2)) q.2 && Nat.ble (Nat.add q.1 (lenL (zdH p.2))) (lenL c) then ih (zgu c q.1 (zdH p.2)) else none
   | none => none)
theorem ziH (place : Nat → Option (Nat × Nat)) (ps : List (Nat × Value)) : ∀ c : Array Value, (zlg place ps c.toList).map List.toArray = Instr.fill place c ps := by
 induction ps with
 | nil => intro c; rfl
 | cons p ps ih =>
  intro c
  obtain ⟨i, v⟩ := p
  show Option.map List.toArray (match place i with
   | some q => bif Nat.beq (lenL (zdH v)) q.2 && Nat.ble (Nat.add q.1 (lenL (zdH v))) (lenL c.toList) then zlg place ps (zgu c.toList q.1 (zdH v)) else none
   | none => none) = Instr.fill place c ((i, v) :: ps)
  unfold Instr.fill
  cases place i with
  | none => rfl
  | some q =>
   obtain ⟨off, size⟩ := q
   simp only [zg6, zc4, zhN, cond_eq_ite, Bool.and_eq_true, Nat.beq_eq, Nat.ble_eq, Array.length_toList, Bool.or_eq_true, decide_eq_true_eq]
   by_cases hc : v.cells.size = size ∧ off.add v.cells.size ≤ c.size
   ·rw [if_pos hc, if_neg (by simp only [ne_eq, not_or, Decidable.not_not]; exact ⟨hc.1, by have := hc.2; have e : off.add v.cells.size = off + v.cells.size := rfl; omega⟩)]
    rw [← ih]
    have := zlf off v.cells.toList 0 c (by have := hc.2; have e : off.add v.cells.size = off + v.cells.size := rfl; simp only [Array.length_toList]; omega)
    simp only [Nat.add_zero] at this
    have e2 : (Array.foldl (fun cs x => match x with | (c, j) => cs.setIfInBounds (off + j) c) c v.cells.zipIdx) = ((v.cells.toList.zipIdx 0).foldl (fun cs (p : Value × Nat) => cs.setIfInBounds (off + p.2) p.1) c) := by
     rw [← Array.foldl_toList, Array.toList_zipIdx]
    rw [e2, this]
   ·rw [if_neg hc, if_pos]
    ·rfl
    ·by_cases h1 : v.cells.size = size
     ·right; have e : off.add v.cells.size = off + v.cells.size := rfl
      have : ¬ off.add v.cells.size ≤ c.size := fun q => hc ⟨h1, q⟩
      omega
     ·left; exact h1
noncomputable def aggOf (r : Option (List Value)) : Option Value := match r with | some c => some (.agg ⟨c⟩) | none => none
theorem zmG (r : Option (List Value)) : aggOf r = (r.map List.toArray).map .agg := by cases r <;> rfl
noncomputable def zpp (P : Program) (t : TypeId) : Bx (List (Nat × Value) → Option Value) :=
 match zbD P t with
 | some z => match P.underlying t with
  | some (.struct fs) => match fs.toList.mapM (fun f => (zaJ P f.type).map fun s => (f.offset, s)) with
   | some places => ⟨fun parts => aggOf (zlg (fun i => places[i]?) parts z.cells.toList)⟩
   | none => ⟨fun _ => none⟩
  | some (.array _ e) => match zaJ P e with
   | some s => ⟨fun parts => aggOf (zlg (fun i => some (Nat.mul i s, s)) parts z.cells.toList)⟩
   | none => ⟨fun _ => none⟩
  | _ => ⟨fun _ => none⟩
 | none => ⟨fun _ => none⟩
theorem fillC_eq (P : Program) (t : TypeId) (parts : List (Nat × Value)) : (zpp P t).f parts = zeg P t parts := by
 unfold zpp zeg
 cases zbD P t with
 | none => rfl
 | some z =>
  cases P.underlying t with
  | none => rfl
  | some d =>
   cases d with
   | struct fs =>
    simp only []
    cases fs.toList.mapM (fun f => (zaJ P f.type).map fun s => (f.offset, s)) with
    | none => rfl
    | some places => simp only [zmG, ziH]
   | array n e =>
    simp only []
    cases zaJ P e with
    | none => rfl
    | some s => simp only [zmG, ziH]; rfl
   | _ => rfl
noncomputable def zgL (N : Nat) : List (Nat × Operand) → Vt → List (Nat × Value) := @List.rec (Nat × Operand) (fun _ => Vt → List (Nat × Value)) (fun _ => []) (fun p _ ih t => (p.1, (evC N p.2).f t) :: ih t)
theorem zjt (N : Nat) (ps : List (Nat × Operand)) (t : Vt) : zgL N ps t = ps.map fun (i, x) => (i, ev (zaG N t) x) := by
 induction ps with
 | nil => rfl
 | cons p ps ih => show (p.1, (evC N p.2).f t) :: zgL N ps t = _; rw [ih, zbT]; rfl
noncomputable def zhG (N : Nat) : List Operand → Vt → List Value := @List.rec Operand (fun _ => Vt → List Value) (fun _ => []) (fun x _ ih t => (evC N x).f t :: ih t)
theorem argsC_eq (N : Nat) (xs : List Operand) (t : Vt) : zhG N xs t = xs.map (ev (zaG N t)) := by
 induction xs with
 | nil => rfl
 | cons x xs ih => show (evC N x).f t :: zhG N xs t = _; rw [ih, zbT]; rfl
theorem ziV (N : Nat) (a : Array Operand) (t : Vt) : (⟨zhG N a.toList t⟩ : Array Value) = a.map (ev (zaG N t)) := by
 apply Array.ext'; simp [argsC_eq]
noncomputable def zlI (z : List Value) (n : Nat) : Nat → List Value := @Nat.rec (fun _ => List Value) [] (fun k ih => (match optF z (Nat.mod (Nat.sub n (Nat.succ k)) (lenL z)) with | some v => v | none => default) :: ih)
theorem znT (z : Array Value) (n : Nat) : ∀ k, k ≤ n → zlI z.toList n k = ((List.range' (n - k) k).map (z[· % z.size]!)) := by
 intro k
 induction k with
 | zero => intro _; rfl
 | succ k ih =>
  intro h
  show (match optF z.toList (Nat.mod (Nat.sub n (Nat.succ k)) (lenL z.toList)) with | some v => v | none => default) :: zlI z.toList n k = _
  rw [ih (by omega), List.range'_succ, List.map_cons, zgO, zc4]
  congr 1
  ·rw [show Nat.mod (Nat.sub n (Nat.succ k)) z.toList.length = (n - (k + 1)) % z.size from rfl, Array.getElem?_toList, Array.getElem!_eq_getD, Array.getD_eq_getD_getElem?]
   cases z[(n - (k + 1)) % z.size]? <;> rfl
  ·rw [show n - (k + 1) + 1 = n - k by omega]
theorem zkh (z : Array Value) (n : Nat) : zlI z.toList n n = (zb4 z n).toList := by
 rw [znT z n n (Nat.le_refl _)]; simp [zb4, List.range_eq_range']
noncomputable def zlS (h : Heap) (e : TypeId) (n : Nat) (c : List Value) : Option (Value × Heap) := some (.slice (some ⟨h.n, 0, none⟩) n n, hPush h (.cells c e true))
noncomputable def zdh (P : Program) (t : TypeId) (len : Nat) : Bx (Heap → List (Nat × Value) → Option (Value × Heap)) :=
 match P.underlying t with
 | some (.slice e) => match zaJ P e with
  | some s => match zbD P e with
   | some z => bif Nat.ble (Nat.mul len s) 16777216 && Nat.beq (lenL z.cells.toList) s && Nat.ble len 16777216 then
     ⟨fun h parts => match zlg (fun i => some (Nat.mul i s, s)) parts (zlI z.cells.toList (Nat.mul len s) (Nat.mul len s)) with
      | some c => bif zkf c && Nat.beq (lenL c) (Nat.mul len s) then zlS h e len c else none
      | none => none⟩
    else ⟨fun _ _ => none⟩
   | none => ⟨fun _ _ => none⟩
  | none => ⟨fun _ _ => none⟩
 | _ => ⟨fun _ _ => none⟩
theorem zhF (P : Program) (t : TypeId) (len : Nat) (h : Heap) (parts : List (Nat × Value)) : (zdh P t len).f h parts = zaV P h t len parts := by
 unfold zdh zaV
 cases P.underlying t with
 | none => rfl
 | some d =>
  cases d with
  | slice e =>
   simp only []
   cases zaJ P e with
   | none => rfl
   | some s =>
    cases zbD P e with
    | none => rfl
    | some z =>
     simp only [cond_eq_ite, Bool.and_eq_true, Nat.ble_eq, Nat.beq_eq, zc4, Array.length_toList]
     have e1 : Nat.mul len s = len * s := rfl
     rw [e1]
     by_cases hc : len * s ≤ 16777216 ∧ z.cells.size = s ∧ len ≤ 16777216
     ·rw [if_pos hc, if_pos ⟨⟨hc.1, hc.2.1⟩, hc.2.2⟩]
      rw [zkh, ← ziH]
      show (match zlg (fun i => some (i * s, s)) parts (zb4 z.cells (len * s)).toList with | some c => _ | none => none) = _
      cases zlg (fun i => some (i * s, s)) parts (zb4 z.cells (len * s)).toList with
      | none => rfl
      | some c =>
       simp only [Option.map_some, zhd, zlS, zmn]
       cases c.all oneB with
       | false => rfl
       | true =>
        by_cases hl : c.length = len * s
        ·simp [hl]
        ·simp [hl]
     ·rw [if_neg hc, if_neg (fun q => hc ⟨q.1.1, q.1.2, q.2⟩)]
  | _ => rfl
noncomputable def lenC (P : Program) (t : TypeId) : Bx (Value → Option Value) :=
 match P.underlying t with
 | some (.slice _) => ⟨fun v => match v with | .slice _ n _ => some (.int .i64 (.ofNat n)) | _ => none⟩
 | _ => ⟨fun _ => none⟩
noncomputable def lenO (P : Program) (N : Nat) (o : Oper) (t : TypeId) (v : Value) (s : FS) : Option Value :=
 match (lenC P t).f v with
 | some r => some r
 | none => lenF P (zaG N s.t) s.h o t v
theorem lenO_eq (P : Program) (N : Nat) (o : Oper) (t : TypeId) (v : Value) (s : FS) : lenO P N o t v s = lenF P (zaG N s.t) s.h o t v := by
 unfold lenO lenC
 cases hu : P.underlying t with
 | none => rfl
 | some d =>
  cases d with
  | slice e =>
   cases v with
   | slice a n c => unfold lenF; rw [hu]; rfl
   | _ => rfl
  | _ => rfl
noncomputable def zoG (c a b : Value) : Option Value := match c with | .bool t => some (bif t then a else b) | _ => none
noncomputable def zpL (P : Program) (N : Nat) (o : Oper) (c : Call) : Bx (RecC → Ctx → FS → Option (Did × FS)) :=
 match c.callee with
 | .builtin .len => match c.argTypes[0]?, c.args[0]? with
  | some t, some a => ⟨fun _ _ s => oneC s (lenO P N o t ((evC N a).f s.t) s)⟩
  | _, _ => ⟨fun _ _ _ => none⟩
 | .builtin .append => match c.args[0]?, c.args[1]? with
  | some a, some b => ⟨fun _ _ s => valC s (zbE P s.h c.argTypes ((evC N a).f s.t) ((evC N b).f s.t))⟩
  | _, _ => ⟨fun _ _ _ => none⟩
 | .value (.func f) => match P.funcs[f]? with
  | none => ⟨fun _ _ _ => none⟩
  | some fn => bif fn.name == "runtime.NumGoroutine" then ⟨fun _ _ _ => none⟩
   else bif fn.body.isSome then ⟨fun C _ s => zgn s (C.call f ⟨zhG N c.args.toList s.t⟩ false .run s.h)⟩
   else ⟨fun C x s => actC C x s ((zcb P f ⟨zhG N c.args.toList s.t⟩).map fun r => (r, s.h))⟩
 | .value f => ⟨fun C x s => actC C x s ((zbd P ((evC N f).f s.t) ⟨zhG N c.args.toList s.t⟩).map fun r => (r, s.h))⟩
 | _ => ⟨fun C x s => zic P N C x s o⟩
noncomputable def opC (P : Program) (N : Nat) (o : Oper) : Bx (RecC → Ctx → FS → Option (Did × FS)) :=
 match o.op with
 | .move a => ⟨fun _ _ s => some (.val ((evC N a).f s.t), s)⟩
 | .assign a => ⟨fun _ _ s => some (.val ((evC N a).f s.t), s)⟩
 | .pick c a b => ⟨fun _ _ s => oneC s (zoG ((evC N c).f s.t) ((evC N a).f s.t) ((evC N b).f s.t))⟩
 | .load t a => ⟨fun _ _ s => oneC s (ze9 P t s.h ((evC N a).f s.t))⟩
 | .store t a v => ⟨fun _ _ s => hhC s (zi0 P t s.h ((evC N v).f s.t) ((evC N a).f s.t))⟩
 | .binOp op t a b _ => ⟨fun _ _ s => oneC s (binC P N o op t a b s)⟩
 | .unOp op _ a => ⟨fun _ _ s => oneC s (unC P N o op a s)⟩
 | .indexAddr t a i => ⟨fun _ _ s => oneC s ((zjQ P t).f ((evC N a).f s.t) ((evC N i).f s.t))⟩
 | .fieldAddr t a f => ⟨fun _ _ s => oneC s ((zfn P t f).f ((evC N a).f s.t))⟩
 | .field t a f => ⟨fun _ _ s => oneC s ((zj0 P t f).f ((evC N a).f s.t))⟩
 | .extract t i => ⟨fun _ _ s => oneC s (extC ((evC N t).f s.t) i)⟩
 | .index t a i => ⟨fun _ _ s => oneC s (zfV P (zaG N s.t) o t ((evC N a).f s.t) ((evC N i).f s.t))⟩
 | .convert a b v => ⟨fun _ _ s => valC s (zbQ P (zaG N s.t) s.h o a b ((evC N v).f s.t))⟩
 | .alloc e => match zbD P e with
  | some z => ⟨fun _ _ s => valC s (zey P e s.h (zdH z))⟩
  | none => ⟨fun _ _ _ => none⟩
 | .box e v => ⟨fun _ _ s => valC s (zey P e s.h (zdH ((evC N v).f s.t)))⟩
 | .build t ps => ⟨fun _ _ s => oneC s ((zpp P t).f (zgL N ps.toList s.t))⟩
 | .buildSlice t n ps => ⟨fun _ _ s => valC s ((zdh P t n).f s.h (zgL N ps.toList s.t))⟩
 | .call c => zpL P N o c
 | _ => ⟨fun C x s => zic P N C x s o⟩
theorem zoU {P : Program} {C : RecC} {R : Recs} (hU : Under P C R) {N : Nat} {x : Ctx} {s s' : FS} {d : Did} {o : Oper} (h : (opC P N o).f C x s = some (d, s')) : zbZ P R x (s.st N) o = some (d, s'.st N) := by
 have slow : (fun C x s => zic P N C x s o) C x s = some (d, s') → zbZ P R x (s.st N) o = some (d, s'.st N) := fun h => by rw [zew]; exact zkp hU h
 have simp' : ∀ r : Option (Value × Heap), zaf o = true → zad P (zaG N s.t) s.h o = r → valC s r = some (d, s') → zbZ P R x (s.st N) o = some (d, s'.st N) := by
  intro r hs h1 h2
  rw [zew, zcY hs]
  exact zoV h1.symm h2
 have onee : ∀ r : Option Value, oneC s r = some (d, s') → valC s (r.map fun v => (v, s.h)) = some (d, s') := by
  intro r h; cases r with
  | none => cases h
  | some v => cases h; rfl
 unfold opC at h
 cases ho : o.op with
 | move a => rw [ho] at h; cases h; simp only [zbZ, ho]; rw [show evF (s.st N).tm a = (evC N a).f s.t by rw [zbB, zbT]; rfl]; rfl
 | assign a => rw [ho] at h; cases h; simp only [zbZ, ho]; rw [show evF (s.st N).tm a = (evC N a).f s.t by rw [zbB, zbT]; rfl]; rfl
 | pick c a b =>
  rw [ho] at h; simp only [zbT] at h; simp only [zbZ, ho, zbB]
  exact zeG (by unfold zoG pickV; rfl) h
 | load t a =>
  rw [ho] at h; simp only [zbT] at h; simp only [zbZ, ho, zbB]
  exact zeG (zin ..) h
 | store t a v =>
  rw [ho] at h; simp only [zbT] at h; simp only [zbZ, ho, zbB]
  exact of_hh (znV ..) h
 | binOp op t a b yt =>
  rw [ho] at h; simp only [zbZ, ho]
  refine zeG ?_ h
  unfold binC
  simp only [zbT]
  cases hv : (binV op).f (ev (zaG N s.t) a) (ev (zaG N s.t) b) with
  | none => rfl
  | some v => exact (znO ho hv).symm
 | unOp op t a =>
  rw [ho] at h; simp only [zbZ, ho]
  refine zeG ?_ h
  unfold unC
  simp only [zbT]
  cases hv : (unV op).f (ev (zaG N s.t) a) with
  | none => rfl
  | some v => exact (zn0 ho hv).symm
 | indexAddr t a i =>
  rw [ho] at h; simp only [zbT] at h; simp only [zbZ, ho, zbB]
  exact zeG (zpe ..) h
 | fieldAddr t a f =>
  rw [ho] at h; simp only [zbT] at h; simp only [zbZ, ho, zbB]
  exact zeG (zlh ..) h
 | field t a f =>
  rw [ho] at h; simp only [zbT] at h; simp only [zbZ, ho, zbB]
  exact zeG (zpq ..) h
 | extract t i =>
  rw [ho] at h; simp only [zbT] at h; simp only [zbZ, ho, zbB]
  exact zeG (extC_eq ..) h
 | index t a i =>
  rw [ho] at h; simp only [zbT] at h; simp only [zbZ, ho, zbB]
  exact zeG rfl h
 | convert a b v =>
  rw [ho] at h; simp only [zbT] at h; simp only [zbZ, ho, zbB]
  exact zoV rfl h
 | alloc e =>
  rw [ho] at h; simp only [] at h
  cases hz : zbD P e with
  | none => rw [hz] at h; cases h
  | some z =>
   rw [hz] at h; simp only [zg9] at h
   exact simp' _ (by simp [zaf, ho]) (by simp only [zad, ho, hz]) h
 | box e v =>
  rw [ho] at h; simp only [zg9, zbT] at h
  exact simp' _ (by simp [zaf, ho]) (by simp only [zad, ho]) h
 | build t ps =>
  rw [ho] at h; simp only [fillC_eq, zjt] at h
  exact simp' _ (by simp [zaf, ho]) (by simp only [zad, ho]) (onee _ h)
 | buildSlice t n ps =>
  rw [ho] at h; simp only [zhF, zjt] at h
  exact simp' _ (by simp [zaf, ho]) (by simp only [zad, ho]) h
 | call c =>
  rw [ho] at h
  obtain ⟨callee, args, argTypes⟩ := c
  simp only [zbZ, ho, zg8]
  unfold zpL at h
  cases callee with
  | value f =>
   cases f with
   | func f =>
    simp only [] at h ⊢
    unfold funF
    cases hf : P.funcs[f]? with
    | none => rw [hf] at h; cases h
    | some fn =>
     rw [hf] at h; simp only [] at h ⊢
     cases hn : (fn.name == "runtime.NumGoroutine") with
     | true => rw [hn] at h; cases h
     | false =>
      rw [hn] at h; simp only [cond_false] at h ⊢
      cases hb : fn.body.isSome with
      | true =>
       rw [hb] at h; simp only [cond_true, ziV] at h ⊢
       rw [zgp]
       exact zh2 (hU.call _ _ _ _ _) h
      | false =>
       rw [hb] at h; simp only [cond_false, ziV] at h ⊢
       rw [zgp]
       exact zpY hU h
   | _ =>
    simp only [ziV, zbT] at h ⊢
    rw [zgp, zbB]
    exact zpY hU h
  | invoke r name => exact zkp hU h
  | builtin b =>
   cases b with
   | len =>
    simp only [] at h ⊢
    unfold lenV
    cases h0 : argTypes[0]? with
    | none => rw [h0] at h; cases h
    | some t =>
     rw [h0] at h
     cases h1 : args[0]? with
     | none => rw [h1] at h; cases h
     | some a =>
      rw [h1] at h; simp only [lenO_eq, zbT] at h
      simp only [Option.map_some, zbB]
      exact zeG rfl h
   | append =>
    simp only [] at h ⊢
    unfold appF
    cases h0 : args[0]? with
    | none => rw [h0] at h; cases h
    | some a =>
     rw [h0] at h
     cases h1 : args[1]? with
     | none => rw [h1] at h; cases h
     | some b =>
      rw [h1] at h; simp only [zbT] at h
      simp only [zbB]
      exact zoV rfl h
   | _ => exact zkp hU h
 | _ => rw [ho] at h; exact slow h
end Go.AX

namespace Go.AX
noncomputable def zmH (p : Bx (Vt → Value → Vt)) (r : Option (Did × FS)) (ih : FS → Option (Ex × FS)) : Option (Ex × FS) :=
 match r with
 | some (.val v, s) => ih { s with t := p.f s.t v }
 | some (.panic c, s) => some (.panic c, s)
 | none => none
noncomputable def okC (P : Program) (N : Nat) (o : Oper) : Bx (RecC → Ctx → FS → Option (Did × FS)) := bif zal P o then opC P N o else ⟨fun _ _ _ => none⟩
theorem zjD {P : Program} {C : RecC} {R : Recs} (hU : Under P C R) {N : Nat} {x : Ctx} {s s' : FS} {d : Did} {o : Oper} (h : (okC P N o).f C x s = some (d, s')) : doOp P R x (s.st N) o = some (d, s'.st N) := by
 unfold okC at h
 rw [← ziN]; unfold znC
 cases hk : zal P o with
 | false => rw [hk] at h; cases h
 | true => rw [hk] at h; exact zoU hU h
noncomputable def boolV (v : Value) : Option Bool := match v with | .bool b => some b | _ => none
noncomputable def zlK (N : Nat) (ops : Array Oper) (j : Nat) : Bx (Vt → Option Bool) :=
 match ops[j]? with
 | some o => match o.dst with
  | some t => bif Nat.blt t N then ⟨fun vt => boolV ((gC t).f vt)⟩ else ⟨fun _ => none⟩
  | none => ⟨fun _ => none⟩
 | none => ⟨fun _ => none⟩
theorem znU (N : Nat) (ops : Array Oper) (j : Nat) (t : Vt) : (zlK N ops j).f t = yielded ops (zaG N t) j := by
 rw [← zgq]
 unfold zlK zlJ
 cases ops[j]? with
 | none => rfl
 | some o =>
  simp only []
  cases o.dst with
  | none => rfl
  | some d =>
   simp only [zgO, Array.getElem?_toList, zd3]
   cases hb : Nat.blt d N with
   | false => rw [if_neg (zlw hb)]; rfl
   | true => rw [if_pos (zha hb)]; simp only [cond_true]; cases (gC d).f t <;> rfl
noncomputable def zcC (N : Nat) (ops : Array Oper) (o : Oper) : Bx (Vt → Bool) :=
 match o.guard with
 | none => ⟨fun _ => true⟩
 | some (j, true) => ⟨fun t => match (zlK N ops j).f t with | some b => b | none => false⟩
 | some (j, false) => ⟨fun t => match (zlK N ops j).f t with | some b => not b | none => false⟩
theorem zf9 (N : Nat) (ops : Array Oper) (o : Oper) (t : Vt) : (zcC N ops o).f t = zbr ops (zaG N t) o := by
 rw [← zh9]
 unfold zcC zkj
 cases hg : o.guard with
 | none => rfl
 | some p =>
  obtain ⟨j, w⟩ := p
  simp only [zgq]
  cases w <;> (simp only [znU]; cases yielded ops (zaG N t) j <;> rfl)
noncomputable def stepC (P : Program) (N : Nat) (ops : Array Oper) (o : Oper) : Bx ((FS → Option (Ex × FS)) → RecC → Ctx → FS → Option (Ex × FS)) :=
 match o.guard with
 | none => ⟨fun ih C x s => zmH (putC N o.dst) ((okC P N o).f C x s) ih⟩
 | some _ => ⟨fun ih C x s => bif (zcC N ops o).f s.t then zmH (putC N o.dst) ((okC P N o).f C x s) ih else ih { s with t := (putC N o.dst).f s.t undef }⟩
noncomputable def seqC (P : Program) (N : Nat) (ops : Array Oper) : List Oper → RecC → Ctx → FS → Option (Ex × FS) :=
 @List.rec Oper (fun _ => RecC → Ctx → FS → Option (Ex × FS)) (fun _ _ s => some (.normal, s)) (fun o _ ih C x s => (stepC P N ops o).f (fun s => ih C x s) C x s)
theorem zpX {P : Program} {N : Nat} {R : Recs} {x : Ctx} {o : Oper} {s : FS} {r : Option (Did × FS)} {k : FS → Option (Ex × FS)} {k' : St → Option (Ex × St)} {e : Ex} {s' : FS}
  (hr : ∀ d s1, r = some (d, s1) → doOp P R x (s.st N) o = some (d, s1.st N)) (hk : ∀ s1, k s1 = some (e, s') → k' (s1.st N) = some (e, s'.st N)) (h : zmH (putC N o.dst) r k = some (e, s')) :
  (match doOp P R x (s.st N) o with | some (.val v, s) => k' { s with tm := put s.tm o.dst v } | some (.panic c, s) => some (.panic c, s) | none => none) = some (e, s'.st N) := by
 cases hc : r with
 | none => rw [hc] at h; cases h
 | some p =>
  obtain ⟨d, s1⟩ := p
  rw [hr d s1 hc]; rw [hc] at h
  cases d with
  | val v =>
   have := hk _ h
   simp only [FS.st, zcl] at this ⊢
   exact this
  | panic c => cases h; rfl
theorem seqC_ok {P : Program} {C : RecC} {R : Recs} (hU : Under P C R) {N : Nat} {x : Ctx} (ops : Array Oper) : ∀ (n i : Nat), i + n = ops.size → ∀ s e s', seqC P N ops (ops.toList.drop i) C x s = some (e, s') → zb0 P R x ops (List.range' i n) (s.st N) = some (e, s'.st N) := by
 intro n
 induction n with
 | zero =>
  intro i hi s e s' h
  rw [List.drop_eq_nil_of_le (by simp; omega)] at h
  cases h; rfl
 | succ n ih =>
  intro i hi s e s' h
  have hlt : i < ops.size := by omega
  have hd : ops.toList.drop i = ops[i] :: ops.toList.drop (i + 1) := by
   rw [List.drop_eq_getElem_cons (by simpa using hlt)]; simp
  rw [hd] at h
  have h : (stepC P N ops ops[i]).f (fun s => seqC P N ops (ops.toList.drop (i + 1)) C x s) C x s = some (e, s') := h
  rw [List.range'_succ]
  simp only [zb0, Array.getElem?_eq_getElem hlt]
  show (if zbr ops (zaG N s.t) ops[i] then _ else _) = _
  unfold stepC at h
  have key : (bif (zcC N ops ops[i]).f s.t then zmH (putC N ops[i].dst) ((okC P N ops[i]).f C x s) (fun s => seqC P N ops (ops.toList.drop (i + 1)) C x s) else seqC P N ops (ops.toList.drop (i + 1)) C x { s with t := (putC N ops[i].dst).f s.t undef }) = some (e, s') := by
   cases hg : ops[i].guard with
   | none => rw [hg] at h; rw [show (zcC N ops ops[i]).f s.t = true by unfold zcC; rw [hg]]; exact h
   | some p => rw [hg] at h; exact h
  rw [zf9] at key
  cases hw : zbr ops (zaG N s.t) ops[i] with
  | false =>
   rw [hw] at key
   have := ih (i + 1) (by omega) _ _ _ key
   simp only [FS.st, zcl] at this
   exact this
  | true =>
   rw [hw] at key
   simp only [if_true]
   exact zpX (fun d s1 hr => zjD hU hr) (fun s1 hk => ih (i + 1) (by omega) _ _ _ hk) key
structure LookC where
 o : Oper
 i : Nat
 t : Vt
 v : Value
 n : Nat
structure OpenC where
 s : FS
 hs : List Heap
 looks : List LookC
 news : List (Nat × Nat × Blk)
noncomputable def LookC.look (ops : Array Oper) (N : Nat) (l : LookC) : Look := { o := l.o, tm := zaG N l.t, v := l.v, n := l.n, lo := zcG ops ((preds ops.toList).getD l.i []), hi := zbg ops (preds ops.toList) l.i }
noncomputable def OpenC.op (ops : Array Oper) (N : Nat) (z : OpenC) : Open := { s := z.s.st N, hs := z.hs, looks := z.looks.map (LookC.look ops N), news := z.news }
theorem zpQ (a b : Nat) : (a == b) = Nat.beq a b := by rw [Bool.eq_iff_iff]; simp [Nat.beq_eq]
def zl9 : RecC := ⟨fun _ _ _ => none, fun _ _ _ _ _ => none, fun _ _ _ => none⟩
def noRec : Recs := ⟨fun _ _ _ => none, fun _ _ _ _ _ => none, fun _ _ _ => none⟩
theorem zgQ (P : Program) : Under P zl9 noRec := ⟨fun _ _ _ _ _ h => (by cases h), fun _ _ _ _ _ _ h => (by cases h), fun _ _ _ _ h => (by cases h)⟩
noncomputable def simC (P : Program) (N : Nat) (o : Oper) (t : Vt) (h : Heap) : Option (Value × Heap) :=
 match (opC P N o).f zl9 ⟨0, none, false⟩ ⟨t, [], .run, h⟩ with
 | some (.val v, s) => some (v, s.h)
 | _ => none
theorem zkz {P : Program} {N : Nat} {o : Oper} {t : Vt} {h : Heap} {r : Value × Heap} (hs : zaf o = true) (e : simC P N o t h = some r) : zad P (zaG N t) h o = some r := by
 unfold simC at e
 cases hc : (opC P N o).f zl9 ⟨0, none, false⟩ ⟨t, [], .run, h⟩ with
 | none => rw [hc] at e; cases e
 | some p =>
  obtain ⟨d, s⟩ := p
  have := zoU (zgQ P) hc
  rw [zew, zcY hs] at this
  rw [hc] at e
  cases d with
  | panic c => cases e
  | val v =>
   cases e
   have this : valF (FS.st N ⟨t, [], .run, h⟩) (zad P (zaG N t) h o) = some (.val v, s.st N) := this
   cases hb : zad P (zaG N t) h o with
   | none => rw [hb] at this; cases this
   | some q =>
    rw [hb] at this
    simp only [valF, zlc, Option.some.injEq, Prod.mk.injEq, Did.val.injEq] at this
    obtain ⟨h1, h2⟩ := this
    have h3 := congrArg St.h h2
    obtain ⟨q1, q2⟩ := q
    simp only at h1 h3
    rw [h1, h3]; rfl
noncomputable def zer (P : Program) (N : Nat) (z : OpenC) (i : Nat) (o : Oper) : Option OpenC :=
 match simC P N o z.s.t z.s.h with
 | none => none
 | some (v, h) =>
  bif Nat.beq h.n z.s.h.n then
   some { z with s := { z.s with t := (putC N o.dst).f z.s.t v }, looks := bif looks o then { o, i, t := z.s.t, v, n := z.s.h.n } :: z.looks else z.looks }
  else
   match hGet h z.s.h.n with
   | some b => some { z with s := { z.s with h, t := (putC N o.dst).f z.s.t v }, news := (i, z.s.h.n, b) :: z.news }
   | none => none
noncomputable def zgi (P : Program) (N : Nat) (C : RecC) (x : Ctx) (ps : List (List Nat)) (z : OpenC) (i : Nat) (o : Oper) : Option OpenC :=
 match z.news with
 | [] => match (okC P N o).f C x z.s with
  | some (.val v, s) => some { z with s := { s with t := (putC N o.dst).f s.t v }, hs := s.h :: z.hs }
  | _ => none
 | _ :: _ => match (okC P N o).f C x { z.s with h := hide (unseen ps z.news i) z.s.h } with
  | some (.val v, s) =>
   bif (unseen ps z.news i).all (fun p => (s.h.get? p.2.1).isSome) then some { z with s := { s with t := (putC N o.dst).f s.t v, h := unhide (unseen ps z.news i) s.h }, hs := unhide (unseen ps z.news i) s.h :: z.hs } else none
  | _ => none
noncomputable def zc0 (P : Program) (N : Nat) (ops : Array Oper) (i : Nat) (o : Oper) : Bx (RecC → Ctx → OpenC → Option OpenC) :=
 bif zaf o then bif zal P o then
  match o.guard with
  | none => ⟨fun _ _ z => zer P N z i o⟩
  | some _ => ⟨fun _ _ z => bif (zcC N ops o).f z.s.t then zer P N z i o else some { z with s := { z.s with t := (putC N o.dst).f z.s.t undef } }⟩
  else ⟨fun _ _ z => bif (zcC N ops o).f z.s.t then none else some { z with s := { z.s with t := (putC N o.dst).f z.s.t undef } }⟩
 else ⟨fun C x z => bif (zcC N ops o).f z.s.t then zgi P N C x (preds ops.toList) z i o else some { z with s := { z.s with t := (putC N o.dst).f z.s.t undef }, hs := z.s.h :: z.hs }⟩
theorem zjA {P : Program} {C : RecC} {R : Recs} (hU : Under P C R) {N : Nat} {x : Ctx} {ops : Array Oper} {i : Nat} {o : Oper} (ho : ops[i]? = some o) {z z' : OpenC} (h : (zc0 P N ops i o).f C x z = some z') :
  zaI P R x ops (preds ops.toList) (z.op ops N) i = some (z'.op ops N) := by
 unfold zaI; simp only [ho]
 unfold zc0 at h
 have hw : zbr ops (z.op ops N).s.tm o = (zcC N ops o).f z.s.t := (zf9 ..).symm
 cases hs : zaf o with
 | true =>
  rw [hs] at h
  simp only [if_true, hw]
  cases hk : zal P o with
  | false =>
   rw [hk] at h; simp only [cond_true, cond_false] at h
   cases hq : (zcC N ops o).f z.s.t with
   | true => rw [hq] at h; cases h
   | false =>
    rw [hq] at h; cases h
    simp only [Bool.false_eq_true, if_false, OpenC.op, FS.st, zcl]
  | true =>
   rw [hk] at h; simp only [cond_true] at h
   have key : (bif (zcC N ops o).f z.s.t then zer P N z i o else some { z with s := { z.s with t := (putC N o.dst).f z.s.t undef } }) = some z' := by
    cases hg : o.guard with
    | none => rw [hg] at h; rw [show (zcC N ops o).f z.s.t = true by unfold zcC; rw [hg]]; exact h
    | some p => rw [hg] at h; exact h
   cases hq : (zcC N ops o).f z.s.t with
   | false =>
    rw [hq] at key; cases key
    simp only [Bool.false_eq_true, if_false, OpenC.op, FS.st, zcl]
   | true =>
    rw [hq] at key; simp only [cond_true] at key
    simp only [if_true]
    unfold zer at key; unfold zbL
    rw [hk]
    cases hc : simC P N o z.s.t z.s.h with
    | none => rw [hc] at key; cases key
    | some p =>
     obtain ⟨v, h1⟩ := p
     have hb := zkz hs hc
     rw [hc] at key; simp only [] at key
     show (match zad P (zaG N z.s.t) z.s.h o with | none => none | some (v, h) => if (h.n == z.s.h.n) = true then _ else _) = _
     rw [hb]; simp only []
     have hbe := zpQ h1.n z.s.h.n
     cases hn : Nat.beq h1.n z.s.h.n with
     | true =>
      rw [hn] at key; simp only [cond_true] at key
      rw [hbe, hn, if_pos rfl]
      cases hl : looks o with
      | true => rw [hl] at key; cases key; simp only [OpenC.op, FS.st, zcl, if_true]; rfl
      | false => rw [hl] at key; cases key; simp only [OpenC.op, FS.st, zcl, Bool.false_eq_true, if_false, cond_false]
     | false =>
      rw [hn] at key; simp only [cond_false, ziF] at key
      rw [hbe, hn, if_neg (by simp)]
      show (match h1.get? z.s.h.n with | some b => _ | none => none) = _
      cases hg : h1.get? z.s.h.n with
      | none => rw [hg] at key; cases key
      | some b => rw [hg] at key; cases key; simp only [OpenC.op, FS.st, zcl]
 | false =>
  rw [hs] at h
  simp only [cond_false] at h
  simp only [Bool.false_eq_true, if_false, hw]
  cases hq : (zcC N ops o).f z.s.t with
  | false =>
   rw [hq] at h; cases h
   simp only [Bool.false_eq_true, if_false, OpenC.op, FS.st, zcl]
  | true =>
   rw [hq] at h; simp only [cond_true] at h
   simp only [if_true]
   unfold zgi at h; unfold zcF
   obtain ⟨zs, hs, lk, nw⟩ := z
   simp only [OpenC.op] at *
   cases nw with
   | nil =>
    simp only [] at h
    have e1 : unseen (preds ops.toList) [] i = [] := rfl
    simp only [e1, hide, unhide, List.foldl_nil, List.all_nil, if_true]
    cases hc : (okC P N o).f C x zs with
    | none => rw [hc] at h; cases h
    | some p =>
     obtain ⟨d, s1⟩ := p
     have := zjD hU hc
     rw [hc] at h
     have e2 : ({ zs.st N with h := (zs.st N).h } : St) = zs.st N := rfl
     rw [e2, this]
     cases d with
     | panic c => cases h
     | val v => cases h; simp only [FS.st, zcl]
   | cons a nw =>
    simp only [] at h
    cases hc : (okC P N o).f C x { zs with h := hide (unseen (preds ops.toList) (a :: nw) i) zs.h } with
    | none => rw [hc] at h; cases h
    | some p =>
     obtain ⟨d, s1⟩ := p
     have := zjD hU hc
     rw [hc] at h
     have e2 : ({ zs.st N with h := hide (unseen (preds ops.toList) (a :: nw) i) (zs.st N).h } : St) = FS.st N { zs with h := hide (unseen (preds ops.toList) (a :: nw) i) zs.h } := rfl
     rw [e2, this]
     cases d with
     | panic c => cases h
     | val v =>
      simp only [] at h ⊢
      have e3 : (s1.st N).h = s1.h := rfl
      simp only [e3]
      cases ha : (unseen (preds ops.toList) (a :: nw) i).all (fun p => (s1.h.get? p.2.1).isSome) with
      | false => rw [ha] at h; cases h
      | true => rw [ha] at h; cases h; simp only [FS.st, zcl, if_true]
noncomputable def numbered : List Oper → Nat → List (Nat × Oper) := @List.rec Oper (fun _ => Nat → List (Nat × Oper)) (fun _ => []) (fun o _ ih i => (i, o) :: ih (i + 1))
noncomputable def zes (P : Program) (N : Nat) (ops : Array Oper) : List (Nat × Oper) → RecC → Ctx → OpenC → Option OpenC :=
 @List.rec (Nat × Oper) (fun _ => RecC → Ctx → OpenC → Option OpenC) (fun _ _ z => some z) (fun p _ ih C x z => match (zc0 P N ops p.1 p.2).f C x z with | some z => ih C x z | none => none)
theorem zkP {P : Program} {C : RecC} {R : Recs} (hU : Under P C R) {N : Nat} {x : Ctx} (ops : Array Oper) : ∀ (n i : Nat), i + n = ops.size → ∀ z z', zes P N ops (numbered (ops.toList.drop i) i) C x z = some z' → (List.range' i n).foldlM (zaI P R x ops (preds ops.toList)) (z.op ops N) = some (z'.op ops N) := by
 intro n
 induction n with
 | zero =>
  intro i hi z z' h
  rw [List.drop_eq_nil_of_le (by simp; omega)] at h
  cases h; rfl
 | succ n ih =>
  intro i hi z z' h
  have hlt : i < ops.size := by omega
  have hd : ops.toList.drop i = ops[i] :: ops.toList.drop (i + 1) := by
   rw [List.drop_eq_getElem_cons (by simpa using hlt)]; simp
  rw [hd] at h
  have h : (match (zc0 P N ops i ops[i]).f C x z with | some z => zes P N ops (numbered (ops.toList.drop (i + 1)) (i + 1)) C x z | none => none) = some z' := h
  rw [List.range'_succ, List.foldlM_cons]
  cases hc : (zc0 P N ops i ops[i]).f C x z with
  | none => rw [hc] at h; cases h
  | some z1 =>
   rw [hc] at h
   rw [zjA hU (Array.getElem?_eq_getElem hlt) hc]
   exact ih (i + 1) (by omega) _ _ h
noncomputable def zde (a b : Value) (n : Nat) : Bool := match i64Of a with | some x => (match i64Of b with | some y => eqF x y | none => same 20 a b && within 20 n b) | none => same 20 a b && within 20 n b
theorem zjn {a b : Value} {n : Nat} (h : zde a b n = true) : (same 20 a b && within 20 n b) = true := by
 unfold zde at h
 cases ha : i64Of a with
 | none => rw [ha] at h; exact h
 | some x =>
  rw [ha] at h; simp only [] at h
  cases hb : i64Of b with
  | none => rw [hb] at h; exact h
  | some y =>
   rw [hb] at h; simp only [zeJ] at h
   rw [zfj ha, zfj hb]
   have : x = y := by simpa using h
   subst this
   simp [same, within]
noncomputable def zjI (P : Program) (N : Nat) (lo hi : Nat) (l : LookC) : Nat → List Heap → Bool := fun k hs => @List.rec Heap (fun _ => Nat → Bool) (fun _ => true)
 (fun h _ ih k => bif (bif Nat.blt k lo then true else bif Nat.blt hi k then true else match (bif zaf l.o then simC P N l.o l.t h else none) with
   | some (v, h1) => zde v l.v l.n && Nat.beq h1.n h.n
   | none => false) then ih (k + 1) else false) hs k
noncomputable def zjJ (P : Program) (ops : Array Oper) (N : Nat) (hs : List Heap) (l : LookC) : Bool :=
 zjI P N (zcG ops ((preds ops.toList).getD l.i [])) (zbg ops (preds ops.toList) l.i) l 0 hs.reverse
theorem zo2 {P : Program} {N lo hi : Nat} {l : LookC} : ∀ (hs : List Heap) (k : Nat), zjI P N lo hi l k hs = true → ∀ j h, hs[j]? = some h → k + j < lo ∨ hi < k + j ∨ ∃ v h1, zad P (zaG N l.t) h l.o = some (v, h1) ∧ (same 20 v l.v && h1.n == h.n && within 20 l.n l.v) = true := by
 intro hs
 induction hs with
 | nil => intro k _ j h e; simp at e
 | cons h0 hs ih =>
  intro k hk j h e
  have hk : (bif (bif Nat.blt k lo then true else bif Nat.blt hi k then true else match (bif zaf l.o then simC P N l.o l.t h0 else none) with
   | some (v, h1) => zde v l.v l.n && Nat.beq h1.n h0.n
   | none => false) then zjI P N lo hi l (k + 1) hs else false) = true := hk
  cases hc : (bif Nat.blt k lo then true else bif Nat.blt hi k then true else match (bif zaf l.o then simC P N l.o l.t h0 else none) with
   | some (v, h1) => zde v l.v l.n && Nat.beq h1.n h0.n
   | none => false) with
  | false => rw [hc] at hk; cases hk
  | true =>
   rw [hc] at hk
   cases j with
   | succ j =>
    rcases ih (k + 1) hk j h (by simpa using e) with a | a | a
    ·left; omega
    ·right; left; omega
    ·right; right; exact a
   | zero =>
    simp only [List.getElem?_cons_zero, Option.some.injEq] at e
    subst e
    cases h1 : Nat.blt k lo with
    | true => left; have := zha h1; omega
    | false =>
     cases h2 : Nat.blt hi k with
     | true => right; left; have := zha h2; omega
     | false =>
      right; right
      rw [h1, h2] at hc; simp only [cond_false] at hc
      cases hs : zaf l.o with
      | false => rw [hs] at hc; cases hc
      | true =>
       rw [hs] at hc; simp only [cond_true] at hc
       cases hm : simC P N l.o l.t h0 with
       | none => rw [hm] at hc; cases hc
       | some p =>
        rw [hm] at hc
        exact ⟨p.1, p.2, zkz hs hm, by
         have hc : (zde p.1 l.v l.n && Nat.beq p.2.n h0.n) = true := hc
         rw [Bool.and_eq_true] at hc
         have := zjn hc.1
         rw [Bool.and_eq_true] at this
         rw [zpQ, hc.2, this.1, this.2]; rfl⟩
theorem lookC_ok {P : Program} {ops : Array Oper} {N : Nat} {hs : List Heap} {l : LookC} (h : zjJ P ops N hs l = true) : zcp P hs (l.look ops N) = true := by
 unfold zjJ at h
 unfold zcp
 rw [List.all_eq_true]
 intro k hk
 have hk : k < hs.length := List.mem_range.1 hk
 have hget : hs.reverse[k]? = hs[hs.length - 1 - k]? := List.getElem?_reverse hk
 have hlt : hs.length - 1 - k < hs.length := by omega
 have hk2 : hs[hs.length - 1 - k]? = some hs[hs.length - 1 - k] := List.getElem?_eq_getElem hlt
 rw [hk2]
 rcases zo2 _ _ h k _ (hget.trans hk2) with a | a | ⟨v, h1, a, b⟩
 ·simp only [Bool.or_eq_true]; left; left; rw [Nat.zero_add] at a; exact decide_eq_true a
 ·simp only [Bool.or_eq_true]; left; right; rw [Nat.zero_add] at a; exact decide_eq_true a
 ·simp only [Bool.or_eq_true]; right
  show (match zad P (zaG N l.t) _ l.o with | some (v, h1) => _ | none => false) = true
  rw [a]; exact b
noncomputable def zcW (P : Program) (ops : Array Oper) (N : Nat) (hs : List Heap) : List LookC → Bool := @List.rec LookC (fun _ => Bool) true (fun l _ ih => bif zjJ P ops N hs l then ih else false)
theorem zhe {P : Program} {ops : Array Oper} {N : Nat} {hs : List Heap} : ∀ ls, zcW P ops N hs ls = true → (ls.map (LookC.look ops N)).all (zcp P hs) = true := by
 intro ls
 induction ls with
 | nil => intro _; rfl
 | cons l ls ih =>
  intro h
  have h : (bif zjJ P ops N hs l then zcW P ops N hs ls else false) = true := h
  cases hc : zjJ P ops N hs l with
  | false => rw [hc] at h; cases h
  | true => rw [hc] at h; simp only [List.map_cons, List.all_cons, lookC_ok hc, Bool.true_and]; exact ih h
noncomputable def zgh (P : Program) (ops : Array Oper) (N : Nat) (r : Option OpenC) : Option (Ex × FS) :=
 match r with
 | none => none
 | some z => match z.hs with
  | [] => some (.normal, z.s)
  | [_] => some (.normal, z.s)
  | _ => bif zcW P ops N z.hs z.looks then some (.normal, z.s) else none
noncomputable def zkU (P : Program) (N : Nat) (ops : Array Oper) : Bx (RecC → Ctx → FS → Option (Ex × FS)) :=
 bif zdE ops then ⟨fun C x s => zgh P ops N (zes P N ops (numbered ops.toList 0) C x ⟨s, [s.h], [], []⟩)⟩ else ⟨fun _ _ _ => none⟩
theorem zl7 {P : Program} {C : RecC} {R : Recs} (hU : Under P C R) {N : Nat} {x : Ctx} {ops : Array Oper} {s s' : FS} {e : Ex} (h : (zkU P N ops).f C x s = some (e, s')) : zb3 P R x ops (s.st N) = some (e, s'.st N) := by
 unfold zkU at h; unfold zb3
 cases hk : zdE ops with
 | false => rw [hk] at h; cases h
 | true =>
  rw [hk] at h; simp only [cond_true] at h
  rw [if_pos rfl]
  unfold zgh at h
  cases hc : zes P N ops (numbered ops.toList 0) C x ⟨s, [s.h], [], []⟩ with
  | none => rw [hc] at h; cases h
  | some z =>
   rw [hc] at h; simp only [] at h
   have hq := zkP hU ops ops.size 0 (by omega) ⟨s, [s.h], [], []⟩ z (by simpa using hc)
   rw [List.range_eq_range']
   have e0 : ({ s := s.st N, hs := [(s.st N).h], looks := [], news := [] } : Open) = OpenC.op ops N ⟨s, [s.h], [], []⟩ := rfl
   rw [e0, hq]
   have fin : (z.hs.length ≤ 1 ∨ zcW P ops N z.hs z.looks = true) ∧ (e, s') = (Ex.normal, z.s) := by
    revert h
    cases hz : z.hs with
    | nil => intro h; cases h; exact ⟨.inl (by simp), rfl⟩
    | cons a l =>
     cases l with
     | nil => intro h; cases h; exact ⟨.inl (by simp), rfl⟩
     | cons b l =>
      intro h; simp only [] at h
      cases ha : zcW P ops N (a :: b :: l) z.looks with
      | false => rw [ha] at h; cases h
      | true => rw [ha] at h; cases h; exact ⟨.inr rfl, rfl⟩
   obtain ⟨h1, h2⟩ := fin
   cases h2
   have hcond : (decide ((z.op ops N).hs.length ≤ 1) || (z.op ops N).looks.all (zcp P (z.op ops N).hs)) = true := by
    rw [Bool.or_eq_true]
    rcases h1 with h1 | h1
    ·left; exact decide_eq_true h1
    ·right; exact zhe _ h1
   show (if (decide ((z.op ops N).hs.length ≤ 1) || (z.op ops N).looks.all (zcp P (z.op ops N).hs)) = true then some (Ex.normal, (z.op ops N).s) else none) = _
   rw [hcond]; rfl
end Go.AX

namespace Go.AX
noncomputable def condC (C : RecC) (x : Ctx) (v : Value) (a b : Code) (s : FS) : Option (Ex × FS) := match v with | .bool t => C.code x (bif t then a else b) s | _ => none
noncomputable def thenC (C : RecC) (x : Ctx) (b : Code) (r : Option (Ex × FS)) : Option (Ex × FS) := match r with | some (.normal, s) => C.code x b s | r => r
noncomputable def blockC (id : Nat) (r : Option (Ex × FS)) : Option (Ex × FS) := match r with | some (.exit i, s) => bif Nat.beq i id then some (.normal, s) else some (.exit i, s) | r => r
noncomputable def zoC (P : Program) (N : Nat) (C : RecC) (x : Ctx) (s : FS) (f : Operand) (params : Array Tmp) (assign body : Code) : Option (Ex × FS) :=
 match zcf x (s.st N) params assign body with
 | none => none
 | some (l, mark, h) =>
  bif opOK P f then
  match zbd P ((evC N f).f s.t) #[.func (.yield l) #[] #[]] with
  | some (.enter g args) =>
   match C.call g args false .run h with
   | some (.ret _, _, h) =>
    match zct h l with
    | some r =>
     bif r.state == .busy then none else
     match r.pending with
     | none => some (.normal, { s with df := mark ++ s.df, h := h.set l (.obj (.loop { r with state := .exhausted })) })
     | some c => C.code x c { s with df := mark ++ s.df, h := h.set l (.obj (.loop { r with state := .exhausted })) }
    | none => none
   | some (.panic c, _, h) => some (.panic c, { s with df := mark ++ s.df, h })
   | none => none
  | _ => none
  else none
theorem zoB {P : Program} {C : RecC} {R : Recs} (hU : Under P C R) {x : Ctx} {s s' : FS} {e : Ex} {f : Operand} {params : Array Tmp} {assign body : Code} (h : zoC P (nOf P x.fn) C x s f params assign body = some (e, s')) :
  zbx P R x (s.st (nOf P x.fn)) f params assign body = some (e, s'.st (nOf P x.fn)) := by
 unfold zoC at h; unfold zbx
 cases he : zcf x (s.st (nOf P x.fn)) params assign body with
 | none => rw [he] at h; cases h
 | some p =>
  obtain ⟨l, mark, h1⟩ := p
  rw [he] at h; simp only [] at h ⊢
  cases hk : opOK P f with
  | false => rw [hk] at h; cases h
  | true =>
   rw [hk] at h; simp only [cond_true, zbT] at h
   simp only [Bool.not_true, Bool.false_eq_true, if_false]
   show (match zbd P (ev (zaG (nOf P x.fn) s.t) f) #[.func (.yield l) #[] #[]] with | some (.enter g args) => _ | _ => none) = _
   cases hv : zbd P (ev (zaG (nOf P x.fn) s.t) f) #[.func (.yield l) #[] #[]] with
   | none => rw [hv] at h; cases h
   | some out =>
    rw [hv] at h
    cases out with
    | enter g args =>
     simp only [] at h ⊢
     cases hc : C.call g args false .run h1 with
     | none => rw [hc] at h; cases h
     | some q =>
      rw [hU.call _ _ _ _ _ _ hc]
      rw [hc] at h
      obtain ⟨e1, u, h2⟩ := q
      cases e1 with
      | panic c => cases h; rfl
      | ret v =>
       simp only [] at h ⊢
       cases hl : zct h2 l with
       | none => rw [hl] at h; cases h
       | some r =>
        rw [hl] at h; simp only [] at h ⊢
        cases hb : (r.state == .busy) with
        | true => rw [hb] at h; cases h
        | false =>
         rw [hb] at h; simp only [cond_false] at h
         simp only [Bool.false_eq_true, if_false]
         cases hp : r.pending with
         | none => rw [hp] at h; cases h; rfl
         | some c => rw [hp] at h; exact hU.code _ _ _ _ _ h
    | _ => cases h
noncomputable def zj5 (P : Program) (C : RecC) (x : Ctx) (c : Code) (s : FS) : Option (Ex × FS) :=
 match c with
 | .skip | .label _ => some (.normal, s)
 | .region _ ops draw => bif draw then (zkU P (nOf P x.fn) ops).f C x s else seqC P (nOf P x.fn) ops ops.toList C x s
 | .seq a b => thenC C x b (C.code x a s)
 | .cond c a b => condC C x ((evC (nOf P x.fn) c).f s.t) a b s
 | .block id b => blockC id (C.code x b s)
 | .loop b => thenC C x (.loop b) (C.code x b s)
 | .scope b => C.code x b s
 | .exit id => some (.exit id, s)
 | .ret => some (.ret, s)
 | .rangeFunc f params assign body => zoC P (nOf P x.fn) C x s f params assign body
 | .goto _ | .refuse _ => none
theorem zpC {P : Program} {C : RecC} {R : Recs} (hU : Under P C R) (x : Ctx) (c : Code) (s : FS) (e : Ex) (s' : FS) (h : zj5 P C x c s = some (e, s')) : zbS P R x c (s.st (nOf P x.fn)) = some (e, s'.st (nOf P x.fn)) := by
 have then_ok : ∀ a b, thenC C x b (C.code x a s) = some (e, s') → (match R.code x a (s.st (nOf P x.fn)) with | some (.normal, s) => R.code x b s | r => r) = some (e, s'.st (nOf P x.fn)) := by
  intro a b h
  cases hc : C.code x a s with
  | none => rw [hc] at h; cases h
  | some p =>
   obtain ⟨e1, s1⟩ := p
   rw [hU.code _ _ _ _ _ hc]; rw [hc] at h
   cases e1 with
   | normal => exact hU.code _ _ _ _ _ h
   | _ => cases h; rfl
 cases c with
 | skip => cases h; rfl
 | label l => cases h; rfl
 | region id ops draw =>
  simp only [zj5] at h; simp only [zbS]
  cases draw with
  | true => exact zl7 hU h
  | false =>
   simp only [Bool.false_eq_true, if_false]
   rw [List.range_eq_range']
   exact seqC_ok hU ops ops.size 0 (by omega) _ _ _ h
 | seq a b => exact then_ok a b h
 | cond c a b =>
  simp only [zj5, zbT] at h; simp only [zbS]
  show (match ev (zaG (nOf P x.fn) s.t) c with | .bool t => R.code x (if t then a else b) (s.st (nOf P x.fn)) | _ => none) = _
  unfold condC at h
  cases hv : ev (zaG (nOf P x.fn) s.t) c with
  | bool t => rw [hv] at h; simp only [cond_eq_ite] at h; exact hU.code _ _ _ _ _ h
  | _ => rw [hv] at h; cases h
 | block id b =>
  simp only [zj5] at h; simp only [zbS]
  cases hc : C.code x b s with
  | none => rw [hc] at h; cases h
  | some p =>
   obtain ⟨e1, s1⟩ := p
   rw [hU.code _ _ _ _ _ hc]; rw [hc] at h
   cases e1 with
   | exit i =>
    simp only [blockC, cond_eq_ite, Nat.beq_eq] at h ⊢
    by_cases hi : i = id
    ·rw [if_pos hi] at h ⊢; cases h; rfl
    ·rw [if_neg hi] at h ⊢; cases h; rfl
   | _ => cases h; rfl
 | loop b => exact then_ok b (.loop b) h
 | scope b => exact hU.code _ _ _ _ _ h
 | exit id => cases h; rfl
 | ret => cases h; rfl
 | rangeFunc f params assign body => exact zoB hU h
 | goto l => cases h
 | refuse w => cases h
noncomputable def zdd (C : RecC) : Recs := ⟨fun _ _ _ => none, C.call, C.round⟩
theorem zfC {P : Program} {R R' : Recs} (hc : ∀ f args d u h r, R.call f args d u h = some r → R'.call f args d u h = some r) {fn : Func} {tm : Array Value} : ∀ (ds : List Deferred) (u : FrameMode) (h : Heap) r, zaY P R fn tm ds u h = some r → zaY P R' fn tm ds u h = some r := by
 intro ds
 induction ds with
 | nil => intro u h r e; cases u <;> simpa only [zaY] using e
 | cons d ds ih =>
  intro u h r e
  unfold zaY at e ⊢
  cases hu : znt u with
  | true => rw [hu] at e; cases e
  | false =>
   rw [hu] at e
   simp only [Bool.false_eq_true, if_false] at e ⊢
   cases ht : d.target with
   | collected rr =>
    rw [ht] at e; simp only [] at e ⊢
    split at e
    ·rename_i hg; exact ih _ _ _ e
    ·cases e
   | fn f captured =>
    rw [ht] at e
    cases f with
    | func g =>
     simp only [] at e ⊢
     cases hf : zcb P g (d.args ++ captured) with
     | none => rw [hf] at e; cases e
     | some out =>
      rw [hf] at e
      cases out with
      | enter g args =>
       simp only [] at e ⊢
       cases hr : R.call g args true u h with
       | none => rw [hr] at e; cases e
       | some q =>
        rw [hc _ _ _ _ _ _ hr]; rw [hr] at e
        obtain ⟨e1, u1, h1⟩ := q
        cases e1 with
        | ret v => exact ih _ _ _ e
        | panic c => exact ih _ _ _ e
      | _ => cases e
    | _ => cases e
   | _ => rw [ht] at e; cases e
noncomputable def resL (P : Program) (N : Nat) : List ResultVar → Vt → Heap → Option (List Value) :=
 @List.rec ResultVar (fun _ => Vt → Heap → Option (List Value)) (fun _ _ => some []) (fun r _ ih t h => match (match r with | .tmp a => some ((evC N (.tmp a)).f t) | .cell a ty => ze9 P ty h ((evC N (.tmp a)).f t)) with
  | some v => match ih t h with | some vs => some (v :: vs) | none => none
  | none => none)
theorem resL_eq (P : Program) (N : Nat) (rs : List ResultVar) (t : Vt) (h : Heap) : resL P N rs t h = rs.mapM (zcI P (zaG N t) h) := by
 induction rs with
 | nil => rfl
 | cons r rs ih =>
  show (match (match r with | .tmp a => some ((evC N (.tmp a)).f t) | .cell a ty => ze9 P ty h ((evC N (.tmp a)).f t)) with
   | some v => match resL P N rs t h with | some vs => some (v :: vs) | none => none
   | none => none) = _
  rw [List.mapM_cons, ih]
  have e : (match r with | .tmp a => some ((evC N (.tmp a)).f t) | .cell a ty => ze9 P ty h ((evC N (.tmp a)).f t)) = zcI P (zaG N t) h r := by
   cases r with
   | tmp a => simp only [zbT]; rfl
   | cell a ty => simp only [zbT, zin, zim]; rfl
  rw [e]
  cases zcI P (zaG N t) h r with
  | none => rfl
  | some v => cases List.mapM (zcI P (zaG N t) h) rs <;> rfl
noncomputable def zgk (r : Option (List Value)) : Option Value := match r with | some [v] => some v | some vs => some (.tuple ⟨vs⟩) | none => none
theorem zoy (P : Program) (N : Nat) (fn : Func) (t : Vt) (h : Heap) : zgk (resL P N fn.results.toList t h) = zcw P fn (zaG N t) h := by
 unfold zcw
 rw [resL_eq]
 cases fn.results.toList.mapM (zcI P (zaG N t) h) with
 | none => rfl
 | some vs => match vs with
  | [] => rfl
  | [v] => rfl
  | a :: b :: l => rfl
noncomputable def retC (u : FrameMode) (h : Heap) (r : Option Value) : Option (End × FrameMode × Heap) := match r with | some v => some (.ret v, u, h) | none => none
noncomputable def endC (u : FrameMode) (r : Option (End × Heap)) : Option (End × FrameMode × Heap) := match r with | some (e, h) => some (e, u, h) | none => none
noncomputable def zmh (P : Program) (C : RecC) (fn : Func) (N : Nat) (s : FS) : Option (End × FrameMode × Heap) :=
 match s.df with
 | [] => retC s.up s.h (zgk (resL P N fn.results.toList s.t s.h))
 | _ :: _ => endC s.up (zaY P (zdd C) fn (zaG N s.t) s.df .returning s.h)
noncomputable def leftC (P : Program) (C : RecC) (fn : Func) (N : Nat) (r : Option (Ex × FS)) : Option (End × FrameMode × Heap) :=
 match r with
 | some (.normal, s) => zmh P C fn N s
 | some (.ret, s) => zmh P C fn N s
 | some (.panic ch, s) => endC s.up (zaY P (zdd C) fn (zaG N s.t) s.df (.panicking ch) s.h)
 | _ => none
theorem zjM {P : Program} {C : RecC} {R : Recs} (hU : Under P C R) {fn : Func} {N : Nat} {s : FS} {r : End × FrameMode × Heap} (h : zmh P C fn N s = some r) : (zaY P R fn (zaG N s.t) s.df .returning s.h).map (fun p => (p.1, s.up, p.2)) = some r := by
 unfold zmh at h
 cases hd : s.df with
 | nil =>
  rw [hd] at h; simp only [zoy] at h
  unfold zaY
  cases hr : zcw P fn (zaG N s.t) s.h with
  | none => rw [hr] at h; cases h
  | some v => rw [hr] at h; cases h; rfl
 | cons d ds =>
  rw [hd] at h; simp only [] at h
  cases hl : zaY P (zdd C) fn (zaG N s.t) (d :: ds) .returning s.h with
  | none => rw [hl] at h; cases h
  | some p => rw [zfC (R := zdd C) (R' := R) hU.call _ _ _ _ hl]; rw [hl] at h; cases h; rfl
noncomputable def bodyC (P : Program) (f : FuncId) : Bx (RecC → Array Value → Bool → FrameMode → Heap → Option (End × FrameMode × Heap)) :=
 match P.funcs[f]? with
 | none => ⟨fun _ _ _ _ _ => none⟩
 | some fn => match fn.body with
  | none => ⟨fun _ _ _ _ _ => none⟩
  | some c => ⟨fun C args dfr up h => bif Nat.ble (lenL args.toList) fn.ntmps then leftC P C fn (nOf P f) (C.code { fn := f, round := none, dfr } c ⟨zc3 args.toList 0 .nil, [], up, h⟩) else none⟩
noncomputable def zpK (P : Program) (K : Known) (C : RecC) (f : FuncId) (args : Array Value) (dfr : Bool) (up : FrameMode) (h : Heap) : Option (End × FrameMode × Heap) :=
 match (bif dfr then none else K f args h) with
 | some r => some (.ret r.1, up, zdv h r.2)
 | none => (bodyC P f).f C args dfr up h
theorem zpJ {P : Program} {K : Known} {C : RecC} {R : Recs} (hU : Under P C R) (f : FuncId) (args : Array Value) (dfr : Bool) (up : FrameMode) (h : Heap) (r : End × FrameMode × Heap) (e : zpK P K C f args dfr up h = some r) : zdz P K R f args dfr up h = some r := by
 rw [← zg7]
 unfold zpK at e; unfold zh5
 cases hk : (bif dfr then none else K f args h) with
 | some q => rw [hk] at e; exact e
 | none =>
  rw [hk] at e; simp only [] at e ⊢
  unfold bodyC at e; unfold bodyF
  cases hf : P.funcs[f]? with
  | none => rw [hf] at e; cases e
  | some fn =>
   rw [hf] at e; simp only [] at e ⊢
   cases hb : fn.body with
   | none => rw [hb] at e; cases e
   | some c =>
    rw [hb] at e; simp only [zc4] at e ⊢
    cases hl : Nat.ble args.toList.length fn.ntmps with
    | false => rw [hl] at e; cases e
    | true =>
     rw [hl] at e; simp only [cond_true] at e
     have hN : nOf P f = fn.ntmps := by unfold nOf; rw [hf]
     have htm : (⟨zeY args.toList (undefs (fn.ntmps - args.size))⟩ : Array Value) = zaG (nOf P f) (zc3 args.toList 0 .nil) := by
      rw [zdc _ _ (by rw [hN]; exact Nat.le_of_ble_eq_true hl), hN]
      apply Array.ext'; simp [zez, zgr]
     rw [htm]
     cases hc : C.code { fn := f, round := none, dfr } c ⟨zc3 args.toList 0 .nil, [], up, h⟩ with
     | none => rw [hc] at e; cases e
     | some p =>
      obtain ⟨ex, s1⟩ := p
      have := hU.code _ _ _ _ _ hc
      simp only [FS.st] at this
      rw [this]; rw [hc] at e
      unfold leftF
      cases ex with
      | normal => exact zjM hU e
      | ret => exact zjM hU e
      | exit i => cases e
      | panic ch =>
       simp only [leftC] at e
       cases hl : zaY P (zdd C) fn (zaG (nOf P f) s1.t) s1.df (.panicking ch) s1.h with
       | none => rw [hl] at e; cases e
       | some p => rw [hl] at e; simp only [zfC (R := zdd C) (R' := R) hU.call _ _ _ _ hl]; cases e; rfl
noncomputable def zif (N : Nat) : List (Tmp × Value) → Vt → Vt := @List.rec (Tmp × Value) (fun _ => Vt → Vt) (fun t => t) (fun p _ ih t => ih ((putC N (some p.1)).f t p.2))
theorem zlV (N : Nat) (l : List (Tmp × Value)) : ∀ t, zaG N (zif N l t) = l.foldl (fun tm p => tm.setIfInBounds p.1 p.2) (zaG N t) := by
 induction l with
 | nil => intro t; rfl
 | cons p l ih => intro t; show zaG N (zif N l ((putC N (some p.1)).f t p.2)) = _; rw [ih, zcl]; rfl
noncomputable def roundEnd (l : Nat) (r : Option (Ex × FS)) (ok : Bool) : Option (End × Heap) :=
 match r with
 | some (.normal, s) => zbW l none s.h
 | some (.ret, s) => zbW l (some .ret) s.h
 | some (.exit id, s) => zbW l (some (.exit id)) s.h
 | some (.panic c, s) => if s.df.isEmpty && ok then some (.panic c, s.h) else none
 | none => none
noncomputable def zov (P : Program) (C : RecC) (l : Nat) (args : Array Value) (h : Heap) : Option (End × Heap) :=
 match zct h l with
 | none => none
 | some r0 =>
  bif Nat.beq (lenL args.toList) r0.params.size then
  bif Nat.beq (lenL r0.tmps.toList) (nOf P r0.fn) then
  match C.code { fn := r0.fn, round := some l, dfr := false } r0.assign ⟨zif (nOf P r0.fn) (r0.params.toList.zip args.toList) (zc3 r0.tmps.toList 0 .nil), [], .run, h⟩ with
  | some (.normal, s) =>
   match zct s.h l with
   | some r1 => bif r1.state == .ready then roundEnd l (C.code { fn := r0.fn, round := some l, dfr := false } r0.body { s with h := s.h.set l (.obj (.loop { r1 with state := .busy })) }) (P.funcs[r0.fn]?).isSome else none
   | none => none
  | _ => none
  else none
  else none
theorem zou {P : Program} {C : RecC} {R : Recs} (hU : Under P C R) (l : Nat) (args : Array Value) (h : Heap) (r : End × Heap) (e : zov P C l args h = some r) : zcZ P R l args h = some r := by
 unfold zov at e; unfold zcZ
 cases hl : zct h l with
 | none => rw [hl] at e; cases e
 | some r0 =>
  rw [hl] at e; simp only [zc4] at e ⊢
  cases h1 : Nat.beq args.toList.length r0.params.size with
  | false => rw [h1] at e; cases e
  | true =>
   rw [h1] at e; simp only [cond_true] at e
   have h1' : args.size = r0.params.size := Nat.eq_of_beq_eq_true h1
   rw [if_neg (by rw [h1']; simp)]
   cases h2 : Nat.beq r0.tmps.toList.length (nOf P r0.fn) with
   | false => rw [h2] at e; cases e
   | true =>
    rw [h2] at e; simp only [cond_true] at e
    have h2' : r0.tmps.toList.length = nOf P r0.fn := Nat.eq_of_beq_eq_true h2
    have htm : (r0.params.zip args).foldl (fun tm (t, a) => tm.setIfInBounds t a) r0.tmps = zaG (nOf P r0.fn) (zif (nOf P r0.fn) (r0.params.toList.zip args.toList) (zc3 r0.tmps.toList 0 .nil)) := by
     rw [zlV, zdc _ _ (by omega), h2', Nat.sub_self]
     rw [← Array.foldl_toList, Array.toList_zip]
     congr 1
    rw [htm]
    cases hc : C.code { fn := r0.fn, round := some l, dfr := false } r0.assign ⟨zif (nOf P r0.fn) (r0.params.toList.zip args.toList) (zc3 r0.tmps.toList 0 .nil), [], .run, h⟩ with
    | none => rw [hc] at e; cases e
    | some p =>
     obtain ⟨ex, s⟩ := p
     have := hU.code _ _ _ _ _ hc
     simp only [FS.st] at this
     rw [this]; rw [hc] at e
     cases ex with
     | normal =>
      simp only [] at e ⊢
      cases hl1 : zct s.h l with
      | none => rw [hl1] at e; cases e
      | some r1 =>
       rw [hl1] at e; simp only [] at e ⊢
       cases hb : (r1.state == .ready) with
       | false => rw [hb] at e; cases e
       | true =>
        rw [hb] at e; simp only [cond_true] at e
        simp only [if_true]
        cases hd : C.code { fn := r0.fn, round := some l, dfr := false } r0.body { s with h := s.h.set l (.obj (.loop { r1 with state := .busy })) } with
        | none => rw [hd] at e; cases e
        | some q =>
         obtain ⟨ex2, s2⟩ := q
         have := hU.code _ _ _ _ _ hd
         simp only [FS.st] at this
         rw [this]; rw [hd] at e
         cases ex2 <;> exact e
     | _ => cases e
noncomputable def runC (P : Program) (K : Known) : Nat → RecC := @Nat.rec (fun _ => RecC) zl9 (fun _ C => { code := zj5 P C, call := zpK P K C, round := zov P C })
theorem runC_under (P : Program) (K : Known) : ∀ n, Under P (runC P K n) (run P K n) := by
 intro n
 induction n with
 | zero => exact zgQ P
 | succ n ih =>
  exact ⟨fun x c s e s' h => zpC ih x c s e s' h, fun f args d u h r e => zpJ ih f args d u h r e, fun l args h r e => zou ih l args h r e⟩
end Go.AX

namespace Go.AX
structure RecK where
 call : FuncId → Array Value → Bool → FrameMode → Heap → Option (End × FrameMode × Heap)
 round : Nat → Array Value → Heap → Option (End × Heap)
structure Rest where
 df : List Deferred
 up : FrameMode
noncomputable def toC (C : RecK) : RecC := ⟨fun _ _ _ => none, C.call, C.round⟩
section
open Classical in
noncomputable def lim (P : Program) (K : Known) : Recs where
 code := fun _ _ _ => none
 call := fun f a d u h => if e : ∃ r m, (run P K m).call f a d u h = some r then some e.choose else none
 round := fun l a h => if e : ∃ r m, (run P K m).round l a h = some r then some e.choose else none
end
theorem zik {P : Program} {K : Known} {m n : Nat} {f : FuncId} {a : Array Value} {d : Bool} {u : FrameMode} {h : Heap} {r r' : End × FrameMode × Heap} (e : (run P K m).call f a d u h = some r) (e' : (run P K n).call f a d u h = some r') : r = r' := by
 have h1 := (zaM P K (Nat.le_max_left m n)).call _ _ _ _ _ _ e
 have h2 := (zaM P K (Nat.le_max_right m n)).call _ _ _ _ _ _ e'
 rw [h1] at h2; exact Option.some.inj h2
theorem zht {P : Program} {K : Known} {m n : Nat} {l : Nat} {a : Array Value} {h : Heap} {r r' : End × Heap} (e : (run P K m).round l a h = some r) (e' : (run P K n).round l a h = some r') : r = r' := by
 have h1 := (zaM P K (Nat.le_max_left m n)).round _ _ _ _ e
 have h2 := (zaM P K (Nat.le_max_right m n)).round _ _ _ _ e'
 rw [h1] at h2; exact Option.some.inj h2
theorem zmf {P : Program} {K : Known} {m : Nat} {f : FuncId} {a : Array Value} {d : Bool} {u : FrameMode} {h : Heap} {r : End × FrameMode × Heap} (e : (run P K m).call f a d u h = some r) : (lim P K).call f a d u h = some r := by
 have ex : ∃ r m, (run P K m).call f a d u h = some r := ⟨r, m, e⟩
 simp only [lim, dif_pos ex]
 obtain ⟨m', h'⟩ := ex.choose_spec
 rw [zik h' e]
theorem zmC {P : Program} {K : Known} {f : FuncId} {a : Array Value} {d : Bool} {u : FrameMode} {h : Heap} {r : End × FrameMode × Heap} (e : (lim P K).call f a d u h = some r) : ∃ m, (run P K m).call f a d u h = some r := by
 simp only [lim] at e
 split at e
 ·rename_i ex; cases e; exact ex.choose_spec
 ·cases e
theorem zo5 {P : Program} {K : Known} {m : Nat} {l : Nat} {a : Array Value} {h : Heap} {r : End × Heap} (e : (run P K m).round l a h = some r) : (lim P K).round l a h = some r := by
 have ex : ∃ r m, (run P K m).round l a h = some r := ⟨r, m, e⟩
 simp only [lim, dif_pos ex]
 obtain ⟨m', h'⟩ := ex.choose_spec
 rw [zht h' e]
theorem zor {P : Program} {K : Known} {l : Nat} {a : Array Value} {h : Heap} {r : End × Heap} (e : (lim P K).round l a h = some r) : ∃ m, (run P K m).round l a h = some r := by
 simp only [lim] at e
 split at e
 ·rename_i ex; cases e; exact ex.choose_spec
 ·cases e
theorem zmw {P : Program} {K : Known} {x : Ctx} {s : St} {o : Oper} {r : Did × St} (h : doOp P (lim P K) x s o = some r) : ∃ m, doOp P (run P K m) x s o = some r := by
 unfold doOp at h ⊢
 cases hk : zal P o with
 | false => rw [hk] at h; exact absurd h (by simp)
 | true =>
  rw [hk] at h
  simp only [Bool.not_true, Bool.false_eq_true, if_false] at h ⊢
  cases hs : zad P s.tm s.h o with
  | some p => rw [hs] at h; exact ⟨0, h⟩
  | none =>
   rw [hs] at h; simp only [] at h ⊢
   cases hi : zaf o with
   | true => rw [hi] at h; exact absurd h (by simp)
   | false =>
    rw [hi] at h
    simp only [Bool.false_eq_true, if_false] at h ⊢
    cases he : zbA P s.tm s.h o with
    | none => rw [he] at h; cases h
    | some p =>
     obtain ⟨q, h1⟩ := p
     rw [he] at h
     cases q with
     | enter f args =>
      simp only [] at h ⊢
      cases hc : (lim P K).call f args false .run h1 with
      | none => rw [hc] at h; cases h
      | some a =>
       obtain ⟨m, hm⟩ := zmC hc
       exact ⟨m, by rw [hm]; rw [hc] at h; exact h⟩
     | round l args =>
      simp only [] at h ⊢
      cases hc : (lim P K).round l args h1 with
      | none => rw [hc] at h; cases h
      | some a =>
       obtain ⟨m, hm⟩ := zor hc
       exact ⟨m, by rw [hm]; rw [hc] at h; exact h⟩
     | _ => exact ⟨0, h⟩
theorem zjx {P : Program} {K : Known} {x : Ctx} {ops : Array Oper} {ps : List (List Nat)} {z z' : Open} {i : Nat} (h : zaI P (lim P K) x ops ps z i = some z') : ∃ m, zaI P (run P K m) x ops ps z i = some z' := by
 unfold zaI at h ⊢
 cases ho : ops[i]? with
 | none => rw [ho] at h; cases h
 | some o =>
  rw [ho] at h; simp only [] at h ⊢
  cases hs : zaf o with
  | true => rw [hs] at h; exact ⟨0, h⟩
  | false =>
   rw [hs] at h; simp only [Bool.false_eq_true, if_false] at h ⊢
   cases hw : zbr ops z.s.tm o with
   | false => rw [hw] at h; exact ⟨0, h⟩
   | true =>
    rw [hw] at h; simp only [if_true] at h ⊢
    unfold zcF at h ⊢
    cases hd : doOp P (lim P K) x { z.s with h := hide (unseen ps z.news i) z.s.h } o with
    | none => rw [hd] at h; cases h
    | some p =>
     obtain ⟨m, hm⟩ := zmw hd
     exact ⟨m, by rw [hm]; rw [hd] at h; exact h⟩
theorem zjX {P : Program} {K : Known} {x : Ctx} {ops : Array Oper} {ps : List (List Nat)} : ∀ (l : List Nat) (z z' : Open), l.foldlM (zaI P (lim P K) x ops ps) z = some z' → ∃ m, l.foldlM (zaI P (run P K m) x ops ps) z = some z' := by
 intro l
 induction l with
 | nil => intro z z' h; exact ⟨0, h⟩
 | cons i l ih =>
  intro z z' h
  rw [List.foldlM_cons] at h
  cases hc : zaI P (lim P K) x ops ps z i with
  | none => rw [hc] at h; cases h
  | some z1 =>
   rw [hc] at h
   obtain ⟨m1, h1⟩ := zjx hc
   obtain ⟨m2, h2⟩ := ih z1 z' h
   refine ⟨max m1 m2, ?_⟩
   rw [List.foldlM_cons, zcE (zaM P K (Nat.le_max_left m1 m2)) h1]
   exact zeV (fun _ _ _ e => zcE (zaM P K (Nat.le_max_right m1 m2)) e) _ _ _ h2
theorem zkS {P : Program} {K : Known} {x : Ctx} {ops : Array Oper} {s : St} {r : Ex × St} (h : zb3 P (lim P K) x ops s = some r) : ∃ m, zb3 P (run P K m) x ops s = some r := by
 unfold zb3 at h ⊢
 cases hk : zdE ops with
 | false => rw [hk] at h; exact absurd h (by simp)
 | true =>
  rw [hk] at h; simp only [if_true] at h ⊢
  cases hc : (List.range ops.size).foldlM (zaI P (lim P K) x ops (preds ops.toList)) { s, hs := [s.h], looks := [], news := [] } with
  | none => rw [hc] at h; cases h
  | some z =>
   obtain ⟨m, hm⟩ := zjX _ _ _ hc
   exact ⟨m, by rw [hm]; rw [hc] at h; exact h⟩
theorem znr {P : Program} {K : Known} {fn : Func} {tm : Array Value} : ∀ (ds : List Deferred) (u : FrameMode) (h : Heap) r, zaY P (lim P K) fn tm ds u h = some r → ∃ m, zaY P (run P K m) fn tm ds u h = some r := by
 intro ds
 induction ds with
 | nil => intro u h r e; exact ⟨0, by cases u <;> simpa only [zaY] using e⟩
 | cons d ds ih =>
  intro u h r e
  unfold zaY at e ⊢
  cases hu : znt u with
  | true => rw [hu] at e; cases e
  | false =>
   rw [hu] at e
   simp only [Bool.false_eq_true, if_false] at e ⊢
   cases ht : d.target with
   | collected rr =>
    rw [ht] at e; simp only [] at e ⊢
    split at e
    ·rename_i hg; exact ih _ _ _ e
    ·cases e
   | fn f captured =>
    rw [ht] at e
    cases f with
    | func g =>
     simp only [] at e ⊢
     cases hf : zcb P g (d.args ++ captured) with
     | none => rw [hf] at e; cases e
     | some out =>
      rw [hf] at e
      cases out with
      | enter g args =>
       simp only [] at e ⊢
       cases hr : (lim P K).call g args true u h with
       | none => rw [hr] at e; cases e
       | some q =>
        rw [hr] at e
        obtain ⟨m1, h1⟩ := zmC hr
        obtain ⟨e1, u1, h2⟩ := q
        cases e1 with
        | ret v =>
         obtain ⟨m2, h3⟩ := ih _ _ _ e
         refine ⟨max m1 m2, ?_⟩
         rw [(zaM P K (Nat.le_max_left m1 m2)).call _ _ _ _ _ _ h1]
         exact zcK (zaM P K (Nat.le_max_right m1 m2)) _ _ _ _ h3
        | panic c =>
         obtain ⟨m2, h3⟩ := ih _ _ _ e
         refine ⟨max m1 m2, ?_⟩
         rw [(zaM P K (Nat.le_max_left m1 m2)).call _ _ _ _ _ _ h1]
         exact zcK (zaM P K (Nat.le_max_right m1 m2)) _ _ _ _ h3
      | _ => cases e
    | _ => cases e
   | _ => rw [ht] at e; cases e
structure OkK (P : Program) (K : Known) (C : RecK) : Prop where
 call : ∀ f a d u h r, C.call f a d u h = some r → ∃ m, (run P K m).call f a d u h = some r
 round : ∀ l a h r, C.round l a h = some r → ∃ m, (run P K m).round l a h = some r
theorem OkK.under {P : Program} {K : Known} {C : RecK} (hC : OkK P K C) : Under P (toC C) (lim P K) :=
 ⟨fun _ _ _ _ _ h => (by cases h), fun _ _ _ _ _ _ h => (by obtain ⟨m, hm⟩ := hC.call _ _ _ _ _ _ h; exact zmf hm), fun _ _ _ _ h => (by obtain ⟨m, hm⟩ := hC.round _ _ _ _ h; exact zo5 hm)⟩
section
variable {β : Type}
noncomputable def zcn (r : Option Value) (k : Value → Option β) : Option β := @Option.rec Value (fun _ => Option β) none k r
noncomputable def znl (r : Option (Value × Heap)) (k : Value × Heap → Option β) : Option β := @Option.rec (Value × Heap) (fun _ => Option β) none k r
noncomputable def heapK (r : Option Heap) (k : Heap → Option β) : Option β := @Option.rec Heap (fun _ => Option β) none k r
noncomputable def finK (p : Bx (Vt → Value → Vt)) (res : Option (Did × FS)) (kn : Vt → Heap → Rest → Option β) (ke : Ex → Vt → Heap → Rest → Option β) : Option β :=
 match res with
 | some (.val v, s) => kn (p.f s.t v) s.h ⟨s.df, s.up⟩
 | some (.panic c, s) => ke (.panic c) s.t s.h ⟨s.df, s.up⟩
 | none => none
noncomputable def zmD (p : Bx (Vt → Value → Vt)) (t : Vt) (r : Rest) (res : Option (End × FrameMode × Heap)) (kn : Vt → Heap → Rest → Option β) (ke : Ex → Vt → Heap → Rest → Option β) : Option β :=
 match res with
 | some (.ret v, _, h) => kn (p.f t v) h r
 | some (.panic c, _, h) => ke (.panic c) t h r
 | none => none
abbrev KOp (β : Type) := RecK → Ctx → Vt → Heap → Rest → (Vt → Heap → Rest → Option β) → (Ex → Vt → Heap → Rest → Option β) → Option β
noncomputable def genK (P : Program) (N : Nat) (o : Oper) (C : RecK) (x : Ctx) (t : Vt) (h : Heap) (r : Rest) (kn : Vt → Heap → Rest → Option β) (ke : Ex → Vt → Heap → Rest → Option β) : Option β :=
 finK (putC N o.dst) ((opC P N o).f (toC C) x ⟨t, r.df, r.up, h⟩) kn ke
noncomputable def binK (P : Program) (N : Nat) (o : Oper) (op : BinOp) (ty : TypeId) (a b : Operand) (t : Vt) : Option Value :=
 match (binV op).f ((evC N a).f t) ((evC N b).f t) with
 | some v => some v
 | none => binF P (zaG N t) o op ty a b
noncomputable def unK (P : Program) (N : Nat) (o : Oper) (op : UnOp) (a : Operand) (t : Vt) : Option Value :=
 match (unV op).f ((evC N a).f t) with
 | some v => some v
 | none => zaN P (zaG N t) o
noncomputable def lenK (P : Program) (N : Nat) (o : Oper) (ty : TypeId) (v : Value) (t : Vt) (h : Heap) : Option Value :=
 match (lenC P ty).f v with
 | some r => some r
 | none => lenF P (zaG N t) h o ty v
noncomputable def ziT (P : Program) (N : Nat) (o : Oper) (c : Call) : Bx (KOp β) :=
 match c.callee with
 | .builtin .len => match c.argTypes[0]?, c.args[0]? with
  | some ty, some a => ⟨fun _ _ t h r kn _ => zcn (lenK P N o ty ((evC N a).f t) t h) fun v => kn ((putC N o.dst).f t v) h r⟩
  | _, _ => ⟨fun _ _ _ _ _ _ _ => none⟩
 | .value (.func f) => match P.funcs[f]? with
  | none => ⟨fun _ _ _ _ _ _ _ => none⟩
  | some fn => bif fn.name == "runtime.NumGoroutine" then ⟨fun _ _ _ _ _ _ _ => none⟩
   else bif fn.body.isSome then ⟨fun C _ t h r kn ke => zmD (putC N o.dst) t r (C.call f ⟨zhG N c.args.toList t⟩ false .run h) kn ke⟩
   else ⟨genK P N o⟩
 | _ => ⟨genK P N o⟩
noncomputable def opK (P : Program) (N : Nat) (o : Oper) : Bx (KOp β) :=
 match o.op with
 | .move a => ⟨fun _ _ t h r kn _ => kn ((putC N o.dst).f t ((evC N a).f t)) h r⟩
 | .assign a => ⟨fun _ _ t h r kn _ => kn ((putC N o.dst).f t ((evC N a).f t)) h r⟩
 | .pick c a b => ⟨fun _ _ t h r kn _ => zcn (zoG ((evC N c).f t) ((evC N a).f t) ((evC N b).f t)) fun v => kn ((putC N o.dst).f t v) h r⟩
 | .load ty a => ⟨fun _ _ t h r kn _ => zcn (ze9 P ty h ((evC N a).f t)) fun v => kn ((putC N o.dst).f t v) h r⟩
 | .binOp op ty a b _ => ⟨fun _ _ t h r kn _ => zcn (binK P N o op ty a b t) fun v => kn ((putC N o.dst).f t v) h r⟩
 | .unOp op _ a => ⟨fun _ _ t h r kn _ => zcn (unK P N o op a t) fun v => kn ((putC N o.dst).f t v) h r⟩
 | .indexAddr ty a i => ⟨fun _ _ t h r kn _ => zcn ((zjQ P ty).f ((evC N a).f t) ((evC N i).f t)) fun v => kn ((putC N o.dst).f t v) h r⟩
 | .fieldAddr ty a f => ⟨fun _ _ t h r kn _ => zcn ((zfn P ty f).f ((evC N a).f t)) fun v => kn ((putC N o.dst).f t v) h r⟩
 | .field ty a f => ⟨fun _ _ t h r kn _ => zcn ((zj0 P ty f).f ((evC N a).f t)) fun v => kn ((putC N o.dst).f t v) h r⟩
 | .extract a i => ⟨fun _ _ t h r kn _ => zcn (extC ((evC N a).f t) i) fun v => kn ((putC N o.dst).f t v) h r⟩
 | .build ty ps => ⟨fun _ _ t h r kn _ => zcn ((zpp P ty).f (zgL N ps.toList t)) fun v => kn ((putC N o.dst).f t v) h r⟩
 | .box e a => ⟨fun _ _ t h r kn _ => znl (zey P e h (zdH ((evC N a).f t))) fun p => kn ((putC N o.dst).f t p.1) p.2 r⟩
 | .buildSlice ty n ps => ⟨fun _ _ t h r kn _ => znl ((zdh P ty n).f h (zgL N ps.toList t)) fun p => kn ((putC N o.dst).f t p.1) p.2 r⟩
 | .store ty a v => ⟨fun _ _ t h r kn _ => heapK (zi0 P ty h ((evC N v).f t) ((evC N a).f t)) fun h => kn ((putC N o.dst).f t undef) h r⟩
 | .call c => ziT P N o c
 | _ => ⟨genK P N o⟩
def DidK (P : Program) (N : Nat) (o : Oper) (C : RecK) (x : Ctx) (t : Vt) (h : Heap) (r : Rest) (kn : Vt → Heap → Rest → Option β) (ke : Ex → Vt → Heap → Rest → Option β) (b : β) : Prop :=
 ∃ d s1, (opC P N o).f (toC C) x ⟨t, r.df, r.up, h⟩ = some (d, s1) ∧ (match d with | .val v => kn ((putC N o.dst).f s1.t v) s1.h ⟨s1.df, s1.up⟩ | .panic c => ke (.panic c) s1.t s1.h ⟨s1.df, s1.up⟩) = some b
theorem zgZ {P : Program} {N : Nat} {o : Oper} {C : RecK} {x : Ctx} {t : Vt} {h : Heap} {r : Rest} {kn : Vt → Heap → Rest → Option β} {ke : Ex → Vt → Heap → Rest → Option β} {b : β} (e : genK P N o C x t h r kn ke = some b) : DidK P N o C x t h r kn ke b := by
 unfold genK at e
 cases hc : (opC P N o).f (toC C) x ⟨t, r.df, r.up, h⟩ with
 | none => rw [hc] at e; cases e
 | some p =>
  obtain ⟨d, s1⟩ := p
  rw [hc] at e
  exact ⟨d, s1, hc, by cases d <;> exact e⟩
theorem zdt {P : Program} {N : Nat} {o : Oper} {C : RecK} {x : Ctx} {t : Vt} {h : Heap} {r : Rest} {kn : Vt → Heap → Rest → Option β} {ke : Ex → Vt → Heap → Rest → Option β} {b : β} {v : Option Value}
  (hv : (opC P N o).f (toC C) x ⟨t, r.df, r.up, h⟩ = oneC ⟨t, r.df, r.up, h⟩ v) (e : zcn v (fun v => kn ((putC N o.dst).f t v) h r) = some b) : DidK P N o C x t h r kn ke b := by
 cases v with
 | none => cases e
 | some v => exact ⟨.val v, _, hv, e⟩
theorem pair_ok {P : Program} {N : Nat} {o : Oper} {C : RecK} {x : Ctx} {t : Vt} {h : Heap} {r : Rest} {kn : Vt → Heap → Rest → Option β} {ke : Ex → Vt → Heap → Rest → Option β} {b : β} {v : Option (Value × Heap)}
  (hv : (opC P N o).f (toC C) x ⟨t, r.df, r.up, h⟩ = valC ⟨t, r.df, r.up, h⟩ v) (e : znl v (fun p => kn ((putC N o.dst).f t p.1) p.2 r) = some b) : DidK P N o C x t h r kn ke b := by
 cases v with
 | none => cases e
 | some v => exact ⟨.val v.1, _, hv, e⟩
theorem heap_ok {P : Program} {N : Nat} {o : Oper} {C : RecK} {x : Ctx} {t : Vt} {h : Heap} {r : Rest} {kn : Vt → Heap → Rest → Option β} {ke : Ex → Vt → Heap → Rest → Option β} {b : β} {v : Option Heap}
  (hv : (opC P N o).f (toC C) x ⟨t, r.df, r.up, h⟩ = hhC ⟨t, r.df, r.up, h⟩ v) (e : heapK v (fun h => kn ((putC N o.dst).f t undef) h r) = some b) : DidK P N o C x t h r kn ke b := by
 cases v with
 | none => cases e
 | some v => exact ⟨.val undef, _, hv, e⟩
theorem zoT {P : Program} {N : Nat} {o : Oper} {C : RecK} {x : Ctx} {t : Vt} {h : Heap} {r : Rest} {kn : Vt → Heap → Rest → Option β} {ke : Ex → Vt → Heap → Rest → Option β} {b : β} (e : (opK P N o).f C x t h r kn ke = some b) : DidK P N o C x t h r kn ke b := by
 unfold opK at e
 cases ho : o.op with
 | move a => rw [ho] at e; exact ⟨.val _, _, by unfold opC; rw [ho], e⟩
 | assign a => rw [ho] at e; exact ⟨.val _, _, by unfold opC; rw [ho], e⟩
 | pick c a b => rw [ho] at e; exact zdt (by unfold opC; rw [ho]) e
 | load ty a => rw [ho] at e; exact zdt (by unfold opC; rw [ho]) e
 | binOp op ty a b yt => rw [ho] at e; exact zdt (by unfold opC; rw [ho]; rfl) e
 | unOp op ty a => rw [ho] at e; exact zdt (by unfold opC; rw [ho]; rfl) e
 | indexAddr ty a i => rw [ho] at e; exact zdt (by unfold opC; rw [ho]) e
 | fieldAddr ty a f => rw [ho] at e; exact zdt (by unfold opC; rw [ho]) e
 | field ty a f => rw [ho] at e; exact zdt (by unfold opC; rw [ho]) e
 | extract a i => rw [ho] at e; exact zdt (by unfold opC; rw [ho]) e
 | build ty ps => rw [ho] at e; exact zdt (by unfold opC; rw [ho]) e
 | box el a => rw [ho] at e; exact pair_ok (by unfold opC; rw [ho]) e
 | buildSlice ty n ps => rw [ho] at e; exact pair_ok (by unfold opC; rw [ho]) e
 | store ty a v => rw [ho] at e; exact heap_ok (by unfold opC; rw [ho]) e
 | call c =>
  rw [ho] at e
  obtain ⟨callee, args, argTypes⟩ := c
  simp only [] at e
  unfold ziT at e
  cases callee with
  | value f =>
   cases f with
   | func f =>
    simp only [] at e
    cases hf : P.funcs[f]? with
    | none => rw [hf] at e; cases e
    | some fn =>
     rw [hf] at e; simp only [] at e
     cases hn : (fn.name == "runtime.NumGoroutine") with
     | true => rw [hn] at e; cases e
     | false =>
      rw [hn] at e; simp only [cond_false] at e
      cases hb : fn.body.isSome with
      | false => rw [hb] at e; exact zgZ e
      | true =>
       rw [hb] at e; simp only [cond_true] at e
       have hop : (opC P N o).f (toC C) x ⟨t, r.df, r.up, h⟩ = zgn ⟨t, r.df, r.up, h⟩ (C.call f ⟨zhG N args.toList t⟩ false .run h) := by
        unfold opC; rw [ho]; simp only []; unfold zpL; simp only [hf, hn, hb, cond_false, cond_true]; rfl
       cases hc : C.call f ⟨zhG N args.toList t⟩ false .run h with
       | none => rw [hc] at e; cases e
       | some q =>
        rw [hc] at e hop
        obtain ⟨e1, u, h1⟩ := q
        cases e1 with
        | ret v => exact ⟨.val v, _, hop, e⟩
        | panic c => exact ⟨.panic c, _, hop, e⟩
   | _ => exact zgZ e
  | invoke rr name => exact zgZ e
  | builtin bb =>
   cases bb with
   | len =>
    simp only [] at e
    cases h0 : argTypes[0]? with
    | none => rw [h0] at e; cases e
    | some ty =>
     rw [h0] at e
     cases h1 : args[0]? with
     | none => rw [h1] at e; cases e
     | some a =>
      rw [h1] at e
      exact zdt (by unfold opC; rw [ho]; simp only []; unfold zpL; simp only [h0, h1]; rfl) e
   | _ => exact zgZ e
 | _ => rw [ho] at e; exact zgZ e
end
end Go.AX
