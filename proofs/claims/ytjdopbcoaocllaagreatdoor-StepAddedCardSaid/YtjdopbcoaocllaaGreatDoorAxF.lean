/- The reading for the kernel, each operation's way found once. -/
import Derived.Test.YtjdopbcoaocllaaGreatDoorAxE
import Derived.Test.YtjdopbcoaocllaaGreatDoorAxV
namespace Go.AX
theorem zeo {a b : Nat} (h : Nat.blt a b = true) : a < b := Nat.le_of_ble_eq_true h
theorem zhJ {a b : Nat} (h : Nat.blt a b = false) : ¬ a < b := fun k => by
  have : Nat.blt a b = true := Nat.ble_eq_true_of_le k
  rw [this] at h; cases h
inductive Vb where
  | nil
  | node (v : Value) (l r : Vb)
structure N8 (α : Type) where
  a0 : α
  a1 : α
  a2 : α
  a3 : α
  a4 : α
  a5 : α
  a6 : α
  a7 : α
structure Vt where
  lo : N8 (N8 Value)
  hi : Vb
structure Bx (α : Type) where
  f : α
noncomputable def withB {α γ : Type} (b : Bx α) (k : α → γ) : γ := @Bx.rec α (fun _ => γ) k b
theorem zaq {α γ : Type} (b : Bx α) (k : α → γ) : withB b k = k b.f := by cases b; rfl
inductive Pth where
  | here
  | l (p : Pth)
  | r (p : Pth)
noncomputable def pathTo : Nat → Nat → Pth := @Nat.rec (fun _ => Nat → Pth) (fun _ => .here)
  (fun _ ih i => @Nat.rec (fun _ => Pth) .here (fun j _ => bif Nat.beq (Nat.mod j 2) 0 then .l (ih (Nat.div j 2)) else .r (ih (Nat.div j 2))) i)
def unpath : Pth → Nat
  | .here => 0
  | .l p => 2 * unpath p + 1
  | .r p => 2 * unpath p + 2
theorem zcO : ∀ n i, i ≤ n → unpath (pathTo n i) = i := by
  intro n
  induction n with
  | zero => intro i h; have : i = 0 := by omega
            subst this; rfl
  | succ n ih =>
    intro i h
    cases i with
    | zero => rfl
    | succ j =>
      show unpath (bif Nat.beq (Nat.mod j 2) 0 then .l (pathTo n (Nat.div j 2)) else .r (pathTo n (Nat.div j 2))) = j + 1
      have hd : Nat.div j 2 = j / 2 := rfl
      have hm : Nat.mod j 2 = j % 2 := rfl
      cases hb : Nat.beq (Nat.mod j 2) 0 with
      | true =>
        have := Nat.eq_of_beq_eq_true hb
        simp only [cond_true, unpath, ih _ (by omega : Nat.div j 2 ≤ n)]; omega
      | false =>
        have : Nat.mod j 2 ≠ 0 := fun q => by rw [q] at hb; cases hb
        simp only [cond_false, unpath, ih _ (by omega : Nat.div j 2 ≤ n)]; omega
noncomputable def getC : Pth → Bx (Vb → Value) := @Pth.rec (fun _ => Bx (Vb → Value)) ⟨fun t => @Vb.rec (fun _ => Value) undef (fun v _ _ _ _ => v) t⟩
  (fun _ ih => withB ih fun g => ⟨fun t => @Vb.rec (fun _ => Value) undef (fun _ l _ _ _ => g l) t⟩) (fun _ ih => withB ih fun g => ⟨fun t => @Vb.rec (fun _ => Value) undef (fun _ _ r _ _ => g r) t⟩)
noncomputable def setC : Pth → Bx (Vb → Value → Vb) := @Pth.rec (fun _ => Bx (Vb → Value → Vb)) ⟨fun t v => @Vb.rec (fun _ => Vb) (.node v .nil .nil) (fun _ l r _ _ => .node v l r) t⟩
  (fun _ ih => ⟨fun t v => @Vb.rec (fun _ => Vb) (.node undef (ih.f .nil v) .nil) (fun w l r _ _ => .node w (ih.f l v) r) t⟩) (fun _ ih => ⟨fun t v => @Vb.rec (fun _ => Vb) (.node undef .nil (ih.f .nil v)) (fun w l r _ _ => .node w l (ih.f r v)) t⟩)
theorem zcK (p : Pth) : (getC p).f .nil = undef := by cases p <;> rfl
theorem vb_same (p : Pth) : ∀ t v, (getC p).f ((setC p).f t v) = v := by
  induction p with
  | here => intro t v; cases t <;> rfl
  | l p ih => intro t v; cases t <;> exact ih _ v
  | r p ih => intro t v; cases t <;> exact ih _ v
theorem vb_other (p : Pth) : ∀ q t v, unpath p ≠ unpath q → (getC q).f ((setC p).f t v) = (getC q).f t := by
  induction p with
  | here => intro q t v h; cases q with
    | here => exact absurd rfl h
    | l q => cases t with
      | nil => exact zcK q
      | node => rfl
    | r q => cases t with
      | nil => exact zcK q
      | node => rfl
  | l p ih => intro q t v h; cases q with
    | here => cases t <;> rfl
    | l q => cases t with
      | nil => exact (ih q .nil v (fun e => h (by simp only [unpath, e]))).trans (zcK q)
      | node w l r => exact ih q l v (fun e => h (by simp only [unpath, e]))
    | r q => cases t with
      | nil => exact zcK q
      | node => rfl
  | r p ih => intro q t v h; cases q with
    | here => cases t <;> rfl
    | l q => cases t with
      | nil => exact zcK q
      | node => rfl
    | r q => cases t with
      | nil => exact (ih q .nil v (fun e => h (by simp only [unpath, e]))).trans (zcK q)
      | node w l r => exact ih q r v (fun e => h (by simp only [unpath, e]))
noncomputable def getD8 {α : Type} (i : Nat) : Bx (N8 α → α) :=
  match i with
  | 0 => ⟨fun t => t.a0⟩
  | 1 => ⟨fun t => t.a1⟩
  | 2 => ⟨fun t => t.a2⟩
  | 3 => ⟨fun t => t.a3⟩
  | 4 => ⟨fun t => t.a4⟩
  | 5 => ⟨fun t => t.a5⟩
  | 6 => ⟨fun t => t.a6⟩
  | _ => ⟨fun t => t.a7⟩
noncomputable def setD8 {α : Type} (i : Nat) : Bx (N8 α → α → N8 α) :=
  match i with
  | 0 => ⟨fun t v => @N8.rec α (fun _ => N8 α) (fun _ a1 a2 a3 a4 a5 a6 a7 => ⟨v, a1, a2, a3, a4, a5, a6, a7⟩) t⟩
  | 1 => ⟨fun t v => @N8.rec α (fun _ => N8 α) (fun a0 _ a2 a3 a4 a5 a6 a7 => ⟨a0, v, a2, a3, a4, a5, a6, a7⟩) t⟩
  | 2 => ⟨fun t v => @N8.rec α (fun _ => N8 α) (fun a0 a1 _ a3 a4 a5 a6 a7 => ⟨a0, a1, v, a3, a4, a5, a6, a7⟩) t⟩
  | 3 => ⟨fun t v => @N8.rec α (fun _ => N8 α) (fun a0 a1 a2 _ a4 a5 a6 a7 => ⟨a0, a1, a2, v, a4, a5, a6, a7⟩) t⟩
  | 4 => ⟨fun t v => @N8.rec α (fun _ => N8 α) (fun a0 a1 a2 a3 _ a5 a6 a7 => ⟨a0, a1, a2, a3, v, a5, a6, a7⟩) t⟩
  | 5 => ⟨fun t v => @N8.rec α (fun _ => N8 α) (fun a0 a1 a2 a3 a4 _ a6 a7 => ⟨a0, a1, a2, a3, a4, v, a6, a7⟩) t⟩
  | 6 => ⟨fun t v => @N8.rec α (fun _ => N8 α) (fun a0 a1 a2 a3 a4 a5 _ a7 => ⟨a0, a1, a2, a3, a4, a5, v, a7⟩) t⟩
  | _ => ⟨fun t v => @N8.rec α (fun _ => N8 α) (fun a0 a1 a2 a3 a4 a5 a6 _ => ⟨a0, a1, a2, a3, a4, a5, a6, v⟩) t⟩
theorem zc4 {i : Nat} (h : i < 8) : i = 0 ∨ i = 1 ∨ i = 2 ∨ i = 3 ∨ i = 4 ∨ i = 5 ∨ i = 6 ∨ i = 7 := by omega
theorem zhE {α : Type} {i : Nat} (h : i < 8) (t : N8 α) (v : α) : (getD8 i).f ((setD8 i).f t v) = v := by
  cases t
  rcases zc4 h with rfl | rfl | rfl | rfl | rfl | rfl | rfl | rfl <;> rfl
theorem ziw {α : Type} {i j : Nat} (h : i < 8) (k : j < 8) (hij : i ≠ j) (t : N8 α) (v : α) : (getD8 j).f ((setD8 i).f t v) = (getD8 j).f t := by
  cases t
  rcases zc4 h with rfl | rfl | rfl | rfl | rfl | rfl | rfl | rfl <;> rcases zc4 k with rfl | rfl | rfl | rfl | rfl | rfl | rfl | rfl <;> first | rfl | exact absurd rfl hij
noncomputable def gC (i : Nat) : Bx (Vt → Value) :=
  bif Nat.blt i 64 then withB (getD8 (α := Value) (Nat.mod i 8)) fun g => withB (getD8 (α := N8 Value) (Nat.div i 8)) fun f => ⟨fun t => g (f t.lo)⟩ else withB (getC (pathTo (Nat.sub i 64) (Nat.sub i 64))) fun g => ⟨fun t => g t.hi⟩
noncomputable def sC (i : Nat) : Bx (Vt → Value → Vt) :=
  bif Nat.blt i 64 then withB (setD8 (α := N8 Value) (Nat.div i 8)) fun s => withB (setD8 (α := Value) (Nat.mod i 8)) fun s' => withB (getD8 (α := N8 Value) (Nat.div i 8)) fun g => ⟨fun t v => @Vt.rec (fun _ => Vt) (fun lo hi => ⟨s lo (s' (g lo) v), hi⟩) t⟩
  else withB (setC (pathTo (Nat.sub i 64) (Nat.sub i 64))) fun s => ⟨fun t v => @Vt.rec (fun _ => Vt) (fun lo hi => ⟨lo, s hi v⟩) t⟩
theorem zkY (i : Nat) (t : Vt) (v : Value) : (gC i).f ((sC i).f t v) = v := by
  unfold gC sC
  simp only [zaq]
  have hd : Nat.div i 8 = i / 8 := rfl
  have hm : Nat.mod i 8 = i % 8 := rfl
  cases hb : Nat.blt i 64 with
  | true =>
    have := zeo hb
    cases t
    simp only [cond_true]
    rw [zhE (by omega), zhE (by omega)]
  | false => cases t; exact vb_same _ _ _
theorem zio {i j : Nat} (h : i ≠ j) (t : Vt) (v : Value) : (gC j).f ((sC i).f t v) = (gC j).f t := by
  unfold gC sC
  simp only [zaq]
  have hd : ∀ i, Nat.div i 8 = i / 8 := fun _ => rfl
  have hm : ∀ i, Nat.mod i 8 = i % 8 := fun _ => rfl
  have hs : ∀ i, Nat.sub i 64 = i - 64 := fun _ => rfl
  cases hb : Nat.blt i 64 with
  | true =>
    have h1 := zeo hb
    cases hc : Nat.blt j 64 with
    | false => cases t; rfl
    | true =>
      have h2 := zeo hc
      cases t
      simp only [cond_true]
      by_cases hq : Nat.div i 8 = Nat.div j 8
      · rw [← hq, zhE (by rw [hd]; omega), ziw (by rw [hm]; omega) (by rw [hm]; omega)]
        rw [hd, hd] at hq
        rw [hm, hm]; omega
      · rw [ziw (by rw [hd]; omega) (by rw [hd]; omega) hq]
  | false =>
    have h1 := zhJ hb
    cases hc : Nat.blt j 64 with
    | true => cases t; rfl
    | false =>
      have h2 := zhJ hc
      cases t
      simp only [cond_false]
      refine vb_other _ _ _ _ ?_
      rw [zcO _ _ (Nat.le_refl _), zcO _ _ (Nat.le_refl _), hs, hs]
      omega
noncomputable def u8 : N8 Value := ⟨undef, undef, undef, undef, undef, undef, undef, undef⟩
noncomputable def Vt.nil : Vt := ⟨⟨u8, u8, u8, u8, u8, u8, u8, u8⟩, .nil⟩
theorem u8_get {i : Nat} (h : i < 8) : (getD8 i).f u8 = undef := by rcases zc4 h with rfl | rfl | rfl | rfl | rfl | rfl | rfl | rfl <;> rfl
theorem nil_get (i : Nat) : (gC i).f .nil = undef := by
  unfold gC
  simp only [zaq]
  have hd : Nat.div i 8 = i / 8 := rfl
  have hm : Nat.mod i 8 = i % 8 := rfl
  cases hb : Nat.blt i 64 with
  | false => exact zcK _
  | true =>
    have := zeo hb
    have e : (getD8 (Nat.div i 8)).f Vt.nil.lo = u8 := by
      rcases zc4 (show Nat.div i 8 < 8 by omega) with h | h | h | h | h | h | h | h <;> rw [h] <;> rfl
    simp only [cond_true]
    rw [e, u8_get (by omega)]
noncomputable def rowFrom : Nat → Nat → Vt → List Value := @Nat.rec (fun _ => Nat → Vt → List Value) (fun _ _ => []) (fun _ ih k t => (gC k).f t :: ih (k + 1) t)
noncomputable def toArr (N : Nat) (t : Vt) : Array Value := ⟨rowFrom N 0 t⟩
theorem zg3 (t : Vt) : ∀ N k i, (rowFrom N k t)[i]? = if i < N then some ((gC (k + i)).f t) else none := by
  intro N
  induction N with
  | zero => intro k i; show ([] : List Value)[i]? = _; simp
  | succ N ih =>
    intro k i
    show ((gC k).f t :: rowFrom N (k + 1) t)[i]? = _
    cases i with
    | zero => simp
    | succ i => rw [List.getElem?_cons_succ, ih]; simp [Nat.add_assoc, Nat.add_comm 1 i]
theorem zci (N : Nat) (t : Vt) (i : Nat) : (toArr N t)[i]? = if i < N then some ((gC i).f t) else none := by
  show (Array.mk (rowFrom N 0 t))[i]? = _
  rw [List.getElem?_toArray, zg3]; simp
theorem zey (t : Vt) : ∀ N k, (rowFrom N k t).length = N := by
  intro N
  induction N with
  | zero => intro k; rfl
  | succ N ih => intro k; show (rowFrom N (k + 1) t).length + 1 = _; rw [ih]
theorem ziS (N : Nat) (t : Vt) : (toArr N t).size = N := zey t N 0
noncomputable def evC (N : Nat) (o : Operand) : Bx (Vt → Value) :=
  match o with
  | .tmp i => bif Nat.blt i N then gC i else ⟨fun _ => undef⟩
  | .const v => ⟨fun _ => v⟩
  | .global g => ⟨fun _ => .pointer (some ⟨g, 0, none⟩)⟩
  | .func f => ⟨fun _ => .func (.func f) #[] #[]⟩
theorem za1 (N : Nat) (o : Operand) (t : Vt) : (evC N o).f t = ev (toArr N t) o := by
  cases o with
  | tmp i =>
    simp only [evC, ev, Array.getD_eq_getD_getElem?, zci]
    cases hb : Nat.blt i N with
    | true => simp [zeo hb]
    | false => simp [zhJ hb]
  | _ => rfl
noncomputable def putC (N : Nat) (d : Option Tmp) : Bx (Vt → Value → Vt) :=
  match d with
  | some d => bif Nat.blt d N then sC d else ⟨fun t _ => t⟩
  | none => ⟨fun t _ => t⟩
theorem zbg (N : Nat) (d : Option Tmp) (t : Vt) (v : Value) : toArr N ((putC N d).f t v) = put (toArr N t) d v := by
  cases d with
  | none => rfl
  | some d =>
    apply Array.ext_getElem?
    intro i
    simp only [putC, put, Array.getElem?_setIfInBounds, ziS]
    cases hb : Nat.blt d N with
    | true =>
      have hd := zeo hb
      simp only [cond_true, zci]
      by_cases hi : d = i
      · subst hi; simp [hd, zkY]
      · simp [hi, zio hi]
    | false =>
      have hd := zhJ hb
      simp only [cond_false, zci]
      by_cases hi : d = i
      · subst hi; simp [hd]
      · simp [hi]
noncomputable def ofRow : List Value → Nat → Vt → Vt := @List.rec Value (fun _ => Nat → Vt → Vt) (fun _ t => t) (fun v _ ih i t => ih (i + 1) ((sC i).f t v))
theorem zkG (l : List Value) : ∀ k t i, (gC i).f (ofRow l k t) = if k ≤ i ∧ i < k + l.length then l.getD (i - k) undef else (gC i).f t := by
  induction l with
  | nil => intro k t i; rw [if_neg (by simp only [List.length_nil]; omega)]; rfl
  | cons v l ih =>
    intro k t i
    show (gC i).f (ofRow l (k + 1) ((sC k).f t v)) = _
    rw [ih]
    by_cases h1 : k + 1 ≤ i ∧ i < k + 1 + l.length
    · rw [if_pos h1, if_pos (by simp only [List.length_cons]; omega)]
      obtain ⟨j, rfl⟩ : ∃ j, i = k + 1 + j := ⟨i - (k + 1), by omega⟩
      rw [show k + 1 + j - (k + 1) = j by omega, show k + 1 + j - k = j + 1 by omega]; simp
    · rw [if_neg h1]
      by_cases h2 : k = i
      · subst h2; rw [zkY, if_pos (by simp)]; simp
      · rw [zio h2, if_neg (by simp only [List.length_cons]; omega)]
theorem zbK (N : Nat) (l : List Value) (hl : l.length ≤ N) : toArr N (ofRow l 0 .nil) = ⟨l⟩ ++ Array.replicate (N - l.length) undef := by
  apply Array.ext_getElem?
  intro i
  rw [zci, zkG]
  rw [nil_get]
  by_cases h1 : i < l.length
  · rw [if_pos (by omega), if_pos (by omega), Array.getElem?_append_left (by simpa using h1)]; simp [h1]
  · rw [Array.getElem?_append_right (by simp; omega), Array.getElem?_replicate]
    by_cases h2 : i < N
    · rw [if_pos h2, if_neg (by omega), if_pos (by simp; omega)]
    · rw [if_neg h2, if_neg (by simp; omega)]
structure FS where
  t : Vt
  df : List Deferred
  up : FrameMode
  h : Heap
noncomputable def FS.st (N : Nat) (s : FS) : St := ⟨toArr N s.t, s.df, s.up, s.h⟩
noncomputable def btGet : Bt → Nat → Option Blk := @Bt.rec (fun _ => Nat → Option Blk) (fun _ => none)
  (fun b _ _ il ir i => @Nat.rec (fun _ => Option Blk) (some b) (fun j _ => bif Nat.beq (Nat.mod j 2) 0 then il (Nat.div j 2) else ir (Nat.div j 2)) i)
theorem btGet_eq (t : Bt) : ∀ i, btGet t i = t.get i := by
  induction t with
  | nil => intro i; cases i <;> rfl
  | node b l r il ir =>
    intro i
    cases i with
    | zero => rfl
    | succ j =>
      show (bif Nat.beq (Nat.mod j 2) 0 then btGet l (Nat.div j 2) else btGet r (Nat.div j 2)) = _
      rw [il, ir]; rfl
noncomputable def btCons (t : Bt) : Blk → Bt := @Bt.rec (fun _ => Blk → Bt) (fun b => .node b .nil .nil) (fun a l _ _ ir b => .node b (ir a) l) t
theorem zlh (t : Bt) : ∀ b, btCons t b = t.cons b := by
  induction t with
  | nil => intro b; rfl
  | node a l r _ ir => intro b; show Bt.node b (btCons r a) l = _; rw [ir]; rfl
noncomputable def btSet : Bt → Nat → Blk → Bt := @Bt.rec (fun _ => Nat → Blk → Bt) (fun _ _ => .nil)
  (fun a l r il ir i b => @Nat.rec (fun _ => Bt) (.node b l r) (fun j _ => bif Nat.beq (Nat.mod j 2) 0 then .node a (il (Nat.div j 2) b) r else .node a l (ir (Nat.div j 2) b)) i)
theorem btSet_eq (t : Bt) : ∀ i b, btSet t i b = t.set i b := by
  induction t with
  | nil => intro i b; cases i <;> rfl
  | node a l r il ir =>
    intro i b
    cases i with
    | zero => rfl
    | succ j =>
      show (bif Nat.beq (Nat.mod j 2) 0 then Bt.node a (btSet l (Nat.div j 2) b) r else .node a l (btSet r (Nat.div j 2) b)) = _
      rw [il, ir]; rfl
noncomputable def hGet (h : Heap) (i : Nat) : Option Blk := bif Nat.blt i h.n then btGet h.bs (Nat.sub (Nat.sub h.n 1) i) else none
theorem zfo (h : Heap) (i : Nat) : hGet h i = h.get? i := by
  unfold hGet Heap.get?
  rw [btGet_eq]
  cases hb : Nat.blt i h.n with
  | true => rw [if_pos (zeo hb)]; rfl
  | false => rw [if_neg (zhJ hb)]; rfl
noncomputable def hPush (h : Heap) (b : Blk) : Heap := { n := Nat.succ h.n, bs := btCons h.bs b }
theorem zin (h : Heap) (b : Blk) : hPush h b = h.push b := by unfold hPush Heap.push; rw [zlh]
noncomputable def hSet (h : Heap) (i : Nat) (b : Blk) : Heap := { n := h.n, bs := btSet h.bs (Nat.sub (Nat.sub h.n 1) i) b }
theorem hSet_eq (h : Heap) (i : Nat) (b : Blk) : hSet h i b = h.set i b := by unfold hSet Heap.set; rw [btSet_eq]; rfl
end Go.AX

namespace Go.AX
structure RecC where
  code : Ctx → Code → FS → Option (Ex × FS)
  call : FuncId → Array Value → Bool → FrameMode → Heap → Option (End × FrameMode × Heap)
  round : Nat → Array Value → Heap → Option (End × Heap)
noncomputable def nOf (P : Program) (f : FuncId) : Nat := match P.funcs[f]? with | some fn => fn.ntmps | none => 0
structure Under (P : Program) (C : RecC) (R : Recs) : Prop where
  code : ∀ x c s e s', C.code x c s = some (e, s') → R.code x c (s.st (nOf P x.fn)) = some (e, s'.st (nOf P x.fn))
  call : ∀ f args d u h r, C.call f args d u h = some r → R.call f args d u h = some r
  round : ∀ l args h r, C.round l args h = some r → R.round l args h = some r
noncomputable def oneC (s : FS) (r : Option Value) : Option (Did × FS) := match r with | some v => some (.val v, s) | none => none
noncomputable def valC (s : FS) (r : Option (Value × Heap)) : Option (Did × FS) := match r with | some (v, h) => some (.val v, { s with h }) | none => none
noncomputable def hhC (s : FS) (r : Option Heap) : Option (Did × FS) := match r with | some h => some (.val undef, { s with h }) | none => none
theorem zcD {N : Nat} {s s' : FS} {d : Did} {r r' : Option Value} (e : r = r') (h : oneC s r = some (d, s')) : oneF (s.st N) r' = some (d, s'.st N) := by
  subst e; cases r with
  | none => cases h
  | some v => cases h; rfl
theorem zkF {N : Nat} {s s' : FS} {d : Did} {r r' : Option (Value × Heap)} (e : r = r') (h : valC s r = some (d, s')) : valF (s.st N) r' = some (d, s'.st N) := by
  subst e; cases r with
  | none => cases h
  | some v => cases h; rfl
theorem of_hh {N : Nat} {s s' : FS} {d : Did} {r r' : Option Heap} (e : r = r') (h : hhC s r = some (d, s')) : hhF (s.st N) r' = some (d, s'.st N) := by
  subst e; cases r with
  | none => cases h
  | some v => cases h; rfl
noncomputable def enteredC (s : FS) (r : Option (End × FrameMode × Heap)) : Option (Did × FS) :=
  match r with
  | some (.ret v, _, h) => some (.val v, { s with h })
  | some (.panic c, _, h) => some (.panic c, { s with h })
  | none => none
noncomputable def actC (C : RecC) (x : Ctx) (s : FS) (r : Option (Out × Heap)) : Option (Did × FS) :=
  match r with
  | none => none
  | some (.val v, h) => some (.val v, { s with h })
  | some (.enter f args, h) => enteredC s (C.call f args false .run h)
  | some (.round l args, h) =>
    match C.round l args h with
    | some (.ret v, h) => some (.val v, { s with h })
    | some (.panic c, h) => some (.panic c, { s with h })
    | none => none
  | some (.defer d, h) => if x.round.isSome then none else some (.val undef, { s with h, df := d :: s.df })
  | some (.recover, h) =>
    if x.round.isSome then none
    else if x.dfr then some (.val (recoverB s.up).1, { s with h, up := (recoverB s.up).2 })
    else some (.val .nilIface, { s with h })
  | some (.panic v, h) => some (.panic [{ v, recovered := false }], { s with h })
theorem zeS {N : Nat} {s s' : FS} {d : Did} {r r' : Option (End × FrameMode × Heap)} (hr : ∀ a, r = some a → r' = some a) (h : enteredC s r = some (d, s')) : enteredF (s.st N) r' = some (d, s'.st N) := by
  cases hc : r with
  | none => rw [hc] at h; cases h
  | some a =>
    rw [hr a hc]; rw [hc] at h
    obtain ⟨e, u, h1⟩ := a
    cases e <;> (cases h; rfl)
theorem zlo {P : Program} {C : RecC} {R : Recs} (hU : Under P C R) {N : Nat} {x : Ctx} {s s' : FS} {d : Did} {r : Option (Out × Heap)} (h : actC C x s r = some (d, s')) : actF R x (s.st N) r = some (d, s'.st N) := by
  cases r with
  | none => cases h
  | some p =>
    obtain ⟨q, h1⟩ := p
    cases q with
    | val v => cases h; rfl
    | enter f args => exact zeS (hU.call _ _ _ _ _) h
    | round l args =>
      simp only [actC] at h
      cases hc : C.round l args h1 with
      | none => rw [hc] at h; cases h
      | some a =>
        simp only [actF, hU.round _ _ _ _ hc]
        rw [hc] at h
        obtain ⟨e, h2⟩ := a
        cases e <;> (cases h; rfl)
    | defer dd =>
      simp only [actC] at h; simp only [actF]
      split at h
      · cases h
      · rename_i hx; rw [if_neg hx]; cases h; rfl
    | recover =>
      simp only [actC] at h; simp only [actF]
      split at h
      · cases h
      · rename_i hx; rw [if_neg hx]
        split at h
        · rename_i hd; rw [if_pos hd]; cases h; rfl
        · rename_i hd; rw [if_neg hd]; cases h; rfl
    | panic v => cases h; rfl
noncomputable def slowC (P : Program) (N : Nat) (C : RecC) (x : Ctx) (s : FS) (o : Oper) : Option (Did × FS) :=
  match simpleB P (toArr N s.t) s.h o with
  | some (v, h) => some (.val v, { s with h })
  | none => bif isSimple o then none else actC C x s (effectB P (toArr N s.t) s.h o)
theorem zgS {P : Program} {C : RecC} {R : Recs} (hU : Under P C R) {N : Nat} {x : Ctx} {s s' : FS} {d : Did} {o : Oper} (h : slowC P N C x s o = some (d, s')) : slowF P R x (s.st N) o = some (d, s'.st N) := by
  unfold slowC at h; unfold slowF
  show (match simpleB P (toArr N s.t) s.h o with | some (v, h) => some (Did.val v, { s.st N with h }) | none => if isSimple o then none else actF R x (s.st N) (effectB P (toArr N s.t) s.h o)) = _
  cases hs : simpleB P (toArr N s.t) s.h o with
  | some p => rw [hs] at h; cases h; rfl
  | none =>
    rw [hs] at h; simp only [] at h
    cases hi : isSimple o with
    | true => rw [hi] at h; cases h
    | false => rw [hi] at h; exact zlo hU h
noncomputable def intBin (op : BinOp) : Bx (Int → Int → Option Value) :=
  match op with
  | .add => ⟨fun a b => bif fitsF (Int.add a b) then some (.int .i64 (Int.add a b)) else none⟩
  | .sub => ⟨fun a b => bif fitsF (Int.add a (Int.neg b)) then some (.int .i64 (Int.add a (Int.neg b))) else none⟩
  | .mul => ⟨fun a b => bif fitsF (Int.mul a b) then some (.int .i64 (Int.mul a b)) else none⟩
  | .quo => ⟨fun a b => bif eqF b (.ofNat 0) then none else bif fitsF (Int.tdiv a b) then some (.int .i64 (Int.tdiv a b)) else none⟩
  | .rem => ⟨fun a b => bif eqF b (.ofNat 0) then none else some (.int .i64 (Int.tmod a b))⟩
  | .eql => ⟨fun a b => some (.bool (eqF a b))⟩
  | .neq => ⟨fun a b => some (.bool (not (eqF a b)))⟩
  | .lss => ⟨fun a b => some (.bool (ltF a b))⟩
  | .leq => ⟨fun a b => some (.bool (not (ltF b a)))⟩
  | .gtr => ⟨fun a b => some (.bool (ltF b a))⟩
  | .geq => ⟨fun a b => some (.bool (not (ltF a b)))⟩
  | _ => ⟨fun _ _ => none⟩
theorem zjr {op : BinOp} {a b : Int} {v : Value} (h : (intBin op).f a b = some v) : binSem op a b = some v := by
  cases op <;> simp only [intBin] at h <;> try (cases h; done)
  · cases hf : fitsF (Int.add a b) with
    | false => rw [hf] at h; cases h
    | true => rw [hf] at h; cases h; simp only [binSem]; rw [show a + b = Int.add a b from rfl, zbA _ hf]
  · cases hf : fitsF (Int.add a (Int.neg b)) with
    | false => rw [hf] at h; cases h
    | true => rw [hf] at h; cases h; simp only [binSem]; rw [show a - b = Int.add a (Int.neg b) from rfl, zbA _ hf]
  · cases hf : fitsF (Int.mul a b) with
    | false => rw [hf] at h; cases h
    | true => rw [hf] at h; cases h; simp only [binSem]; rw [show a * b = Int.mul a b from rfl, zbA _ hf]
  · rw [zc3] at h
    cases hz : (b == Int.ofNat 0) with
    | true => rw [hz] at h; cases h
    | false =>
      rw [hz] at h; simp only [cond_false] at h
      have : ¬ b = 0 := by simpa using hz
      cases hf : fitsF (Int.tdiv a b) with
      | false => rw [hf] at h; cases h
      | true => rw [hf] at h; cases h; simp only [binSem, if_neg this, zbA _ hf]
  · rw [zc3] at h
    cases hz : (b == Int.ofNat 0) with
    | true => rw [hz] at h; cases h
    | false =>
      rw [hz] at h; cases h
      have : ¬ b = 0 := by simpa using hz
      simp only [binSem, if_neg this]
  · cases h; simp only [binSem, zc3]
  · cases h; simp only [binSem, zc3]; rfl
  · cases h; simp only [binSem, zds]
  · cases h; simp only [binSem, zds]; congr 2; rw [Bool.eq_iff_iff]; simp
  · cases h; simp only [binSem, zds]
  · cases h; simp only [binSem, zds]; congr 2; rw [Bool.eq_iff_iff]; simp
noncomputable def i64Of (v : Value) : Option Int := match v with | .int k a => bif i64 k then some a else none | _ => none
theorem zcZ {v : Value} {a : Int} (h : i64Of v = some a) : v = .int .i64 a := by
  cases v with
  | int k n => cases k <;> simp_all [i64Of, i64]
  | _ => cases h
noncomputable def binV (op : BinOp) : Bx (Value → Value → Option Value) :=
  ⟨fun x y => match i64Of x with | none => none | some a => match i64Of y with | none => none | some b => (intBin op).f a b⟩
theorem zjF {P : Program} {tm : Array Value} {o : Oper} {op : BinOp} {t yt : TypeId} {x y : Operand} {v : Value} (ho : o.op = .binOp op t x y yt) (h : (binV op).f (ev tm x) (ev tm y) = some v) : binF P tm o op t x y = some v := by
  simp only [binV] at h
  cases hx : i64Of (ev tm x) with
  | none => rw [hx] at h; cases h
  | some a =>
    rw [hx] at h; simp only [] at h
    cases hy : i64Of (ev tm y) with
    | none => rw [hy] at h; cases h
    | some b =>
      rw [hy] at h; simp only [] at h
      have hp := zep (P := P) ho (zcZ hx) (zcZ hy) (zjr h)
      unfold binF
      cases hf : fastOp op (evF tm x) (evF tm y) with
      | some w =>
        rw [zaQ] at hf
        rw [zdt (P := P) ho hf] at hp
        exact hp
      | none => simp only [hp]
noncomputable def binC (P : Program) (N : Nat) (o : Oper) (op : BinOp) (t : TypeId) (a b : Operand) (s : FS) : Option Value :=
  match (binV op).f ((evC N a).f s.t) ((evC N b).f s.t) with
  | some v => some v
  | none => binF P (toArr N s.t) o op t a b
noncomputable def unV (op : UnOp) : Bx (Value → Option Value) :=
  match op with
  | .not => ⟨fun v => match v with | .bool b => some (.bool (not b)) | _ => none⟩
  | .neg => ⟨fun v => match i64Of v with | some n => bif fitsF (Int.add (.ofNat 0) (Int.neg n)) then some (.int .i64 (Int.add (.ofNat 0) (Int.neg n))) else none | none => none⟩
  | _ => ⟨fun _ => none⟩
theorem zjT {P : Program} {tm : Array Value} {o : Oper} {op : UnOp} {t : TypeId} {x : Operand} {v : Value} (ho : o.op = .unOp op t x) (h : (unV op).f (ev tm x) = some v) : plainOp P tm o = some v := by
  cases op with
  | not =>
    simp only [unV] at h
    split at h
    · rename_i b hb
      cases h
      have hp : (plainKind o && o.op.operands.toList.all fun x => plain deep (ev tm x)) = true := by
        simp [plainKind, ho, Op.operands, hb, plain, deep]
      unfold plainOp
      rw [if_pos hp]
      have he : pe P (execOp (ev tm) o) = some (.value (.bool (!b))) := by
        unfold execOp; rw [ho]; simp only [hb]; rfl
      rw [he]; rfl
    · cases h
  | neg =>
    simp only [unV] at h
    split at h
    · rename_i n hn
      have hb := zcZ hn
      cases hf : fitsF (Int.add (.ofNat 0) (Int.neg n)) with
      | false => rw [hf] at h; cases h
      | true =>
        rw [hf] at h; cases h
        have hp : (plainKind o && o.op.operands.toList.all fun x => plain deep (ev tm x)) = true := by
          simp [plainKind, ho, Op.operands, hb, plain, deep]
        unfold plainOp
        rw [if_pos hp]
        have he : pe P (execOp (ev tm) o) = some (.value (.int .i64 (IntKind.wrap .i64 (0 - n)))) := by
          unfold execOp; rw [ho]; simp only [hb]; rfl
        rw [he, show (0 : Int) - n = Int.add (.ofNat 0) (Int.neg n) from rfl, zbA _ hf]; rfl
    · cases h
  | _ => cases h
noncomputable def unC (P : Program) (N : Nat) (o : Oper) (op : UnOp) (a : Operand) (s : FS) : Option Value :=
  match (unV op).f ((evC N a).f s.t) with
  | some v => some v
  | none => plainOp P (toArr N s.t) o
noncomputable def takeF : Nat → List Value → List Value := @Nat.rec (fun _ => List Value → List Value) (fun _ => []) (fun _ ih l => @List.rec Value (fun _ => List Value) [] (fun a as _ => a :: ih as) l)
theorem zhW : ∀ n l, takeF n l = l.take n := by
  intro n
  induction n with
  | zero => intro l; rfl
  | succ n ih => intro l; cases l with
    | nil => rfl
    | cons a l => show a :: takeF n l = _; rw [ih]; rfl
noncomputable def dropF : Nat → List Value → List Value := @Nat.rec (fun _ => List Value → List Value) (fun l => l) (fun _ ih l => @List.rec Value (fun _ => List Value) [] (fun _ as _ => ih as) l)
theorem zis : ∀ n l, dropF n l = l.drop n := by
  intro n
  induction n with
  | zero => intro l; rfl
  | succ n ih => intro l; cases l with
    | nil => rfl
    | cons a l => exact ih l
noncomputable def lenL : List Value → Nat := @List.rec Value (fun _ => Nat) 0 (fun _ _ n => Nat.succ n)
theorem zbB (l : List Value) : lenL l = l.length := by
  induction l with
  | nil => rfl
  | cons a l ih => exact congrArg Nat.succ ih
noncomputable def partC (P : Program) (t : TypeId) : Bx (List Value → Nat → Option Value) :=
  match aggB P t with
  | some true => match sizeB P t with
    | some n => ⟨fun cs off => bif Nat.ble (Nat.add off n) (lenL cs) then some (.agg ⟨takeF n (dropF off cs)⟩) else none⟩
    | none => ⟨fun _ _ => none⟩
  | some false => match sizeB P t with
    | some _ => ⟨fun cs off => optF cs off⟩
    | none => ⟨fun _ _ => none⟩
  | none => ⟨fun _ _ => none⟩
theorem zh8 (P : Program) (t : TypeId) (cs : List Value) (off : Nat) : (partC P t).f cs off = partF P t cs off := by
  unfold partC partF
  cases aggB P t with
  | none => rfl
  | some b =>
    cases sizeB P t with
    | none => cases b <;> rfl
    | some n => cases b
                · rfl
                · simp only [zbB, zhW, zis]; rfl
noncomputable def ptrOf (v : Value) : Option (Nat × Nat) := match v with | .pointer (some ⟨b, o, none⟩) => some (b, o) | _ => none
noncomputable def cellsOf (r : Option Blk) : Option (List Value) := match r with | some (.cells c _ _) => some c | _ => none
noncomputable def partAt (P : Program) (t : TypeId) (o : Nat) (r : Option (List Value)) : Option Value := match r with | some c => (partC P t).f c o | none => none
noncomputable def readC (P : Program) (t : TypeId) (h : Heap) (v : Value) : Option Value := match ptrOf v with | some p => partAt P t p.2 (cellsOf (hGet h p.1)) | none => none
theorem zff (P : Program) (t : TypeId) (h : Heap) (v : Value) : readC P t h v = readF P h t v := by
  unfold readC readF
  cases v with
  | pointer a =>
    rcases a with _ | ⟨b, o, _ | s⟩
    · rfl
    · simp only [ptrOf, zfo]
      cases h.get? b with
      | none => rfl
      | some k => cases k <;> first | rfl | exact zh8 ..
    · rfl
  | _ => rfl
noncomputable def spliceF (c : List Value) (off : Nat) (new : List Value) : List Value := appendF (takeF off c) (appendF new (dropF (Nat.add off (lenL new)) c))
theorem zeK (c : List Value) (off : Nat) (new : List Value) : spliceF c off new = splice c off new := by
  unfold spliceF splice
  simp only [zcA, zhW, zis, zbB, List.append_assoc]; rfl
noncomputable def oneF' (v : Value) : Bool := match v with | .agg _ => false | .tuple _ => false | _ => true
theorem oneF'_eq (v : Value) : oneF' v = oneB v := by cases v <;> rfl
noncomputable def allOne : List Value → Bool := @List.rec Value (fun _ => Bool) true (fun v _ ih => bif oneF' v then ih else false)
theorem zeq (l : List Value) : allOne l = l.all oneB := by
  induction l with
  | nil => rfl
  | cons v l ih => show (bif oneF' v then allOne l else false) = _; rw [oneF'_eq, ih, List.all_cons]; cases oneB v <;> rfl
noncomputable def cellsL (v : Value) : List Value := match v with | .agg cs => cs.toList | v => [v]
theorem zel (v : Value) : cellsL v = v.cells.toList := by cases v <;> rfl
noncomputable def writeCells (P : Program) (t : TypeId) (h : Heap) (new : List Value) (b o : Nat) : Option Heap :=
  match hGet h b, sizeB P t with
  | some (.cells c e true), some n => bif Nat.beq (lenL new) n && Nat.ble (Nat.add o n) (lenL c) && allOne new then some (hSet h b (.cells (spliceF c o new) e true)) else none
  | _, _ => none
noncomputable def writeC (P : Program) (t : TypeId) (h : Heap) (v a : Value) : Option Heap := match ptrOf a with | some p => writeCells P t h (cellsL v) p.1 p.2 | none => none
theorem zjP (P : Program) (t : TypeId) (h : Heap) (v a : Value) : writeC P t h v a = writeB P h t v a := by
  unfold writeC writeB
  cases a with
  | pointer a =>
    rcases a with _ | ⟨b, o, _ | s⟩
    · rfl
    · simp only [ptrOf, writeCells, zfo, zel, zbB, zeq, zeK, hSet_eq]
      cases h.get? b with
      | none => rfl
      | some k =>
        cases k with
        | cells c e own =>
          cases own with
          | false => cases sizeB P t <;> rfl
          | true =>
            cases sizeB P t with
            | none => rfl
            | some n =>
              simp only [cond_eq_ite, Bool.and_eq_true, Nat.ble_eq, Nat.beq_eq, Array.length_toList, and_assoc]
              rfl
        | _ => cases sizeB P t <;> rfl
    · rfl
  | _ => rfl
noncomputable def inRange (k : Int) (len : Nat) : Option Nat := match k with | .ofNat m => bif Nat.blt m len then some m else none | .negSucc _ => none
theorem zgr {k : Int} {len m : Nat} (h : inRange k len = some m) : (0 ≤ k ∧ k < len) ∧ k.toNat = m := by
  cases k with
  | ofNat j =>
    simp only [inRange] at h
    cases hb : Nat.blt j len with
    | true => rw [hb] at h; cases h; have := zeo hb; exact ⟨⟨by simp, by simp only [Int.ofNat_eq_natCast]; omega⟩, rfl⟩
    | false => rw [hb] at h; cases h
  | negSucc j => cases h
theorem zgs {k : Int} {len : Nat} (h : inRange k len = none) : ¬ (0 ≤ k ∧ k < len) := by
  cases k with
  | ofNat j =>
    simp only [inRange] at h
    cases hb : Nat.blt j len with
    | true => rw [hb] at h; cases h
    | false => have := zhJ hb; simp only [Int.ofNat_eq_natCast]; omega
  | negSucc j => omega
noncomputable def idxAt (b o n : Nat) (r : Option Nat) : Option Value := match r with | some m => some (.pointer (some ⟨b, Nat.add o (Nat.mul m n), none⟩)) | none => none
noncomputable def intOf (v : Value) : Option Int := match v with | .int _ k => some k | _ => none
noncomputable def rowOf (v : Value) : Option (Nat × Nat × Nat) := match v with | .slice (some ⟨b, o, none⟩) n _ => some (b, o, n) | _ => none
noncomputable def indexC (P : Program) (t : TypeId) : Bx (Value → Value → Option Value) :=
  match P.underlying t with
  | some (.array len e) => match sizeB P e with
    | some n => ⟨fun x i => match intOf i with | some k => (match ptrOf x with | some p => idxAt p.1 p.2 n (inRange k len) | none => none) | none => none⟩
    | none => ⟨fun _ _ => none⟩
  | some (.slice e) => match sizeB P e with
    | some n => ⟨fun x i => match intOf i with | some k => (match rowOf x with | some p => idxAt p.1 p.2.1 n (inRange k p.2.2) | none => none) | none => none⟩
    | none => ⟨fun _ _ => none⟩
  | _ => ⟨fun _ _ => none⟩
theorem zil (b o n : Nat) (k : Int) (len : Nat) : idxAt b o n (inRange k len) = if 0 ≤ k ∧ k < len then some (.pointer (some ⟨b, o + k.toNat * n, none⟩)) else none := by
  cases hr : inRange k len with
  | none => rw [if_neg (zgs hr)]; rfl
  | some m => obtain ⟨h1, h2⟩ := zgr hr; rw [if_pos h1, h2]; rfl
theorem zkV (P : Program) (t : TypeId) (x i : Value) : (indexC P t).f x i = indexAtB P t x i := by
  unfold indexC indexAtB
  cases i with
  | int kk k =>
    simp only []
    cases hu : P.underlying t with
    | none => rfl
    | some d =>
      cases d with
      | array len e =>
        cases x with
        | pointer a => rcases a with _ | ⟨b, o, _ | s⟩ <;> cases hs : sizeB P e <;> first | rfl | simp only [intOf, ptrOf, zil, hs]
        | _ => simp only [intOf, ptrOf]; cases sizeB P e <;> rfl
      | slice e =>
        cases x with
        | slice a len cap => rcases a with _ | ⟨b, o, _ | s⟩ <;> cases hs : sizeB P e <;> first | rfl | simp only [intOf, rowOf, zil, hs]
        | _ => simp only [intOf, rowOf]; cases sizeB P e <;> rfl
      | _ => rfl
  | _ =>
    simp only []
    cases P.underlying t with
    | none => rfl
    | some d => cases d with
      | array len e => simp only []; cases sizeB P e <;> rfl
      | slice e => simp only []; cases sizeB P e <;> rfl
      | _ => rfl
noncomputable def fieldAtC (P : Program) (t : TypeId) (f : Nat) : Bx (Value → Option Value) :=
  match fieldsOf P t with
  | some fs => match fs[f]? with
    | some fd => match sizeB P fd.type with
      | some (_ + 1) => ⟨fun x => match ptrOf x with | some p => some (.pointer (some ⟨p.1, Nat.add p.2 fd.offset, none⟩)) | none => none⟩
      | _ => ⟨fun _ => none⟩
    | none => ⟨fun _ => none⟩
  | none => ⟨fun _ => none⟩
theorem zhy (P : Program) (t : TypeId) (f : Nat) (x : Value) : (fieldAtC P t f).f x = fieldAtB P t x f := by
  unfold fieldAtC fieldAtB
  cases fieldsOf P t with
  | none => rfl
  | some fs =>
    cases x with
    | pointer a =>
      rcases a with _ | ⟨b, o, _ | s⟩ <;> (cases hf : fs[f]? with
        | none => first | rfl | simp only [hf]
        | some fd => rcases hs : sizeB P fd.type with _ | _ | n <;> first | rfl | (simp only [hf, hs]; rfl) | simp only [hf, hs])
    | _ =>
      simp only [ptrOf]
      cases fs[f]? with
      | none => rfl
      | some fd => simp only []; rcases sizeB P fd.type with _ | _ | n <;> rfl
noncomputable def fieldC (P : Program) (t : TypeId) (f : Nat) : Bx (Value → Option Value) :=
  match fieldsOf P t with
  | some fs => match fs[f]? with
    | some fd => ⟨fun x => match x with | .agg cs => (partC P fd.type).f cs.toList fd.offset | _ => none⟩
    | none => ⟨fun _ => none⟩
  | none => ⟨fun _ => none⟩
theorem zk1 (P : Program) (t : TypeId) (f : Nat) (x : Value) : (fieldC P t f).f x = fieldB P t x f := by
  unfold fieldC fieldB
  cases fieldsOf P t with
  | none => rfl
  | some fs =>
    simp only []
    cases hf : fs[f]? with
    | none => simp only []; split <;> simp_all
    | some fd =>
      simp only []
      split
      · simp only [hf, zh8, zh7]
      · split <;> simp_all
noncomputable def extC (t : Value) (i : Nat) : Option Value := match t with | .tuple vs => optF vs.toList i | _ => none
theorem extC_eq (t : Value) (i : Nat) : extC t i = extV t i := by
  unfold extC extV; split <;> simp [zd2]
noncomputable def boxCells (P : Program) (t : TypeId) (h : Heap) (c : List Value) : Option (Value × Heap) :=
  match sizeB P t with
  | some n => bif Nat.beq (lenL c) n && allOne c then some (.pointer (some ⟨h.n, 0, none⟩), hPush h (.cells c t true)) else none
  | none => none
theorem zen (P : Program) (t : TypeId) (h : Heap) (v : Value) : boxCells P t h (cellsL v) = boxB P h t v := by
  unfold boxCells boxB
  cases sizeB P t with
  | none => rfl
  | some n =>
    simp only [zel, zbB, zeq, zin, newB, cond_eq_ite, Array.length_toList, Bool.and_eq_true, Nat.beq_eq]
end Go.AX

namespace Go.AX
theorem zhw (off : Nat) : ∀ (l : List Value) (i : Nat) (c : Array Value), off + i + l.length ≤ c.size →
    ((l.zipIdx i).foldl (fun cs (p : Value × Nat) => cs.setIfInBounds (off + p.2) p.1) c).toList = splice c.toList (off + i) l := by
  intro l
  induction l with
  | nil => intro i c h; simp [splice]
  | cons v l ih =>
    intro i c h
    simp only [List.length_cons] at h
    simp only [List.zipIdx_cons, List.foldl_cons]
    rw [ih (i + 1) _ (by simp; omega)]
    simp only [splice, Array.toList_setIfInBounds, List.length_cons]
    apply List.ext_getElem?
    intro j
    have hc : c.toList.length = c.size := rfl
    simp only [List.getElem?_append, List.length_append, List.length_take, List.length_set, List.getElem?_take, List.getElem?_drop, List.getElem?_set, hc, List.length_cons]
    by_cases h1 : j < off + i
    · simp only [show j < min (off + (i + 1)) c.size by omega, show j < off + (i + 1) by omega, show j < min (off + i) c.size by omega, if_true, h1, show ¬ off + i = j by omega, if_false, show j < min (off + (i + 1)) c.size + l.length by omega, show j < min (off + i) c.size + (l.length + 1) by omega]
    · by_cases h2 : j = off + i
      · subst h2
        simp only [show off + i < min (off + (i + 1)) c.size by omega, show off + i < off + (i + 1) by omega, show ¬ off + i < min (off + i) c.size by omega, if_true, if_false, show off + i < c.size by omega, show off + i < min (off + (i + 1)) c.size + l.length by omega, show off + i < min (off + i) c.size + (l.length + 1) by omega]
        rw [show off + i - min (off + i) c.size = 0 by omega]; rfl
      · by_cases h3 : j < off + i + 1 + l.length
        · simp only [show ¬ j < min (off + (i + 1)) c.size by omega, show ¬ j < min (off + i) c.size by omega, if_false, show j < min (off + (i + 1)) c.size + l.length by omega, show j < min (off + i) c.size + (l.length + 1) by omega, if_true]
          rw [show j - min (off + i) c.size = (j - min (off + (i + 1)) c.size) + 1 by omega, List.getElem?_cons_succ]
        · simp only [show ¬ j < min (off + (i + 1)) c.size + l.length by omega, show ¬ j < min (off + i) c.size + (l.length + 1) by omega, if_false]
          rw [if_neg (by omega)]
          congr 1
          omega
noncomputable def fillL (place : Nat → Option (Nat × Nat)) : List (Nat × Value) → List Value → Option (List Value) :=
  @List.rec (Nat × Value) (fun _ => List Value → Option (List Value)) (fun c => some c)
    (fun p _ ih c => match place p.1 with
      | some q => bif Nat.beq (lenL (cellsL p.2)) q.2 && Nat.ble (Nat.add q.1 (lenL (cellsL p.2))) (lenL c) then ih (spliceF c q.1 (cellsL p.2)) else none
      | none => none)
theorem zfp (place : Nat → Option (Nat × Nat)) (ps : List (Nat × Value)) : ∀ c : Array Value, (fillL place ps c.toList).map List.toArray = Instr.fill place c ps := by
  induction ps with
  | nil => intro c; rfl
  | cons p ps ih =>
    intro c
    obtain ⟨i, v⟩ := p
    show Option.map List.toArray (match place i with
      | some q => bif Nat.beq (lenL (cellsL v)) q.2 && Nat.ble (Nat.add q.1 (lenL (cellsL v))) (lenL c.toList) then fillL place ps (spliceF c.toList q.1 (cellsL v)) else none
      | none => none) = Instr.fill place c ((i, v) :: ps)
    unfold Instr.fill
    cases place i with
    | none => rfl
    | some q =>
      obtain ⟨off, size⟩ := q
      simp only [zel, zbB, zeK, cond_eq_ite, Bool.and_eq_true, Nat.beq_eq, Nat.ble_eq, Array.length_toList, Bool.or_eq_true, decide_eq_true_eq]
      by_cases hc : v.cells.size = size ∧ off.add v.cells.size ≤ c.size
      · rw [if_pos hc, if_neg (by simp only [ne_eq, not_or, Decidable.not_not]; exact ⟨hc.1, by have := hc.2; have e : off.add v.cells.size = off + v.cells.size := rfl; omega⟩)]
        rw [← ih]
        have := zhw off v.cells.toList 0 c (by have := hc.2; have e : off.add v.cells.size = off + v.cells.size := rfl; simp only [Array.length_toList]; omega)
        simp only [Nat.add_zero] at this
        have e2 : (Array.foldl (fun cs x => match x with | (c, j) => cs.setIfInBounds (off + j) c) c v.cells.zipIdx) = ((v.cells.toList.zipIdx 0).foldl (fun cs (p : Value × Nat) => cs.setIfInBounds (off + p.2) p.1) c) := by
          rw [← Array.foldl_toList, Array.toList_zipIdx]
        rw [e2, this]
      · rw [if_neg hc, if_pos]
        · rfl
        · by_cases h1 : v.cells.size = size
          · right; have e : off.add v.cells.size = off + v.cells.size := rfl
            have : ¬ off.add v.cells.size ≤ c.size := fun q => hc ⟨h1, q⟩
            omega
          · left; exact h1
noncomputable def aggOf (r : Option (List Value)) : Option Value := match r with | some c => some (.agg ⟨c⟩) | none => none
theorem ziB (r : Option (List Value)) : aggOf r = (r.map List.toArray).map .agg := by cases r <;> rfl
noncomputable def fillC (P : Program) (t : TypeId) : Bx (List (Nat × Value) → Option Value) :=
  match zeroB P t with
  | some z => match P.underlying t with
    | some (.struct fs) => match fs.toList.mapM (fun f => (sizeB P f.type).map fun s => (f.offset, s)) with
      | some places => ⟨fun parts => aggOf (fillL (fun i => places[i]?) parts z.cells.toList)⟩
      | none => ⟨fun _ => none⟩
    | some (.array _ e) => match sizeB P e with
      | some s => ⟨fun parts => aggOf (fillL (fun i => some (Nat.mul i s, s)) parts z.cells.toList)⟩
      | none => ⟨fun _ => none⟩
    | _ => ⟨fun _ => none⟩
  | none => ⟨fun _ => none⟩
theorem fillC_eq (P : Program) (t : TypeId) (parts : List (Nat × Value)) : (fillC P t).f parts = fillB P t parts := by
  unfold fillC fillB
  cases zeroB P t with
  | none => rfl
  | some z =>
    cases P.underlying t with
    | none => rfl
    | some d =>
      cases d with
      | struct fs =>
        simp only []
        cases fs.toList.mapM (fun f => (sizeB P f.type).map fun s => (f.offset, s)) with
        | none => rfl
        | some places => simp only [ziB, zfp]
      | array n e =>
        simp only []
        cases sizeB P e with
        | none => rfl
        | some s => simp only [ziB, zfp]; rfl
      | _ => rfl
noncomputable def partsC (N : Nat) : List (Nat × Operand) → Vt → List (Nat × Value) := @List.rec (Nat × Operand) (fun _ => Vt → List (Nat × Value)) (fun _ => []) (fun p _ ih t => (p.1, (evC N p.2).f t) :: ih t)
theorem zf1 (N : Nat) (ps : List (Nat × Operand)) (t : Vt) : partsC N ps t = ps.map fun (i, x) => (i, ev (toArr N t) x) := by
  induction ps with
  | nil => rfl
  | cons p ps ih => show (p.1, (evC N p.2).f t) :: partsC N ps t = _; rw [ih, za1]; rfl
noncomputable def argsC (N : Nat) : List Operand → Vt → List Value := @List.rec Operand (fun _ => Vt → List Value) (fun _ => []) (fun x _ ih t => (evC N x).f t :: ih t)
theorem argsC_eq (N : Nat) (xs : List Operand) (t : Vt) : argsC N xs t = xs.map (ev (toArr N t)) := by
  induction xs with
  | nil => rfl
  | cons x xs ih => show (evC N x).f t :: argsC N xs t = _; rw [ih, za1]; rfl
theorem zfz (N : Nat) (a : Array Operand) (t : Vt) : (⟨argsC N a.toList t⟩ : Array Value) = a.map (ev (toArr N t)) := by
  apply Array.ext'; simp [argsC_eq]
noncomputable def zerosL (z : List Value) (n : Nat) : Nat → List Value := @Nat.rec (fun _ => List Value) [] (fun k ih => (match optF z (Nat.mod (Nat.sub n (Nat.succ k)) (lenL z)) with | some v => v | none => default) :: ih)
theorem zjN (z : Array Value) (n : Nat) : ∀ k, k ≤ n → zerosL z.toList n k = ((List.range' (n - k) k).map (z[· % z.size]!)) := by
  intro k
  induction k with
  | zero => intro _; rfl
  | succ k ih =>
    intro h
    show (match optF z.toList (Nat.mod (Nat.sub n (Nat.succ k)) (lenL z.toList)) with | some v => v | none => default) :: zerosL z.toList n k = _
    rw [ih (by omega), List.range'_succ, List.map_cons, zd2, zbB]
    congr 1
    · rw [show Nat.mod (Nat.sub n (Nat.succ k)) z.toList.length = (n - (k + 1)) % z.size from rfl, Array.getElem?_toList, Array.getElem!_eq_getD, Array.getD_eq_getD_getElem?]
      cases z[(n - (k + 1)) % z.size]? <;> rfl
    · rw [show n - (k + 1) + 1 = n - k by omega]
theorem zgL (z : Array Value) (n : Nat) : zerosL z.toList n n = (zerosB z n).toList := by
  rw [zjN z n n (Nat.le_refl _)]; simp [zerosB, List.range_eq_range']
noncomputable def sliceOfC (h : Heap) (e : TypeId) (n : Nat) (c : List Value) : Option (Value × Heap) := some (.slice (some ⟨h.n, 0, none⟩) n n, hPush h (.cells c e true))
noncomputable def buildSliceC (P : Program) (t : TypeId) (len : Nat) : Bx (Heap → List (Nat × Value) → Option (Value × Heap)) :=
  match P.underlying t with
  | some (.slice e) => match sizeB P e with
    | some s => match zeroB P e with
      | some z => bif Nat.ble (Nat.mul len s) 16777216 && Nat.beq (lenL z.cells.toList) s && Nat.ble len 16777216 then
          ⟨fun h parts => match fillL (fun i => some (Nat.mul i s, s)) parts (zerosL z.cells.toList (Nat.mul len s) (Nat.mul len s)) with
            | some c => bif allOne c && Nat.beq (lenL c) (Nat.mul len s) then sliceOfC h e len c else none
            | none => none⟩
        else ⟨fun _ _ => none⟩
      | none => ⟨fun _ _ => none⟩
    | none => ⟨fun _ _ => none⟩
  | _ => ⟨fun _ _ => none⟩
theorem zeH (P : Program) (t : TypeId) (len : Nat) (h : Heap) (parts : List (Nat × Value)) : (buildSliceC P t len).f h parts = buildSliceB P h t len parts := by
  unfold buildSliceC buildSliceB
  cases P.underlying t with
  | none => rfl
  | some d =>
    cases d with
    | slice e =>
      simp only []
      cases sizeB P e with
      | none => rfl
      | some s =>
        cases zeroB P e with
        | none => rfl
        | some z =>
          simp only [cond_eq_ite, Bool.and_eq_true, Nat.ble_eq, Nat.beq_eq, zbB, Array.length_toList]
          have e1 : Nat.mul len s = len * s := rfl
          rw [e1]
          by_cases hc : len * s ≤ 16777216 ∧ z.cells.size = s ∧ len ≤ 16777216
          · rw [if_pos hc, if_pos ⟨⟨hc.1, hc.2.1⟩, hc.2.2⟩]
            rw [zgL, ← zfp]
            show (match fillL (fun i => some (i * s, s)) parts (zerosB z.cells (len * s)).toList with | some c => _ | none => none) = _
            cases fillL (fun i => some (i * s, s)) parts (zerosB z.cells (len * s)).toList with
            | none => rfl
            | some c =>
              simp only [Option.map_some, zeq, sliceOfC, zin]
              cases c.all oneB with
              | false => rfl
              | true =>
                by_cases hl : c.length = len * s
                · simp [hl]
                · simp [hl]
          · rw [if_neg hc, if_neg (fun q => hc ⟨q.1.1, q.1.2, q.2⟩)]
    | _ => rfl
noncomputable def lenC (P : Program) (t : TypeId) : Bx (Value → Option Value) :=
  match P.underlying t with
  | some (.slice _) => ⟨fun v => match v with | .slice _ n _ => some (.int .i64 (.ofNat n)) | _ => none⟩
  | _ => ⟨fun _ => none⟩
noncomputable def lenO (P : Program) (N : Nat) (o : Oper) (t : TypeId) (v : Value) (s : FS) : Option Value :=
  match (lenC P t).f v with
  | some r => some r
  | none => lenF P (toArr N s.t) s.h o t v
theorem lenO_eq (P : Program) (N : Nat) (o : Oper) (t : TypeId) (v : Value) (s : FS) : lenO P N o t v s = lenF P (toArr N s.t) s.h o t v := by
  unfold lenO lenC
  cases hu : P.underlying t with
  | none => rfl
  | some d =>
    cases d with
    | slice e =>
      cases v with
      | slice a n c => unfold lenF; rw [hu]; rfl
      | _ => rfl
    | _ => rfl
noncomputable def pickC (c a b : Value) : Option Value := match c with | .bool t => some (bif t then a else b) | _ => none
noncomputable def callC (P : Program) (N : Nat) (o : Oper) (c : Call) : Bx (RecC → Ctx → FS → Option (Did × FS)) :=
  match c.callee with
  | .builtin .len => match c.argTypes[0]?, c.args[0]? with
    | some t, some a => ⟨fun _ _ s => oneC s (lenO P N o t ((evC N a).f s.t) s)⟩
    | _, _ => ⟨fun _ _ _ => none⟩
  | .builtin .append => match c.args[0]?, c.args[1]? with
    | some a, some b => ⟨fun _ _ s => valC s (appendB P s.h c.argTypes ((evC N a).f s.t) ((evC N b).f s.t))⟩
    | _, _ => ⟨fun _ _ _ => none⟩
  | .value (.func f) => match P.funcs[f]? with
    | none => ⟨fun _ _ _ => none⟩
    | some fn => bif fn.name == "runtime.NumGoroutine" then ⟨fun _ _ _ => none⟩
      else bif fn.body.isSome then ⟨fun C _ s => enteredC s (C.call f ⟨argsC N c.args.toList s.t⟩ false .run s.h)⟩
      else ⟨fun C x s => actC C x s ((callFuncB P f ⟨argsC N c.args.toList s.t⟩).map fun r => (r, s.h))⟩
  | .value f => ⟨fun C x s => actC C x s ((callValueB P ((evC N f).f s.t) ⟨argsC N c.args.toList s.t⟩).map fun r => (r, s.h))⟩
  | _ => ⟨fun C x s => slowC P N C x s o⟩
noncomputable def opC (P : Program) (N : Nat) (o : Oper) : Bx (RecC → Ctx → FS → Option (Did × FS)) :=
  match o.op with
  | .move a => ⟨fun _ _ s => some (.val ((evC N a).f s.t), s)⟩
  | .assign a => ⟨fun _ _ s => some (.val ((evC N a).f s.t), s)⟩
  | .pick c a b => ⟨fun _ _ s => oneC s (pickC ((evC N c).f s.t) ((evC N a).f s.t) ((evC N b).f s.t))⟩
  | .load t a => ⟨fun _ _ s => oneC s (readC P t s.h ((evC N a).f s.t))⟩
  | .store t a v => ⟨fun _ _ s => hhC s (writeC P t s.h ((evC N v).f s.t) ((evC N a).f s.t))⟩
  | .binOp op t a b _ => ⟨fun _ _ s => oneC s (binC P N o op t a b s)⟩
  | .unOp op _ a => ⟨fun _ _ s => oneC s (unC P N o op a s)⟩
  | .indexAddr t a i => ⟨fun _ _ s => oneC s ((indexC P t).f ((evC N a).f s.t) ((evC N i).f s.t))⟩
  | .fieldAddr t a f => ⟨fun _ _ s => oneC s ((fieldAtC P t f).f ((evC N a).f s.t))⟩
  | .field t a f => ⟨fun _ _ s => oneC s ((fieldC P t f).f ((evC N a).f s.t))⟩
  | .extract t i => ⟨fun _ _ s => oneC s (extC ((evC N t).f s.t) i)⟩
  | .index t a i => ⟨fun _ _ s => oneC s (indexV P (toArr N s.t) o t ((evC N a).f s.t) ((evC N i).f s.t))⟩
  | .convert a b v => ⟨fun _ _ s => valC s (convertB P (toArr N s.t) s.h o a b ((evC N v).f s.t))⟩
  | .alloc e => match zeroB P e with
    | some z => ⟨fun _ _ s => valC s (boxCells P e s.h (cellsL z))⟩
    | none => ⟨fun _ _ _ => none⟩
  | .box e v => ⟨fun _ _ s => valC s (boxCells P e s.h (cellsL ((evC N v).f s.t)))⟩
  | .build t ps => ⟨fun _ _ s => oneC s ((fillC P t).f (partsC N ps.toList s.t))⟩
  | .buildSlice t n ps => ⟨fun _ _ s => valC s ((buildSliceC P t n).f s.h (partsC N ps.toList s.t))⟩
  | .call c => callC P N o c
  | _ => ⟨fun C x s => slowC P N C x s o⟩
theorem zkE {P : Program} {C : RecC} {R : Recs} (hU : Under P C R) {N : Nat} {x : Ctx} {s s' : FS} {d : Did} {o : Oper} (h : (opC P N o).f C x s = some (d, s')) : dispF P R x (s.st N) o = some (d, s'.st N) := by
  have slow : (fun C x s => slowC P N C x s o) C x s = some (d, s') → dispF P R x (s.st N) o = some (d, s'.st N) := fun h => by rw [zcz]; exact zgS hU h
  have simp' : ∀ r : Option (Value × Heap), isSimple o = true → simpleB P (toArr N s.t) s.h o = r → valC s r = some (d, s') → dispF P R x (s.st N) o = some (d, s'.st N) := by
    intro r hs h1 h2
    rw [zcz, zby hs]
    exact zkF h1.symm h2
  have onee : ∀ r : Option Value, oneC s r = some (d, s') → valC s (r.map fun v => (v, s.h)) = some (d, s') := by
    intro r h; cases r with
    | none => cases h
    | some v => cases h; rfl
  unfold opC at h
  cases ho : o.op with
  | move a => rw [ho] at h; cases h; simp only [dispF, ho]; rw [show evF (s.st N).tm a = (evC N a).f s.t by rw [zaQ, za1]; rfl]; rfl
  | assign a => rw [ho] at h; cases h; simp only [dispF, ho]; rw [show evF (s.st N).tm a = (evC N a).f s.t by rw [zaQ, za1]; rfl]; rfl
  | pick c a b =>
    rw [ho] at h; simp only [za1] at h; simp only [dispF, ho, zaQ]
    exact zcD (by unfold pickC pickV; rfl) h
  | load t a =>
    rw [ho] at h; simp only [za1] at h; simp only [dispF, ho, zaQ]
    exact zcD (zff ..) h
  | store t a v =>
    rw [ho] at h; simp only [za1] at h; simp only [dispF, ho, zaQ]
    exact of_hh (zjP ..) h
  | binOp op t a b yt =>
    rw [ho] at h; simp only [dispF, ho]
    refine zcD ?_ h
    unfold binC
    simp only [za1]
    cases hv : (binV op).f (ev (toArr N s.t) a) (ev (toArr N s.t) b) with
    | none => rfl
    | some v => exact (zjF ho hv).symm
  | unOp op t a =>
    rw [ho] at h; simp only [dispF, ho]
    refine zcD ?_ h
    unfold unC
    simp only [za1]
    cases hv : (unV op).f (ev (toArr N s.t) a) with
    | none => rfl
    | some v => exact (zjT ho hv).symm
  | indexAddr t a i =>
    rw [ho] at h; simp only [za1] at h; simp only [dispF, ho, zaQ]
    exact zcD (zkV ..) h
  | fieldAddr t a f =>
    rw [ho] at h; simp only [za1] at h; simp only [dispF, ho, zaQ]
    exact zcD (zhy ..) h
  | field t a f =>
    rw [ho] at h; simp only [za1] at h; simp only [dispF, ho, zaQ]
    exact zcD (zk1 ..) h
  | extract t i =>
    rw [ho] at h; simp only [za1] at h; simp only [dispF, ho, zaQ]
    exact zcD (extC_eq ..) h
  | index t a i =>
    rw [ho] at h; simp only [za1] at h; simp only [dispF, ho, zaQ]
    exact zcD rfl h
  | convert a b v =>
    rw [ho] at h; simp only [za1] at h; simp only [dispF, ho, zaQ]
    exact zkF rfl h
  | alloc e =>
    rw [ho] at h; simp only [] at h
    cases hz : zeroB P e with
    | none => rw [hz] at h; cases h
    | some z =>
      rw [hz] at h; simp only [zen] at h
      exact simp' _ (by simp [isSimple, ho]) (by simp only [simpleB, ho, hz]) h
  | box e v =>
    rw [ho] at h; simp only [zen, za1] at h
    exact simp' _ (by simp [isSimple, ho]) (by simp only [simpleB, ho]) h
  | build t ps =>
    rw [ho] at h; simp only [fillC_eq, zf1] at h
    exact simp' _ (by simp [isSimple, ho]) (by simp only [simpleB, ho]) (onee _ h)
  | buildSlice t n ps =>
    rw [ho] at h; simp only [zeH, zf1] at h
    exact simp' _ (by simp [isSimple, ho]) (by simp only [simpleB, ho]) h
  | call c =>
    rw [ho] at h
    obtain ⟨callee, args, argTypes⟩ := c
    simp only [dispF, ho, callF']
    unfold callC at h
    cases callee with
    | value f =>
      cases f with
      | func f =>
        simp only [] at h ⊢
        unfold funF
        cases hf : P.funcs[f]? with
        | none => rw [hf] at h; cases h
        | some fn =>
          rw [hf] at h; simp only [] at h ⊢
          cases hn : (fn.name == "runtime.NumGoroutine") with
          | true => rw [hn] at h; cases h
          | false =>
            rw [hn] at h; simp only [cond_false] at h ⊢
            cases hb : fn.body.isSome with
            | true =>
              rw [hb] at h; simp only [cond_true, zfz] at h ⊢
              rw [zdK]
              exact zeS (hU.call _ _ _ _ _) h
            | false =>
              rw [hb] at h; simp only [cond_false, zfz] at h ⊢
              rw [zdK]
              exact zlo hU h
      | _ =>
        simp only [zfz, za1] at h ⊢
        rw [zdK, zaQ]
        exact zlo hU h
    | invoke r name => exact zgS hU h
    | builtin b =>
      cases b with
      | len =>
        simp only [] at h ⊢
        unfold lenV
        cases h0 : argTypes[0]? with
        | none => rw [h0] at h; cases h
        | some t =>
          rw [h0] at h
          cases h1 : args[0]? with
          | none => rw [h1] at h; cases h
          | some a =>
            rw [h1] at h; simp only [lenO_eq, za1] at h
            simp only [Option.map_some, zaQ]
            exact zcD rfl h
      | append =>
        simp only [] at h ⊢
        unfold appF
        cases h0 : args[0]? with
        | none => rw [h0] at h; cases h
        | some a =>
          rw [h0] at h
          cases h1 : args[1]? with
          | none => rw [h1] at h; cases h
          | some b =>
            rw [h1] at h; simp only [za1] at h
            simp only [zaQ]
            exact zkF rfl h
      | _ => exact zgS hU h
  | _ => rw [ho] at h; exact slow h
end Go.AX

namespace Go.AX
noncomputable def afterC (p : Bx (Vt → Value → Vt)) (r : Option (Did × FS)) (ih : FS → Option (Ex × FS)) : Option (Ex × FS) :=
  match r with
  | some (.val v, s) => ih { s with t := p.f s.t v }
  | some (.panic c, s) => some (.panic c, s)
  | none => none
noncomputable def okC (P : Program) (N : Nat) (o : Oper) : Bx (RecC → Ctx → FS → Option (Did × FS)) := bif opsOK P o then opC P N o else ⟨fun _ _ _ => none⟩
theorem zgb {P : Program} {C : RecC} {R : Recs} (hU : Under P C R) {N : Nat} {x : Ctx} {s s' : FS} {d : Did} {o : Oper} (h : (okC P N o).f C x s = some (d, s')) : doOp P R x (s.st N) o = some (d, s'.st N) := by
  unfold okC at h
  rw [← zfv]; unfold doOpF
  cases hk : opsOK P o with
  | false => rw [hk] at h; cases h
  | true => rw [hk] at h; exact zkE hU h
noncomputable def boolV (v : Value) : Option Bool := match v with | .bool b => some b | _ => none
noncomputable def yieldC (N : Nat) (ops : Array Oper) (j : Nat) : Bx (Vt → Option Bool) :=
  match ops[j]? with
  | some o => match o.dst with
    | some t => bif Nat.blt t N then ⟨fun vt => boolV ((gC t).f vt)⟩ else ⟨fun _ => none⟩
    | none => ⟨fun _ => none⟩
  | none => ⟨fun _ => none⟩
theorem zjO (N : Nat) (ops : Array Oper) (j : Nat) (t : Vt) : (yieldC N ops j).f t = yielded ops (toArr N t) j := by
  rw [← zdN]
  unfold yieldC yieldF
  cases ops[j]? with
  | none => rfl
  | some o =>
    simp only []
    cases o.dst with
    | none => rfl
    | some d =>
      simp only [zd2, Array.getElem?_toList, zci]
      cases hb : Nat.blt d N with
      | false => rw [if_neg (zhJ hb)]; rfl
      | true => rw [if_pos (zeo hb)]; simp only [cond_true]; cases (gC d).f t <;> rfl
noncomputable def wantC (N : Nat) (ops : Array Oper) (o : Oper) : Bx (Vt → Bool) :=
  match o.guard with
  | none => ⟨fun _ => true⟩
  | some (j, true) => ⟨fun t => match (yieldC N ops j).f t with | some b => b | none => false⟩
  | some (j, false) => ⟨fun t => match (yieldC N ops j).f t with | some b => not b | none => false⟩
theorem zdA (N : Nat) (ops : Array Oper) (o : Oper) (t : Vt) : (wantC N ops o).f t = wantedB ops (toArr N t) o := by
  rw [← ze2]
  unfold wantC wantF
  cases hg : o.guard with
  | none => rfl
  | some p =>
    obtain ⟨j, w⟩ := p
    simp only [zdN]
    cases w <;> (simp only [zjO]; cases yielded ops (toArr N t) j <;> rfl)
noncomputable def stepC (P : Program) (N : Nat) (ops : Array Oper) (o : Oper) : Bx ((FS → Option (Ex × FS)) → RecC → Ctx → FS → Option (Ex × FS)) :=
  match o.guard with
  | none => ⟨fun ih C x s => afterC (putC N o.dst) ((okC P N o).f C x s) ih⟩
  | some _ => ⟨fun ih C x s => bif (wantC N ops o).f s.t then afterC (putC N o.dst) ((okC P N o).f C x s) ih else ih { s with t := (putC N o.dst).f s.t undef }⟩
noncomputable def seqC (P : Program) (N : Nat) (ops : Array Oper) : List Oper → RecC → Ctx → FS → Option (Ex × FS) :=
  @List.rec Oper (fun _ => RecC → Ctx → FS → Option (Ex × FS)) (fun _ _ s => some (.normal, s)) (fun o _ ih C x s => (stepC P N ops o).f (fun s => ih C x s) C x s)
theorem zln {P : Program} {N : Nat} {R : Recs} {x : Ctx} {o : Oper} {s : FS} {r : Option (Did × FS)} {k : FS → Option (Ex × FS)} {k' : St → Option (Ex × St)} {e : Ex} {s' : FS}
    (hr : ∀ d s1, r = some (d, s1) → doOp P R x (s.st N) o = some (d, s1.st N)) (hk : ∀ s1, k s1 = some (e, s') → k' (s1.st N) = some (e, s'.st N)) (h : afterC (putC N o.dst) r k = some (e, s')) :
    (match doOp P R x (s.st N) o with | some (.val v, s) => k' { s with tm := put s.tm o.dst v } | some (.panic c, s) => some (.panic c, s) | none => none) = some (e, s'.st N) := by
  cases hc : r with
  | none => rw [hc] at h; cases h
  | some p =>
    obtain ⟨d, s1⟩ := p
    rw [hr d s1 hc]; rw [hc] at h
    cases d with
    | val v =>
      have := hk _ h
      simp only [FS.st, zbg] at this ⊢
      exact this
    | panic c => cases h; rfl
theorem seqC_ok {P : Program} {C : RecC} {R : Recs} (hU : Under P C R) {N : Nat} {x : Ctx} (ops : Array Oper) : ∀ (n i : Nat), i + n = ops.size → ∀ s e s', seqC P N ops (ops.toList.drop i) C x s = some (e, s') → seqOps P R x ops (List.range' i n) (s.st N) = some (e, s'.st N) := by
  intro n
  induction n with
  | zero =>
    intro i hi s e s' h
    rw [List.drop_eq_nil_of_le (by simp; omega)] at h
    cases h; rfl
  | succ n ih =>
    intro i hi s e s' h
    have hlt : i < ops.size := by omega
    have hd : ops.toList.drop i = ops[i] :: ops.toList.drop (i + 1) := by
      rw [List.drop_eq_getElem_cons (by simpa using hlt)]; simp
    rw [hd] at h
    have h : (stepC P N ops ops[i]).f (fun s => seqC P N ops (ops.toList.drop (i + 1)) C x s) C x s = some (e, s') := h
    rw [List.range'_succ]
    simp only [seqOps, Array.getElem?_eq_getElem hlt]
    show (if wantedB ops (toArr N s.t) ops[i] then _ else _) = _
    unfold stepC at h
    have key : (bif (wantC N ops ops[i]).f s.t then afterC (putC N ops[i].dst) ((okC P N ops[i]).f C x s) (fun s => seqC P N ops (ops.toList.drop (i + 1)) C x s) else seqC P N ops (ops.toList.drop (i + 1)) C x { s with t := (putC N ops[i].dst).f s.t undef }) = some (e, s') := by
      cases hg : ops[i].guard with
      | none => rw [hg] at h; rw [show (wantC N ops ops[i]).f s.t = true by unfold wantC; rw [hg]]; exact h
      | some p => rw [hg] at h; exact h
    rw [zdA] at key
    cases hw : wantedB ops (toArr N s.t) ops[i] with
    | false =>
      rw [hw] at key
      have := ih (i + 1) (by omega) _ _ _ key
      simp only [FS.st, zbg] at this
      exact this
    | true =>
      rw [hw] at key
      simp only [if_true]
      exact zln (fun d s1 hr => zgb hU hr) (fun s1 hk => ih (i + 1) (by omega) _ _ _ hk) key
structure LookC where
  o : Oper
  i : Nat
  t : Vt
  v : Value
  n : Nat
structure OpenC where
  s : FS
  hs : List Heap
  looks : List LookC
  news : List (Nat × Nat × Blk)
noncomputable def LookC.look (ops : Array Oper) (N : Nat) (l : LookC) : Look := { o := l.o, tm := toArr N l.t, v := l.v, n := l.n, lo := actsIn ops ((preds ops.toList).getD l.i []), hi := actsMost ops (preds ops.toList) l.i }
noncomputable def OpenC.op (ops : Array Oper) (N : Nat) (z : OpenC) : Open := { s := z.s.st N, hs := z.hs, looks := z.looks.map (LookC.look ops N), news := z.news }
theorem zlk (a b : Nat) : (a == b) = Nat.beq a b := by rw [Bool.eq_iff_iff]; simp [Nat.beq_eq]
def noRecC : RecC := ⟨fun _ _ _ => none, fun _ _ _ _ _ => none, fun _ _ _ => none⟩
def noRec : Recs := ⟨fun _ _ _ => none, fun _ _ _ _ _ => none, fun _ _ _ => none⟩
theorem zd5 (P : Program) : Under P noRecC noRec := ⟨fun _ _ _ _ _ h => (by cases h), fun _ _ _ _ _ _ h => (by cases h), fun _ _ _ _ h => (by cases h)⟩
noncomputable def simC (P : Program) (N : Nat) (o : Oper) (t : Vt) (h : Heap) : Option (Value × Heap) :=
  match (opC P N o).f noRecC ⟨0, none, false⟩ ⟨t, [], .run, h⟩ with
  | some (.val v, s) => some (v, s.h)
  | _ => none
theorem zg1 {P : Program} {N : Nat} {o : Oper} {t : Vt} {h : Heap} {r : Value × Heap} (hs : isSimple o = true) (e : simC P N o t h = some r) : simpleB P (toArr N t) h o = some r := by
  unfold simC at e
  cases hc : (opC P N o).f noRecC ⟨0, none, false⟩ ⟨t, [], .run, h⟩ with
  | none => rw [hc] at e; cases e
  | some p =>
    obtain ⟨d, s⟩ := p
    have := zkE (zd5 P) hc
    rw [zcz, zby hs] at this
    rw [hc] at e
    cases d with
    | panic c => cases e
    | val v =>
      cases e
      have this : valF (FS.st N ⟨t, [], .run, h⟩) (simpleB P (toArr N t) h o) = some (.val v, s.st N) := this
      cases hb : simpleB P (toArr N t) h o with
      | none => rw [hb] at this; cases this
      | some q =>
        rw [hb] at this
        simp only [valF, heapF, Option.some.injEq, Prod.mk.injEq, Did.val.injEq] at this
        obtain ⟨h1, h2⟩ := this
        have h3 := congrArg St.h h2
        obtain ⟨q1, q2⟩ := q
        simp only at h1 h3
        rw [h1, h3]; rfl
noncomputable def openSimC (P : Program) (N : Nat) (z : OpenC) (i : Nat) (o : Oper) : Option OpenC :=
  match simC P N o z.s.t z.s.h with
  | none => none
  | some (v, h) =>
    bif Nat.beq h.n z.s.h.n then
      some { z with s := { z.s with t := (putC N o.dst).f z.s.t v }, looks := bif looks o then { o, i, t := z.s.t, v, n := z.s.h.n } :: z.looks else z.looks }
    else
      match hGet h z.s.h.n with
      | some b => some { z with s := { z.s with h, t := (putC N o.dst).f z.s.t v }, news := (i, z.s.h.n, b) :: z.news }
      | none => none
noncomputable def openActC (P : Program) (N : Nat) (C : RecC) (x : Ctx) (ps : List (List Nat)) (z : OpenC) (i : Nat) (o : Oper) : Option OpenC :=
  match z.news with
  | [] => match (okC P N o).f C x z.s with
    | some (.val v, s) => some { z with s := { s with t := (putC N o.dst).f s.t v }, hs := s.h :: z.hs }
    | _ => none
  | _ :: _ => match (okC P N o).f C x { z.s with h := hide (unseen ps z.news i) z.s.h } with
    | some (.val v, s) =>
      bif (unseen ps z.news i).all (fun p => (s.h.get? p.2.1).isSome) then some { z with s := { s with t := (putC N o.dst).f s.t v, h := unhide (unseen ps z.news i) s.h }, hs := unhide (unseen ps z.news i) s.h :: z.hs } else none
    | _ => none
noncomputable def openStepC (P : Program) (N : Nat) (ops : Array Oper) (i : Nat) (o : Oper) : Bx (RecC → Ctx → OpenC → Option OpenC) :=
  bif isSimple o then bif opsOK P o then
    match o.guard with
    | none => ⟨fun _ _ z => openSimC P N z i o⟩
    | some _ => ⟨fun _ _ z => bif (wantC N ops o).f z.s.t then openSimC P N z i o else some { z with s := { z.s with t := (putC N o.dst).f z.s.t undef } }⟩
    else ⟨fun _ _ z => bif (wantC N ops o).f z.s.t then none else some { z with s := { z.s with t := (putC N o.dst).f z.s.t undef } }⟩
  else ⟨fun C x z => bif (wantC N ops o).f z.s.t then openActC P N C x (preds ops.toList) z i o else some { z with s := { z.s with t := (putC N o.dst).f z.s.t undef }, hs := z.s.h :: z.hs }⟩
theorem zf8 {P : Program} {C : RecC} {R : Recs} (hU : Under P C R) {N : Nat} {x : Ctx} {ops : Array Oper} {i : Nat} {o : Oper} (ho : ops[i]? = some o) {z z' : OpenC} (h : (openStepC P N ops i o).f C x z = some z') :
    openStep P R x ops (preds ops.toList) (z.op ops N) i = some (z'.op ops N) := by
  unfold openStep; simp only [ho]
  unfold openStepC at h
  have hw : wantedB ops (z.op ops N).s.tm o = (wantC N ops o).f z.s.t := (zdA ..).symm
  cases hs : isSimple o with
  | true =>
    rw [hs] at h
    simp only [if_true, hw]
    cases hk : opsOK P o with
    | false =>
      rw [hk] at h; simp only [cond_true, cond_false] at h
      cases hq : (wantC N ops o).f z.s.t with
      | true => rw [hq] at h; cases h
      | false =>
        rw [hq] at h; cases h
        simp only [Bool.false_eq_true, if_false, OpenC.op, FS.st, zbg]
    | true =>
      rw [hk] at h; simp only [cond_true] at h
      have key : (bif (wantC N ops o).f z.s.t then openSimC P N z i o else some { z with s := { z.s with t := (putC N o.dst).f z.s.t undef } }) = some z' := by
        cases hg : o.guard with
        | none => rw [hg] at h; rw [show (wantC N ops o).f z.s.t = true by unfold wantC; rw [hg]]; exact h
        | some p => rw [hg] at h; exact h
      cases hq : (wantC N ops o).f z.s.t with
      | false =>
        rw [hq] at key; cases key
        simp only [Bool.false_eq_true, if_false, OpenC.op, FS.st, zbg]
      | true =>
        rw [hq] at key; simp only [cond_true] at key
        simp only [if_true]
        unfold openSimC at key; unfold openSimple
        rw [hk]
        cases hc : simC P N o z.s.t z.s.h with
        | none => rw [hc] at key; cases key
        | some p =>
          obtain ⟨v, h1⟩ := p
          have hb := zg1 hs hc
          rw [hc] at key; simp only [] at key
          show (match simpleB P (toArr N z.s.t) z.s.h o with | none => none | some (v, h) => if (h.n == z.s.h.n) = true then _ else _) = _
          rw [hb]; simp only []
          have hbe := zlk h1.n z.s.h.n
          cases hn : Nat.beq h1.n z.s.h.n with
          | true =>
            rw [hn] at key; simp only [cond_true] at key
            rw [hbe, hn, if_pos rfl]
            cases hl : looks o with
            | true => rw [hl] at key; cases key; simp only [OpenC.op, FS.st, zbg, if_true]; rfl
            | false => rw [hl] at key; cases key; simp only [OpenC.op, FS.st, zbg, Bool.false_eq_true, if_false, cond_false]
          | false =>
            rw [hn] at key; simp only [cond_false, zfo] at key
            rw [hbe, hn, if_neg (by simp)]
            show (match h1.get? z.s.h.n with | some b => _ | none => none) = _
            cases hg : h1.get? z.s.h.n with
            | none => rw [hg] at key; cases key
            | some b => rw [hg] at key; cases key; simp only [OpenC.op, FS.st, zbg]
  | false =>
    rw [hs] at h
    simp only [cond_false] at h
    simp only [Bool.false_eq_true, if_false, hw]
    cases hq : (wantC N ops o).f z.s.t with
    | false =>
      rw [hq] at h; cases h
      simp only [Bool.false_eq_true, if_false, OpenC.op, FS.st, zbg]
    | true =>
      rw [hq] at h; simp only [cond_true] at h
      simp only [if_true]
      unfold openActC at h; unfold openAct
      obtain ⟨zs, hs, lk, nw⟩ := z
      simp only [OpenC.op] at *
      cases nw with
      | nil =>
        simp only [] at h
        have e1 : unseen (preds ops.toList) [] i = [] := rfl
        simp only [e1, hide, unhide, List.foldl_nil, List.all_nil, if_true]
        cases hc : (okC P N o).f C x zs with
        | none => rw [hc] at h; cases h
        | some p =>
          obtain ⟨d, s1⟩ := p
          have := zgb hU hc
          rw [hc] at h
          have e2 : ({ zs.st N with h := (zs.st N).h } : St) = zs.st N := rfl
          rw [e2, this]
          cases d with
          | panic c => cases h
          | val v => cases h; simp only [FS.st, zbg]
      | cons a nw =>
        simp only [] at h
        cases hc : (okC P N o).f C x { zs with h := hide (unseen (preds ops.toList) (a :: nw) i) zs.h } with
        | none => rw [hc] at h; cases h
        | some p =>
          obtain ⟨d, s1⟩ := p
          have := zgb hU hc
          rw [hc] at h
          have e2 : ({ zs.st N with h := hide (unseen (preds ops.toList) (a :: nw) i) (zs.st N).h } : St) = FS.st N { zs with h := hide (unseen (preds ops.toList) (a :: nw) i) zs.h } := rfl
          rw [e2, this]
          cases d with
          | panic c => cases h
          | val v =>
            simp only [] at h ⊢
            have e3 : (s1.st N).h = s1.h := rfl
            simp only [e3]
            cases ha : (unseen (preds ops.toList) (a :: nw) i).all (fun p => (s1.h.get? p.2.1).isSome) with
            | false => rw [ha] at h; cases h
            | true => rw [ha] at h; cases h; simp only [FS.st, zbg, if_true]
noncomputable def numbered : List Oper → Nat → List (Nat × Oper) := @List.rec Oper (fun _ => Nat → List (Nat × Oper)) (fun _ => []) (fun o _ ih i => (i, o) :: ih (i + 1))
noncomputable def openSeqC (P : Program) (N : Nat) (ops : Array Oper) : List (Nat × Oper) → RecC → Ctx → OpenC → Option OpenC :=
  @List.rec (Nat × Oper) (fun _ => RecC → Ctx → OpenC → Option OpenC) (fun _ _ z => some z) (fun p _ ih C x z => match (openStepC P N ops p.1 p.2).f C x z with | some z => ih C x z | none => none)
theorem zhf {P : Program} {C : RecC} {R : Recs} (hU : Under P C R) {N : Nat} {x : Ctx} (ops : Array Oper) : ∀ (n i : Nat), i + n = ops.size → ∀ z z', openSeqC P N ops (numbered (ops.toList.drop i) i) C x z = some z' → (List.range' i n).foldlM (openStep P R x ops (preds ops.toList)) (z.op ops N) = some (z'.op ops N) := by
  intro n
  induction n with
  | zero =>
    intro i hi z z' h
    rw [List.drop_eq_nil_of_le (by simp; omega)] at h
    cases h; rfl
  | succ n ih =>
    intro i hi z z' h
    have hlt : i < ops.size := by omega
    have hd : ops.toList.drop i = ops[i] :: ops.toList.drop (i + 1) := by
      rw [List.drop_eq_getElem_cons (by simpa using hlt)]; simp
    rw [hd] at h
    have h : (match (openStepC P N ops i ops[i]).f C x z with | some z => openSeqC P N ops (numbered (ops.toList.drop (i + 1)) (i + 1)) C x z | none => none) = some z' := h
    rw [List.range'_succ, List.foldlM_cons]
    cases hc : (openStepC P N ops i ops[i]).f C x z with
    | none => rw [hc] at h; cases h
    | some z1 =>
      rw [hc] at h
      rw [zf8 hU (Array.getElem?_eq_getElem hlt) hc]
      exact ih (i + 1) (by omega) _ _ h
noncomputable def quickSame (a b : Value) (n : Nat) : Bool := match i64Of a with | some x => (match i64Of b with | some y => eqF x y | none => same 20 a b && within 20 n b) | none => same 20 a b && within 20 n b
theorem zfX {a b : Value} {n : Nat} (h : quickSame a b n = true) : (same 20 a b && within 20 n b) = true := by
  unfold quickSame at h
  cases ha : i64Of a with
  | none => rw [ha] at h; exact h
  | some x =>
    rw [ha] at h; simp only [] at h
    cases hb : i64Of b with
    | none => rw [hb] at h; exact h
    | some y =>
      rw [hb] at h; simp only [zc3] at h
      rw [zcZ ha, zcZ hb]
      have : x = y := by simpa using h
      subst this
      simp [same, within]
noncomputable def lookIn (P : Program) (N : Nat) (lo hi : Nat) (l : LookC) : Nat → List Heap → Bool := fun k hs => @List.rec Heap (fun _ => Nat → Bool) (fun _ => true)
  (fun h _ ih k => bif (bif Nat.blt k lo then true else bif Nat.blt hi k then true else match (bif isSimple l.o then simC P N l.o l.t h else none) with
      | some (v, h1) => quickSame v l.v l.n && Nat.beq h1.n h.n
      | none => false) then ih (k + 1) else false) hs k
noncomputable def lookC (P : Program) (ops : Array Oper) (N : Nat) (hs : List Heap) (l : LookC) : Bool :=
  lookIn P N (actsIn ops ((preds ops.toList).getD l.i [])) (actsMost ops (preds ops.toList) l.i) l 0 hs.reverse
theorem zkH {P : Program} {N lo hi : Nat} {l : LookC} : ∀ (hs : List Heap) (k : Nat), lookIn P N lo hi l k hs = true → ∀ j h, hs[j]? = some h → k + j < lo ∨ hi < k + j ∨ ∃ v h1, simpleB P (toArr N l.t) h l.o = some (v, h1) ∧ (same 20 v l.v && h1.n == h.n && within 20 l.n l.v) = true := by
  intro hs
  induction hs with
  | nil => intro k _ j h e; simp at e
  | cons h0 hs ih =>
    intro k hk j h e
    have hk : (bif (bif Nat.blt k lo then true else bif Nat.blt hi k then true else match (bif isSimple l.o then simC P N l.o l.t h0 else none) with
      | some (v, h1) => quickSame v l.v l.n && Nat.beq h1.n h0.n
      | none => false) then lookIn P N lo hi l (k + 1) hs else false) = true := hk
    cases hc : (bif Nat.blt k lo then true else bif Nat.blt hi k then true else match (bif isSimple l.o then simC P N l.o l.t h0 else none) with
      | some (v, h1) => quickSame v l.v l.n && Nat.beq h1.n h0.n
      | none => false) with
    | false => rw [hc] at hk; cases hk
    | true =>
      rw [hc] at hk
      cases j with
      | succ j =>
        rcases ih (k + 1) hk j h (by simpa using e) with a | a | a
        · left; omega
        · right; left; omega
        · right; right; exact a
      | zero =>
        simp only [List.getElem?_cons_zero, Option.some.injEq] at e
        subst e
        cases h1 : Nat.blt k lo with
        | true => left; have := zeo h1; omega
        | false =>
          cases h2 : Nat.blt hi k with
          | true => right; left; have := zeo h2; omega
          | false =>
            right; right
            rw [h1, h2] at hc; simp only [cond_false] at hc
            cases hs : isSimple l.o with
            | false => rw [hs] at hc; cases hc
            | true =>
              rw [hs] at hc; simp only [cond_true] at hc
              cases hm : simC P N l.o l.t h0 with
              | none => rw [hm] at hc; cases hc
              | some p =>
                rw [hm] at hc
                exact ⟨p.1, p.2, zg1 hs hm, by
                  have hc : (quickSame p.1 l.v l.n && Nat.beq p.2.n h0.n) = true := hc
                  rw [Bool.and_eq_true] at hc
                  have := zfX hc.1
                  rw [Bool.and_eq_true] at this
                  rw [zlk, hc.2, this.1, this.2]; rfl⟩
theorem lookC_ok {P : Program} {ops : Array Oper} {N : Nat} {hs : List Heap} {l : LookC} (h : lookC P ops N hs l = true) : lookOK P hs (l.look ops N) = true := by
  unfold lookC at h
  unfold lookOK
  rw [List.all_eq_true]
  intro k hk
  have hk : k < hs.length := List.mem_range.1 hk
  have hget : hs.reverse[k]? = hs[hs.length - 1 - k]? := List.getElem?_reverse hk
  have hlt : hs.length - 1 - k < hs.length := by omega
  have hk2 : hs[hs.length - 1 - k]? = some hs[hs.length - 1 - k] := List.getElem?_eq_getElem hlt
  rw [hk2]
  rcases zkH _ _ h k _ (hget.trans hk2) with a | a | ⟨v, h1, a, b⟩
  · simp only [Bool.or_eq_true]; left; left; rw [Nat.zero_add] at a; exact decide_eq_true a
  · simp only [Bool.or_eq_true]; left; right; rw [Nat.zero_add] at a; exact decide_eq_true a
  · simp only [Bool.or_eq_true]; right
    show (match simpleB P (toArr N l.t) _ l.o with | some (v, h1) => _ | none => false) = true
    rw [a]; exact b
noncomputable def allLooks (P : Program) (ops : Array Oper) (N : Nat) (hs : List Heap) : List LookC → Bool := @List.rec LookC (fun _ => Bool) true (fun l _ ih => bif lookC P ops N hs l then ih else false)
theorem zer {P : Program} {ops : Array Oper} {N : Nat} {hs : List Heap} : ∀ ls, allLooks P ops N hs ls = true → (ls.map (LookC.look ops N)).all (lookOK P hs) = true := by
  intro ls
  induction ls with
  | nil => intro _; rfl
  | cons l ls ih =>
    intro h
    have h : (bif lookC P ops N hs l then allLooks P ops N hs ls else false) = true := h
    cases hc : lookC P ops N hs l with
    | false => rw [hc] at h; cases h
    | true => rw [hc] at h; simp only [List.map_cons, List.all_cons, lookC_ok hc, Bool.true_and]; exact ih h
noncomputable def openEndC (P : Program) (ops : Array Oper) (N : Nat) (r : Option OpenC) : Option (Ex × FS) :=
  match r with
  | none => none
  | some z => match z.hs with
    | [] => some (.normal, z.s)
    | [_] => some (.normal, z.s)
    | _ => bif allLooks P ops N z.hs z.looks then some (.normal, z.s) else none
noncomputable def openC (P : Program) (N : Nat) (ops : Array Oper) : Bx (RecC → Ctx → FS → Option (Ex × FS)) :=
  bif openOK ops then ⟨fun C x s => openEndC P ops N (openSeqC P N ops (numbered ops.toList 0) C x ⟨s, [s.h], [], []⟩)⟩ else ⟨fun _ _ _ => none⟩
theorem zh9 {P : Program} {C : RecC} {R : Recs} (hU : Under P C R) {N : Nat} {x : Ctx} {ops : Array Oper} {s s' : FS} {e : Ex} (h : (openC P N ops).f C x s = some (e, s')) : openOps P R x ops (s.st N) = some (e, s'.st N) := by
  unfold openC at h; unfold openOps
  cases hk : openOK ops with
  | false => rw [hk] at h; cases h
  | true =>
    rw [hk] at h; simp only [cond_true] at h
    rw [if_pos rfl]
    unfold openEndC at h
    cases hc : openSeqC P N ops (numbered ops.toList 0) C x ⟨s, [s.h], [], []⟩ with
    | none => rw [hc] at h; cases h
    | some z =>
      rw [hc] at h; simp only [] at h
      have hq := zhf hU ops ops.size 0 (by omega) ⟨s, [s.h], [], []⟩ z (by simpa using hc)
      rw [List.range_eq_range']
      have e0 : ({ s := s.st N, hs := [(s.st N).h], looks := [], news := [] } : Open) = OpenC.op ops N ⟨s, [s.h], [], []⟩ := rfl
      rw [e0, hq]
      have fin : (z.hs.length ≤ 1 ∨ allLooks P ops N z.hs z.looks = true) ∧ (e, s') = (Ex.normal, z.s) := by
        revert h
        cases hz : z.hs with
        | nil => intro h; cases h; exact ⟨.inl (by simp), rfl⟩
        | cons a l =>
          cases l with
          | nil => intro h; cases h; exact ⟨.inl (by simp), rfl⟩
          | cons b l =>
            intro h; simp only [] at h
            cases ha : allLooks P ops N (a :: b :: l) z.looks with
            | false => rw [ha] at h; cases h
            | true => rw [ha] at h; cases h; exact ⟨.inr rfl, rfl⟩
      obtain ⟨h1, h2⟩ := fin
      cases h2
      have hcond : (decide ((z.op ops N).hs.length ≤ 1) || (z.op ops N).looks.all (lookOK P (z.op ops N).hs)) = true := by
        rw [Bool.or_eq_true]
        rcases h1 with h1 | h1
        · left; exact decide_eq_true h1
        · right; exact zer _ h1
      show (if (decide ((z.op ops N).hs.length ≤ 1) || (z.op ops N).looks.all (lookOK P (z.op ops N).hs)) = true then some (Ex.normal, (z.op ops N).s) else none) = _
      rw [hcond]; rfl
end Go.AX

namespace Go.AX
noncomputable def condC (C : RecC) (x : Ctx) (v : Value) (a b : Code) (s : FS) : Option (Ex × FS) := match v with | .bool t => C.code x (bif t then a else b) s | _ => none
noncomputable def thenC (C : RecC) (x : Ctx) (b : Code) (r : Option (Ex × FS)) : Option (Ex × FS) := match r with | some (.normal, s) => C.code x b s | r => r
noncomputable def blockC (id : Nat) (r : Option (Ex × FS)) : Option (Ex × FS) := match r with | some (.exit i, s) => bif Nat.beq i id then some (.normal, s) else some (.exit i, s) | r => r
noncomputable def rangeC (P : Program) (N : Nat) (C : RecC) (x : Ctx) (s : FS) (f : Operand) (params : Array Tmp) (assign body : Code) : Option (Ex × FS) :=
  match enterLoopB x (s.st N) params assign body with
  | none => none
  | some (l, mark, h) =>
    bif opOK P f then
    match callValueB P ((evC N f).f s.t) #[.func (.yield l) #[] #[]] with
    | some (.enter g args) =>
      match C.call g args false .run h with
      | some (.ret _, _, h) =>
        match loopB h l with
        | some r =>
          bif r.state == .busy then none else
          match r.pending with
          | none => some (.normal, { s with df := mark ++ s.df, h := h.set l (.obj (.loop { r with state := .exhausted })) })
          | some c => C.code x c { s with df := mark ++ s.df, h := h.set l (.obj (.loop { r with state := .exhausted })) }
        | none => none
      | some (.panic c, _, h) => some (.panic c, { s with df := mark ++ s.df, h })
      | none => none
    | _ => none
    else none
theorem zkr {P : Program} {C : RecC} {R : Recs} (hU : Under P C R) {x : Ctx} {s s' : FS} {e : Ex} {f : Operand} {params : Array Tmp} {assign body : Code} (h : rangeC P (nOf P x.fn) C x s f params assign body = some (e, s')) :
    rangeFuncB P R x (s.st (nOf P x.fn)) f params assign body = some (e, s'.st (nOf P x.fn)) := by
  unfold rangeC at h; unfold rangeFuncB
  cases he : enterLoopB x (s.st (nOf P x.fn)) params assign body with
  | none => rw [he] at h; cases h
  | some p =>
    obtain ⟨l, mark, h1⟩ := p
    rw [he] at h; simp only [] at h ⊢
    cases hk : opOK P f with
    | false => rw [hk] at h; cases h
    | true =>
      rw [hk] at h; simp only [cond_true, za1] at h
      simp only [Bool.not_true, Bool.false_eq_true, if_false]
      show (match callValueB P (ev (toArr (nOf P x.fn) s.t) f) #[.func (.yield l) #[] #[]] with | some (.enter g args) => _ | _ => none) = _
      cases hv : callValueB P (ev (toArr (nOf P x.fn) s.t) f) #[.func (.yield l) #[] #[]] with
      | none => rw [hv] at h; cases h
      | some out =>
        rw [hv] at h
        cases out with
        | enter g args =>
          simp only [] at h ⊢
          cases hc : C.call g args false .run h1 with
          | none => rw [hc] at h; cases h
          | some q =>
            rw [hU.call _ _ _ _ _ _ hc]
            rw [hc] at h
            obtain ⟨e1, u, h2⟩ := q
            cases e1 with
            | panic c => cases h; rfl
            | ret v =>
              simp only [] at h ⊢
              cases hl : loopB h2 l with
              | none => rw [hl] at h; cases h
              | some r =>
                rw [hl] at h; simp only [] at h ⊢
                cases hb : (r.state == .busy) with
                | true => rw [hb] at h; cases h
                | false =>
                  rw [hb] at h; simp only [cond_false] at h
                  simp only [Bool.false_eq_true, if_false]
                  cases hp : r.pending with
                  | none => rw [hp] at h; cases h; rfl
                  | some c => rw [hp] at h; exact hU.code _ _ _ _ _ h
        | _ => cases h
noncomputable def codeCC (P : Program) (C : RecC) (x : Ctx) (c : Code) (s : FS) : Option (Ex × FS) :=
  match c with
  | .skip | .label _ => some (.normal, s)
  | .region _ ops draw => bif draw then (openC P (nOf P x.fn) ops).f C x s else seqC P (nOf P x.fn) ops ops.toList C x s
  | .seq a b => thenC C x b (C.code x a s)
  | .cond c a b => condC C x ((evC (nOf P x.fn) c).f s.t) a b s
  | .block id b => blockC id (C.code x b s)
  | .loop b => thenC C x (.loop b) (C.code x b s)
  | .scope b => C.code x b s
  | .exit id => some (.exit id, s)
  | .ret => some (.ret, s)
  | .rangeFunc f params assign body => rangeC P (nOf P x.fn) C x s f params assign body
  | .goto _ | .refuse _ => none
theorem zld {P : Program} {C : RecC} {R : Recs} (hU : Under P C R) (x : Ctx) (c : Code) (s : FS) (e : Ex) (s' : FS) (h : codeCC P C x c s = some (e, s')) : codeF P R x c (s.st (nOf P x.fn)) = some (e, s'.st (nOf P x.fn)) := by
  have then_ok : ∀ a b, thenC C x b (C.code x a s) = some (e, s') → (match R.code x a (s.st (nOf P x.fn)) with | some (.normal, s) => R.code x b s | r => r) = some (e, s'.st (nOf P x.fn)) := by
    intro a b h
    cases hc : C.code x a s with
    | none => rw [hc] at h; cases h
    | some p =>
      obtain ⟨e1, s1⟩ := p
      rw [hU.code _ _ _ _ _ hc]; rw [hc] at h
      cases e1 with
      | normal => exact hU.code _ _ _ _ _ h
      | _ => cases h; rfl
  cases c with
  | skip => cases h; rfl
  | label l => cases h; rfl
  | region id ops draw =>
    simp only [codeCC] at h; simp only [codeF]
    cases draw with
    | true => exact zh9 hU h
    | false =>
      simp only [Bool.false_eq_true, if_false]
      rw [List.range_eq_range']
      exact seqC_ok hU ops ops.size 0 (by omega) _ _ _ h
  | seq a b => exact then_ok a b h
  | cond c a b =>
    simp only [codeCC, za1] at h; simp only [codeF]
    show (match ev (toArr (nOf P x.fn) s.t) c with | .bool t => R.code x (if t then a else b) (s.st (nOf P x.fn)) | _ => none) = _
    unfold condC at h
    cases hv : ev (toArr (nOf P x.fn) s.t) c with
    | bool t => rw [hv] at h; simp only [cond_eq_ite] at h; exact hU.code _ _ _ _ _ h
    | _ => rw [hv] at h; cases h
  | block id b =>
    simp only [codeCC] at h; simp only [codeF]
    cases hc : C.code x b s with
    | none => rw [hc] at h; cases h
    | some p =>
      obtain ⟨e1, s1⟩ := p
      rw [hU.code _ _ _ _ _ hc]; rw [hc] at h
      cases e1 with
      | exit i =>
        simp only [blockC, cond_eq_ite, Nat.beq_eq] at h ⊢
        by_cases hi : i = id
        · rw [if_pos hi] at h ⊢; cases h; rfl
        · rw [if_neg hi] at h ⊢; cases h; rfl
      | _ => cases h; rfl
  | loop b => exact then_ok b (.loop b) h
  | scope b => exact hU.code _ _ _ _ _ h
  | exit id => cases h; rfl
  | ret => cases h; rfl
  | rangeFunc f params assign body => exact zkr hU h
  | goto l => cases h
  | refuse w => cases h
noncomputable def recsOf (C : RecC) : Recs := ⟨fun _ _ _ => none, C.call, C.round⟩
theorem zdg {P : Program} {R R' : Recs} (hc : ∀ f args d u h r, R.call f args d u h = some r → R'.call f args d u h = some r) {fn : Func} {tm : Array Value} : ∀ (ds : List Deferred) (u : FrameMode) (h : Heap) r, leaveB P R fn tm ds u h = some r → leaveB P R' fn tm ds u h = some r := by
  intro ds
  induction ds with
  | nil => intro u h r e; cases u <;> simpa only [leaveB] using e
  | cons d ds ih =>
    intro u h r e
    unfold leaveB at e ⊢
    cases hu : isRun u with
    | true => rw [hu] at e; cases e
    | false =>
      rw [hu] at e
      simp only [Bool.false_eq_true, if_false] at e ⊢
      cases ht : d.target with
      | collected rr =>
        rw [ht] at e; simp only [] at e ⊢
        split at e
        · rename_i hg; exact ih _ _ _ e
        · cases e
      | fn f captured =>
        rw [ht] at e
        cases f with
        | func g =>
          simp only [] at e ⊢
          cases hf : callFuncB P g (d.args ++ captured) with
          | none => rw [hf] at e; cases e
          | some out =>
            rw [hf] at e
            cases out with
            | enter g args =>
              simp only [] at e ⊢
              cases hr : R.call g args true u h with
              | none => rw [hr] at e; cases e
              | some q =>
                rw [hc _ _ _ _ _ _ hr]; rw [hr] at e
                obtain ⟨e1, u1, h1⟩ := q
                cases e1 with
                | ret v => exact ih _ _ _ e
                | panic c => exact ih _ _ _ e
            | _ => cases e
        | _ => cases e
      | _ => rw [ht] at e; cases e
noncomputable def resL (P : Program) (N : Nat) : List ResultVar → Vt → Heap → Option (List Value) :=
  @List.rec ResultVar (fun _ => Vt → Heap → Option (List Value)) (fun _ _ => some []) (fun r _ ih t h => match (match r with | .tmp a => some ((evC N (.tmp a)).f t) | .cell a ty => readC P ty h ((evC N (.tmp a)).f t)) with
    | some v => match ih t h with | some vs => some (v :: vs) | none => none
    | none => none)
theorem resL_eq (P : Program) (N : Nat) (rs : List ResultVar) (t : Vt) (h : Heap) : resL P N rs t h = rs.mapM (resultB P (toArr N t) h) := by
  induction rs with
  | nil => rfl
  | cons r rs ih =>
    show (match (match r with | .tmp a => some ((evC N (.tmp a)).f t) | .cell a ty => readC P ty h ((evC N (.tmp a)).f t)) with
      | some v => match resL P N rs t h with | some vs => some (v :: vs) | none => none
      | none => none) = _
    rw [List.mapM_cons, ih]
    have e : (match r with | .tmp a => some ((evC N (.tmp a)).f t) | .cell a ty => readC P ty h ((evC N (.tmp a)).f t)) = resultB P (toArr N t) h r := by
      cases r with
      | tmp a => simp only [za1]; rfl
      | cell a ty => simp only [za1, zff, zfe]; rfl
    rw [e]
    cases resultB P (toArr N t) h r with
    | none => rfl
    | some v => cases List.mapM (resultB P (toArr N t) h) rs <;> rfl
noncomputable def oneOrAll (r : Option (List Value)) : Option Value := match r with | some [v] => some v | some vs => some (.tuple ⟨vs⟩) | none => none
theorem zko (P : Program) (N : Nat) (fn : Func) (t : Vt) (h : Heap) : oneOrAll (resL P N fn.results.toList t h) = resultsB P fn (toArr N t) h := by
  unfold resultsB
  rw [resL_eq]
  cases fn.results.toList.mapM (resultB P (toArr N t) h) with
  | none => rfl
  | some vs => match vs with
    | [] => rfl
    | [v] => rfl
    | a :: b :: l => rfl
noncomputable def retC (u : FrameMode) (h : Heap) (r : Option Value) : Option (End × FrameMode × Heap) := match r with | some v => some (.ret v, u, h) | none => none
noncomputable def endC (u : FrameMode) (r : Option (End × Heap)) : Option (End × FrameMode × Heap) := match r with | some (e, h) => some (e, u, h) | none => none
noncomputable def leaveC (P : Program) (C : RecC) (fn : Func) (N : Nat) (s : FS) : Option (End × FrameMode × Heap) :=
  match s.df with
  | [] => retC s.up s.h (oneOrAll (resL P N fn.results.toList s.t s.h))
  | _ :: _ => endC s.up (leaveB P (recsOf C) fn (toArr N s.t) s.df .returning s.h)
noncomputable def leftC (P : Program) (C : RecC) (fn : Func) (N : Nat) (r : Option (Ex × FS)) : Option (End × FrameMode × Heap) :=
  match r with
  | some (.normal, s) => leaveC P C fn N s
  | some (.ret, s) => leaveC P C fn N s
  | some (.panic ch, s) => endC s.up (leaveB P (recsOf C) fn (toArr N s.t) s.df (.panicking ch) s.h)
  | _ => none
theorem zgj {P : Program} {C : RecC} {R : Recs} (hU : Under P C R) {fn : Func} {N : Nat} {s : FS} {r : End × FrameMode × Heap} (h : leaveC P C fn N s = some r) : (leaveB P R fn (toArr N s.t) s.df .returning s.h).map (fun p => (p.1, s.up, p.2)) = some r := by
  unfold leaveC at h
  cases hd : s.df with
  | nil =>
    rw [hd] at h; simp only [zko] at h
    unfold leaveB
    cases hr : resultsB P fn (toArr N s.t) s.h with
    | none => rw [hr] at h; cases h
    | some v => rw [hr] at h; cases h; rfl
  | cons d ds =>
    rw [hd] at h; simp only [] at h
    cases hl : leaveB P (recsOf C) fn (toArr N s.t) (d :: ds) .returning s.h with
    | none => rw [hl] at h; cases h
    | some p => rw [zdg (R := recsOf C) (R' := R) hU.call _ _ _ _ hl]; rw [hl] at h; cases h; rfl
noncomputable def bodyC (P : Program) (f : FuncId) : Bx (RecC → Array Value → Bool → FrameMode → Heap → Option (End × FrameMode × Heap)) :=
  match P.funcs[f]? with
  | none => ⟨fun _ _ _ _ _ => none⟩
  | some fn => match fn.body with
    | none => ⟨fun _ _ _ _ _ => none⟩
    | some c => ⟨fun C args dfr up h => bif Nat.ble (lenL args.toList) fn.ntmps then leftC P C fn (nOf P f) (C.code { fn := f, round := none, dfr } c ⟨ofRow args.toList 0 .nil, [], up, h⟩) else none⟩
noncomputable def callCC (P : Program) (K : Known) (C : RecC) (f : FuncId) (args : Array Value) (dfr : Bool) (up : FrameMode) (h : Heap) : Option (End × FrameMode × Heap) :=
  match (bif dfr then none else K f args h) with
  | some r => some (.ret r.1, up, pushAll h r.2)
  | none => (bodyC P f).f C args dfr up h
theorem zlg {P : Program} {K : Known} {C : RecC} {R : Recs} (hU : Under P C R) (f : FuncId) (args : Array Value) (dfr : Bool) (up : FrameMode) (h : Heap) (r : End × FrameMode × Heap) (e : callCC P K C f args dfr up h = some r) : callF P K R f args dfr up h = some r := by
  rw [← zem]
  unfold callCC at e; unfold callFF
  cases hk : (bif dfr then none else K f args h) with
  | some q => rw [hk] at e; exact e
  | none =>
    rw [hk] at e; simp only [] at e ⊢
    unfold bodyC at e; unfold bodyF
    cases hf : P.funcs[f]? with
    | none => rw [hf] at e; cases e
    | some fn =>
      rw [hf] at e; simp only [] at e ⊢
      cases hb : fn.body with
      | none => rw [hb] at e; cases e
      | some c =>
        rw [hb] at e; simp only [zbB] at e ⊢
        cases hl : Nat.ble args.toList.length fn.ntmps with
        | false => rw [hl] at e; cases e
        | true =>
          rw [hl] at e; simp only [cond_true] at e
          have hN : nOf P f = fn.ntmps := by unfold nOf; rw [hf]
          have htm : (⟨appendF args.toList (undefs (fn.ntmps - args.size))⟩ : Array Value) = toArr (nOf P f) (ofRow args.toList 0 .nil) := by
            rw [zbK _ _ (by rw [hN]; exact Nat.le_of_ble_eq_true hl), hN]
            apply Array.ext'; simp [zcA, zdO]
          rw [htm]
          cases hc : C.code { fn := f, round := none, dfr } c ⟨ofRow args.toList 0 .nil, [], up, h⟩ with
          | none => rw [hc] at e; cases e
          | some p =>
            obtain ⟨ex, s1⟩ := p
            have := hU.code _ _ _ _ _ hc
            simp only [FS.st] at this
            rw [this]; rw [hc] at e
            unfold leftF
            cases ex with
            | normal => exact zgj hU e
            | ret => exact zgj hU e
            | exit i => cases e
            | panic ch =>
              simp only [leftC] at e
              cases hl : leaveB P (recsOf C) fn (toArr (nOf P f) s1.t) s1.df (.panicking ch) s1.h with
              | none => rw [hl] at e; cases e
              | some p => rw [hl] at e; simp only [zdg (R := recsOf C) (R' := R) hU.call _ _ _ _ hl]; cases e; rfl
noncomputable def setsC (N : Nat) : List (Tmp × Value) → Vt → Vt := @List.rec (Tmp × Value) (fun _ => Vt → Vt) (fun t => t) (fun p _ ih t => ih ((putC N (some p.1)).f t p.2))
theorem zh0 (N : Nat) (l : List (Tmp × Value)) : ∀ t, toArr N (setsC N l t) = l.foldl (fun tm p => tm.setIfInBounds p.1 p.2) (toArr N t) := by
  induction l with
  | nil => intro t; rfl
  | cons p l ih => intro t; show toArr N (setsC N l ((putC N (some p.1)).f t p.2)) = _; rw [ih, zbg]; rfl
noncomputable def roundEnd (l : Nat) (r : Option (Ex × FS)) (ok : Bool) : Option (End × Heap) :=
  match r with
  | some (.normal, s) => endRoundB l none s.h
  | some (.ret, s) => endRoundB l (some .ret) s.h
  | some (.exit id, s) => endRoundB l (some (.exit id)) s.h
  | some (.panic c, s) => if s.df.isEmpty && ok then some (.panic c, s.h) else none
  | none => none
noncomputable def roundC (P : Program) (C : RecC) (l : Nat) (args : Array Value) (h : Heap) : Option (End × Heap) :=
  match loopB h l with
  | none => none
  | some r0 =>
    bif Nat.beq (lenL args.toList) r0.params.size then
    bif Nat.beq (lenL r0.tmps.toList) (nOf P r0.fn) then
    match C.code { fn := r0.fn, round := some l, dfr := false } r0.assign ⟨setsC (nOf P r0.fn) (r0.params.toList.zip args.toList) (ofRow r0.tmps.toList 0 .nil), [], .run, h⟩ with
    | some (.normal, s) =>
      match loopB s.h l with
      | some r1 => bif r1.state == .ready then roundEnd l (C.code { fn := r0.fn, round := some l, dfr := false } r0.body { s with h := s.h.set l (.obj (.loop { r1 with state := .busy })) }) (P.funcs[r0.fn]?).isSome else none
      | none => none
    | _ => none
    else none
    else none
theorem zkl {P : Program} {C : RecC} {R : Recs} (hU : Under P C R) (l : Nat) (args : Array Value) (h : Heap) (r : End × Heap) (e : roundC P C l args h = some r) : roundF P R l args h = some r := by
  unfold roundC at e; unfold roundF
  cases hl : loopB h l with
  | none => rw [hl] at e; cases e
  | some r0 =>
    rw [hl] at e; simp only [zbB] at e ⊢
    cases h1 : Nat.beq args.toList.length r0.params.size with
    | false => rw [h1] at e; cases e
    | true =>
      rw [h1] at e; simp only [cond_true] at e
      have h1' : args.size = r0.params.size := Nat.eq_of_beq_eq_true h1
      rw [if_neg (by rw [h1']; simp)]
      cases h2 : Nat.beq r0.tmps.toList.length (nOf P r0.fn) with
      | false => rw [h2] at e; cases e
      | true =>
        rw [h2] at e; simp only [cond_true] at e
        have h2' : r0.tmps.toList.length = nOf P r0.fn := Nat.eq_of_beq_eq_true h2
        have htm : (r0.params.zip args).foldl (fun tm (t, a) => tm.setIfInBounds t a) r0.tmps = toArr (nOf P r0.fn) (setsC (nOf P r0.fn) (r0.params.toList.zip args.toList) (ofRow r0.tmps.toList 0 .nil)) := by
          rw [zh0, zbK _ _ (by omega), h2', Nat.sub_self]
          rw [← Array.foldl_toList, Array.toList_zip]
          congr 1
        rw [htm]
        cases hc : C.code { fn := r0.fn, round := some l, dfr := false } r0.assign ⟨setsC (nOf P r0.fn) (r0.params.toList.zip args.toList) (ofRow r0.tmps.toList 0 .nil), [], .run, h⟩ with
        | none => rw [hc] at e; cases e
        | some p =>
          obtain ⟨ex, s⟩ := p
          have := hU.code _ _ _ _ _ hc
          simp only [FS.st] at this
          rw [this]; rw [hc] at e
          cases ex with
          | normal =>
            simp only [] at e ⊢
            cases hl1 : loopB s.h l with
            | none => rw [hl1] at e; cases e
            | some r1 =>
              rw [hl1] at e; simp only [] at e ⊢
              cases hb : (r1.state == .ready) with
              | false => rw [hb] at e; cases e
              | true =>
                rw [hb] at e; simp only [cond_true] at e
                simp only [if_true]
                cases hd : C.code { fn := r0.fn, round := some l, dfr := false } r0.body { s with h := s.h.set l (.obj (.loop { r1 with state := .busy })) } with
                | none => rw [hd] at e; cases e
                | some q =>
                  obtain ⟨ex2, s2⟩ := q
                  have := hU.code _ _ _ _ _ hd
                  simp only [FS.st] at this
                  rw [this]; rw [hd] at e
                  cases ex2 <;> exact e
          | _ => cases e
noncomputable def runC (P : Program) (K : Known) : Nat → RecC := @Nat.rec (fun _ => RecC) noRecC (fun _ C => { code := codeCC P C, call := callCC P K C, round := roundC P C })
theorem runC_under (P : Program) (K : Known) : ∀ n, Under P (runC P K n) (run P K n) := by
  intro n
  induction n with
  | zero => exact zd5 P
  | succ n ih =>
    exact ⟨fun x c s e s' h => zld ih x c s e s' h, fun f args d u h r e => zlg ih f args d u h r e, fun l args h r e => zkl ih l args h r e⟩
end Go.AX

namespace Go.AX
structure RecK where
  call : FuncId → Array Value → Bool → FrameMode → Heap → Option (End × FrameMode × Heap)
  round : Nat → Array Value → Heap → Option (End × Heap)
structure Rest where
  df : List Deferred
  up : FrameMode
noncomputable def toC (C : RecK) : RecC := ⟨fun _ _ _ => none, C.call, C.round⟩
section
open Classical in
noncomputable def lim (P : Program) (K : Known) : Recs where
  code := fun _ _ _ => none
  call := fun f a d u h => if e : ∃ r m, (run P K m).call f a d u h = some r then some e.choose else none
  round := fun l a h => if e : ∃ r m, (run P K m).round l a h = some r then some e.choose else none
end
theorem zfa {P : Program} {K : Known} {m n : Nat} {f : FuncId} {a : Array Value} {d : Bool} {u : FrameMode} {h : Heap} {r r' : End × FrameMode × Heap} (e : (run P K m).call f a d u h = some r) (e' : (run P K n).call f a d u h = some r') : r = r' := by
  have h1 := (zas P K (Nat.le_max_left m n)).call _ _ _ _ _ _ e
  have h2 := (zas P K (Nat.le_max_right m n)).call _ _ _ _ _ _ e'
  rw [h1] at h2; exact Option.some.inj h2
theorem zex {P : Program} {K : Known} {m n : Nat} {l : Nat} {a : Array Value} {h : Heap} {r r' : End × Heap} (e : (run P K m).round l a h = some r) (e' : (run P K n).round l a h = some r') : r = r' := by
  have h1 := (zas P K (Nat.le_max_left m n)).round _ _ _ _ e
  have h2 := (zas P K (Nat.le_max_right m n)).round _ _ _ _ e'
  rw [h1] at h2; exact Option.some.inj h2
theorem zif {P : Program} {K : Known} {m : Nat} {f : FuncId} {a : Array Value} {d : Bool} {u : FrameMode} {h : Heap} {r : End × FrameMode × Heap} (e : (run P K m).call f a d u h = some r) : (lim P K).call f a d u h = some r := by
  have ex : ∃ r m, (run P K m).call f a d u h = some r := ⟨r, m, e⟩
  simp only [lim, dif_pos ex]
  obtain ⟨m', h'⟩ := ex.choose_spec
  rw [zfa h' e]
theorem ziz {P : Program} {K : Known} {f : FuncId} {a : Array Value} {d : Bool} {u : FrameMode} {h : Heap} {r : End × FrameMode × Heap} (e : (lim P K).call f a d u h = some r) : ∃ m, (run P K m).call f a d u h = some r := by
  simp only [lim] at e
  split at e
  · rename_i ex; cases e; exact ex.choose_spec
  · cases e
theorem zkJ {P : Program} {K : Known} {m : Nat} {l : Nat} {a : Array Value} {h : Heap} {r : End × Heap} (e : (run P K m).round l a h = some r) : (lim P K).round l a h = some r := by
  have ex : ∃ r m, (run P K m).round l a h = some r := ⟨r, m, e⟩
  simp only [lim, dif_pos ex]
  obtain ⟨m', h'⟩ := ex.choose_spec
  rw [zex h' e]
theorem zki {P : Program} {K : Known} {l : Nat} {a : Array Value} {h : Heap} {r : End × Heap} (e : (lim P K).round l a h = some r) : ∃ m, (run P K m).round l a h = some r := by
  simp only [lim] at e
  split at e
  · rename_i ex; cases e; exact ex.choose_spec
  · cases e
theorem zit {P : Program} {K : Known} {x : Ctx} {s : St} {o : Oper} {r : Did × St} (h : doOp P (lim P K) x s o = some r) : ∃ m, doOp P (run P K m) x s o = some r := by
  unfold doOp at h ⊢
  cases hk : opsOK P o with
  | false => rw [hk] at h; exact absurd h (by simp)
  | true =>
    rw [hk] at h
    simp only [Bool.not_true, Bool.false_eq_true, if_false] at h ⊢
    cases hs : simpleB P s.tm s.h o with
    | some p => rw [hs] at h; exact ⟨0, h⟩
    | none =>
      rw [hs] at h; simp only [] at h ⊢
      cases hi : isSimple o with
      | true => rw [hi] at h; exact absurd h (by simp)
      | false =>
        rw [hi] at h
        simp only [Bool.false_eq_true, if_false] at h ⊢
        cases he : effectB P s.tm s.h o with
        | none => rw [he] at h; cases h
        | some p =>
          obtain ⟨q, h1⟩ := p
          rw [he] at h
          cases q with
          | enter f args =>
            simp only [] at h ⊢
            cases hc : (lim P K).call f args false .run h1 with
            | none => rw [hc] at h; cases h
            | some a =>
              obtain ⟨m, hm⟩ := ziz hc
              exact ⟨m, by rw [hm]; rw [hc] at h; exact h⟩
          | round l args =>
            simp only [] at h ⊢
            cases hc : (lim P K).round l args h1 with
            | none => rw [hc] at h; cases h
            | some a =>
              obtain ⟨m, hm⟩ := zki hc
              exact ⟨m, by rw [hm]; rw [hc] at h; exact h⟩
          | _ => exact ⟨0, h⟩
theorem zf5 {P : Program} {K : Known} {x : Ctx} {ops : Array Oper} {ps : List (List Nat)} {z z' : Open} {i : Nat} (h : openStep P (lim P K) x ops ps z i = some z') : ∃ m, openStep P (run P K m) x ops ps z i = some z' := by
  unfold openStep at h ⊢
  cases ho : ops[i]? with
  | none => rw [ho] at h; cases h
  | some o =>
    rw [ho] at h; simp only [] at h ⊢
    cases hs : isSimple o with
    | true => rw [hs] at h; exact ⟨0, h⟩
    | false =>
      rw [hs] at h; simp only [Bool.false_eq_true, if_false] at h ⊢
      cases hw : wantedB ops z.s.tm o with
      | false => rw [hw] at h; exact ⟨0, h⟩
      | true =>
        rw [hw] at h; simp only [if_true] at h ⊢
        unfold openAct at h ⊢
        cases hd : doOp P (lim P K) x { z.s with h := hide (unseen ps z.news i) z.s.h } o with
        | none => rw [hd] at h; cases h
        | some p =>
          obtain ⟨m, hm⟩ := zit hd
          exact ⟨m, by rw [hm]; rw [hd] at h; exact h⟩
theorem zgv {P : Program} {K : Known} {x : Ctx} {ops : Array Oper} {ps : List (List Nat)} : ∀ (l : List Nat) (z z' : Open), l.foldlM (openStep P (lim P K) x ops ps) z = some z' → ∃ m, l.foldlM (openStep P (run P K m) x ops ps) z = some z' := by
  intro l
  induction l with
  | nil => intro z z' h; exact ⟨0, h⟩
  | cons i l ih =>
    intro z z' h
    rw [List.foldlM_cons] at h
    cases hc : openStep P (lim P K) x ops ps z i with
    | none => rw [hc] at h; cases h
    | some z1 =>
      rw [hc] at h
      obtain ⟨m1, h1⟩ := zf5 hc
      obtain ⟨m2, h2⟩ := ih z1 z' h
      refine ⟨max m1 m2, ?_⟩
      rw [List.foldlM_cons, zbs (zas P K (Nat.le_max_left m1 m2)) h1]
      exact zcL (fun _ _ _ e => zbs (zas P K (Nat.le_max_right m1 m2)) e) _ _ _ h2
theorem zhi {P : Program} {K : Known} {x : Ctx} {ops : Array Oper} {s : St} {r : Ex × St} (h : openOps P (lim P K) x ops s = some r) : ∃ m, openOps P (run P K m) x ops s = some r := by
  unfold openOps at h ⊢
  cases hk : openOK ops with
  | false => rw [hk] at h; exact absurd h (by simp)
  | true =>
    rw [hk] at h; simp only [if_true] at h ⊢
    cases hc : (List.range ops.size).foldlM (openStep P (lim P K) x ops (preds ops.toList)) { s, hs := [s.h], looks := [], news := [] } with
    | none => rw [hc] at h; cases h
    | some z =>
      obtain ⟨m, hm⟩ := zgv _ _ _ hc
      exact ⟨m, by rw [hm]; rw [hc] at h; exact h⟩
theorem zjo {P : Program} {K : Known} {fn : Func} {tm : Array Value} : ∀ (ds : List Deferred) (u : FrameMode) (h : Heap) r, leaveB P (lim P K) fn tm ds u h = some r → ∃ m, leaveB P (run P K m) fn tm ds u h = some r := by
  intro ds
  induction ds with
  | nil => intro u h r e; exact ⟨0, by cases u <;> simpa only [leaveB] using e⟩
  | cons d ds ih =>
    intro u h r e
    unfold leaveB at e ⊢
    cases hu : isRun u with
    | true => rw [hu] at e; cases e
    | false =>
      rw [hu] at e
      simp only [Bool.false_eq_true, if_false] at e ⊢
      cases ht : d.target with
      | collected rr =>
        rw [ht] at e; simp only [] at e ⊢
        split at e
        · rename_i hg; exact ih _ _ _ e
        · cases e
      | fn f captured =>
        rw [ht] at e
        cases f with
        | func g =>
          simp only [] at e ⊢
          cases hf : callFuncB P g (d.args ++ captured) with
          | none => rw [hf] at e; cases e
          | some out =>
            rw [hf] at e
            cases out with
            | enter g args =>
              simp only [] at e ⊢
              cases hr : (lim P K).call g args true u h with
              | none => rw [hr] at e; cases e
              | some q =>
                rw [hr] at e
                obtain ⟨m1, h1⟩ := ziz hr
                obtain ⟨e1, u1, h2⟩ := q
                cases e1 with
                | ret v =>
                  obtain ⟨m2, h3⟩ := ih _ _ _ e
                  refine ⟨max m1 m2, ?_⟩
                  rw [(zas P K (Nat.le_max_left m1 m2)).call _ _ _ _ _ _ h1]
                  exact zbt (zas P K (Nat.le_max_right m1 m2)) _ _ _ _ h3
                | panic c =>
                  obtain ⟨m2, h3⟩ := ih _ _ _ e
                  refine ⟨max m1 m2, ?_⟩
                  rw [(zas P K (Nat.le_max_left m1 m2)).call _ _ _ _ _ _ h1]
                  exact zbt (zas P K (Nat.le_max_right m1 m2)) _ _ _ _ h3
            | _ => cases e
        | _ => cases e
      | _ => rw [ht] at e; cases e
structure OkK (P : Program) (K : Known) (C : RecK) : Prop where
  call : ∀ f a d u h r, C.call f a d u h = some r → ∃ m, (run P K m).call f a d u h = some r
  round : ∀ l a h r, C.round l a h = some r → ∃ m, (run P K m).round l a h = some r
theorem OkK.under {P : Program} {K : Known} {C : RecK} (hC : OkK P K C) : Under P (toC C) (lim P K) :=
  ⟨fun _ _ _ _ _ h => (by cases h), fun _ _ _ _ _ _ h => (by obtain ⟨m, hm⟩ := hC.call _ _ _ _ _ _ h; exact zif hm), fun _ _ _ _ h => (by obtain ⟨m, hm⟩ := hC.round _ _ _ _ h; exact zkJ hm)⟩
section
variable {β : Type}
noncomputable def someK (r : Option Value) (k : Value → Option β) : Option β := @Option.rec Value (fun _ => Option β) none k r
noncomputable def pairK (r : Option (Value × Heap)) (k : Value × Heap → Option β) : Option β := @Option.rec (Value × Heap) (fun _ => Option β) none k r
noncomputable def heapK (r : Option Heap) (k : Heap → Option β) : Option β := @Option.rec Heap (fun _ => Option β) none k r
noncomputable def finK (p : Bx (Vt → Value → Vt)) (res : Option (Did × FS)) (kn : Vt → Heap → Rest → Option β) (ke : Ex → Vt → Heap → Rest → Option β) : Option β :=
  match res with
  | some (.val v, s) => kn (p.f s.t v) s.h ⟨s.df, s.up⟩
  | some (.panic c, s) => ke (.panic c) s.t s.h ⟨s.df, s.up⟩
  | none => none
noncomputable def callEndK (p : Bx (Vt → Value → Vt)) (t : Vt) (r : Rest) (res : Option (End × FrameMode × Heap)) (kn : Vt → Heap → Rest → Option β) (ke : Ex → Vt → Heap → Rest → Option β) : Option β :=
  match res with
  | some (.ret v, _, h) => kn (p.f t v) h r
  | some (.panic c, _, h) => ke (.panic c) t h r
  | none => none
abbrev KOp (β : Type) := RecK → Ctx → Vt → Heap → Rest → (Vt → Heap → Rest → Option β) → (Ex → Vt → Heap → Rest → Option β) → Option β
noncomputable def genK (P : Program) (N : Nat) (o : Oper) (C : RecK) (x : Ctx) (t : Vt) (h : Heap) (r : Rest) (kn : Vt → Heap → Rest → Option β) (ke : Ex → Vt → Heap → Rest → Option β) : Option β :=
  finK (putC N o.dst) ((opC P N o).f (toC C) x ⟨t, r.df, r.up, h⟩) kn ke
noncomputable def binK (P : Program) (N : Nat) (o : Oper) (op : BinOp) (ty : TypeId) (a b : Operand) (t : Vt) : Option Value :=
  match (binV op).f ((evC N a).f t) ((evC N b).f t) with
  | some v => some v
  | none => binF P (toArr N t) o op ty a b
noncomputable def unK (P : Program) (N : Nat) (o : Oper) (op : UnOp) (a : Operand) (t : Vt) : Option Value :=
  match (unV op).f ((evC N a).f t) with
  | some v => some v
  | none => plainOp P (toArr N t) o
noncomputable def lenK (P : Program) (N : Nat) (o : Oper) (ty : TypeId) (v : Value) (t : Vt) (h : Heap) : Option Value :=
  match (lenC P ty).f v with
  | some r => some r
  | none => lenF P (toArr N t) h o ty v
noncomputable def callOpK (P : Program) (N : Nat) (o : Oper) (c : Call) : Bx (KOp β) :=
  match c.callee with
  | .builtin .len => match c.argTypes[0]?, c.args[0]? with
    | some ty, some a => ⟨fun _ _ t h r kn _ => someK (lenK P N o ty ((evC N a).f t) t h) fun v => kn ((putC N o.dst).f t v) h r⟩
    | _, _ => ⟨fun _ _ _ _ _ _ _ => none⟩
  | .value (.func f) => match P.funcs[f]? with
    | none => ⟨fun _ _ _ _ _ _ _ => none⟩
    | some fn => bif fn.name == "runtime.NumGoroutine" then ⟨fun _ _ _ _ _ _ _ => none⟩
      else bif fn.body.isSome then ⟨fun C _ t h r kn ke => callEndK (putC N o.dst) t r (C.call f ⟨argsC N c.args.toList t⟩ false .run h) kn ke⟩
      else ⟨genK P N o⟩
  | _ => ⟨genK P N o⟩
noncomputable def opK (P : Program) (N : Nat) (o : Oper) : Bx (KOp β) :=
  match o.op with
  | .move a => ⟨fun _ _ t h r kn _ => kn ((putC N o.dst).f t ((evC N a).f t)) h r⟩
  | .assign a => ⟨fun _ _ t h r kn _ => kn ((putC N o.dst).f t ((evC N a).f t)) h r⟩
  | .pick c a b => ⟨fun _ _ t h r kn _ => someK (pickC ((evC N c).f t) ((evC N a).f t) ((evC N b).f t)) fun v => kn ((putC N o.dst).f t v) h r⟩
  | .load ty a => ⟨fun _ _ t h r kn _ => someK (readC P ty h ((evC N a).f t)) fun v => kn ((putC N o.dst).f t v) h r⟩
  | .binOp op ty a b _ => ⟨fun _ _ t h r kn _ => someK (binK P N o op ty a b t) fun v => kn ((putC N o.dst).f t v) h r⟩
  | .unOp op _ a => ⟨fun _ _ t h r kn _ => someK (unK P N o op a t) fun v => kn ((putC N o.dst).f t v) h r⟩
  | .indexAddr ty a i => ⟨fun _ _ t h r kn _ => someK ((indexC P ty).f ((evC N a).f t) ((evC N i).f t)) fun v => kn ((putC N o.dst).f t v) h r⟩
  | .fieldAddr ty a f => ⟨fun _ _ t h r kn _ => someK ((fieldAtC P ty f).f ((evC N a).f t)) fun v => kn ((putC N o.dst).f t v) h r⟩
  | .field ty a f => ⟨fun _ _ t h r kn _ => someK ((fieldC P ty f).f ((evC N a).f t)) fun v => kn ((putC N o.dst).f t v) h r⟩
  | .extract a i => ⟨fun _ _ t h r kn _ => someK (extC ((evC N a).f t) i) fun v => kn ((putC N o.dst).f t v) h r⟩
  | .build ty ps => ⟨fun _ _ t h r kn _ => someK ((fillC P ty).f (partsC N ps.toList t)) fun v => kn ((putC N o.dst).f t v) h r⟩
  | .box e a => ⟨fun _ _ t h r kn _ => pairK (boxCells P e h (cellsL ((evC N a).f t))) fun p => kn ((putC N o.dst).f t p.1) p.2 r⟩
  | .buildSlice ty n ps => ⟨fun _ _ t h r kn _ => pairK ((buildSliceC P ty n).f h (partsC N ps.toList t)) fun p => kn ((putC N o.dst).f t p.1) p.2 r⟩
  | .store ty a v => ⟨fun _ _ t h r kn _ => heapK (writeC P ty h ((evC N v).f t) ((evC N a).f t)) fun h => kn ((putC N o.dst).f t undef) h r⟩
  | .call c => callOpK P N o c
  | _ => ⟨genK P N o⟩
def DidK (P : Program) (N : Nat) (o : Oper) (C : RecK) (x : Ctx) (t : Vt) (h : Heap) (r : Rest) (kn : Vt → Heap → Rest → Option β) (ke : Ex → Vt → Heap → Rest → Option β) (b : β) : Prop :=
  ∃ d s1, (opC P N o).f (toC C) x ⟨t, r.df, r.up, h⟩ = some (d, s1) ∧ (match d with | .val v => kn ((putC N o.dst).f s1.t v) s1.h ⟨s1.df, s1.up⟩ | .panic c => ke (.panic c) s1.t s1.h ⟨s1.df, s1.up⟩) = some b
theorem zeb {P : Program} {N : Nat} {o : Oper} {C : RecK} {x : Ctx} {t : Vt} {h : Heap} {r : Rest} {kn : Vt → Heap → Rest → Option β} {ke : Ex → Vt → Heap → Rest → Option β} {b : β} (e : genK P N o C x t h r kn ke = some b) : DidK P N o C x t h r kn ke b := by
  unfold genK at e
  cases hc : (opC P N o).f (toC C) x ⟨t, r.df, r.up, h⟩ with
  | none => rw [hc] at e; cases e
  | some p =>
    obtain ⟨d, s1⟩ := p
    rw [hc] at e
    exact ⟨d, s1, hc, by cases d <;> exact e⟩
theorem zbW {P : Program} {N : Nat} {o : Oper} {C : RecK} {x : Ctx} {t : Vt} {h : Heap} {r : Rest} {kn : Vt → Heap → Rest → Option β} {ke : Ex → Vt → Heap → Rest → Option β} {b : β} {v : Option Value}
    (hv : (opC P N o).f (toC C) x ⟨t, r.df, r.up, h⟩ = oneC ⟨t, r.df, r.up, h⟩ v) (e : someK v (fun v => kn ((putC N o.dst).f t v) h r) = some b) : DidK P N o C x t h r kn ke b := by
  cases v with
  | none => cases e
  | some v => exact ⟨.val v, _, hv, e⟩
theorem zkx {P : Program} {N : Nat} {o : Oper} {C : RecK} {x : Ctx} {t : Vt} {h : Heap} {r : Rest} {kn : Vt → Heap → Rest → Option β} {ke : Ex → Vt → Heap → Rest → Option β} {b : β} {v : Option (Value × Heap)}
    (hv : (opC P N o).f (toC C) x ⟨t, r.df, r.up, h⟩ = valC ⟨t, r.df, r.up, h⟩ v) (e : pairK v (fun p => kn ((putC N o.dst).f t p.1) p.2 r) = some b) : DidK P N o C x t h r kn ke b := by
  cases v with
  | none => cases e
  | some v => exact ⟨.val v.1, _, hv, e⟩
theorem heap_ok {P : Program} {N : Nat} {o : Oper} {C : RecK} {x : Ctx} {t : Vt} {h : Heap} {r : Rest} {kn : Vt → Heap → Rest → Option β} {ke : Ex → Vt → Heap → Rest → Option β} {b : β} {v : Option Heap}
    (hv : (opC P N o).f (toC C) x ⟨t, r.df, r.up, h⟩ = hhC ⟨t, r.df, r.up, h⟩ v) (e : heapK v (fun h => kn ((putC N o.dst).f t undef) h r) = some b) : DidK P N o C x t h r kn ke b := by
  cases v with
  | none => cases e
  | some v => exact ⟨.val undef, _, hv, e⟩
theorem zkD {P : Program} {N : Nat} {o : Oper} {C : RecK} {x : Ctx} {t : Vt} {h : Heap} {r : Rest} {kn : Vt → Heap → Rest → Option β} {ke : Ex → Vt → Heap → Rest → Option β} {b : β} (e : (opK P N o).f C x t h r kn ke = some b) : DidK P N o C x t h r kn ke b := by
  unfold opK at e
  cases ho : o.op with
  | move a => rw [ho] at e; exact ⟨.val _, _, by unfold opC; rw [ho], e⟩
  | assign a => rw [ho] at e; exact ⟨.val _, _, by unfold opC; rw [ho], e⟩
  | pick c a b => rw [ho] at e; exact zbW (by unfold opC; rw [ho]) e
  | load ty a => rw [ho] at e; exact zbW (by unfold opC; rw [ho]) e
  | binOp op ty a b yt => rw [ho] at e; exact zbW (by unfold opC; rw [ho]; rfl) e
  | unOp op ty a => rw [ho] at e; exact zbW (by unfold opC; rw [ho]; rfl) e
  | indexAddr ty a i => rw [ho] at e; exact zbW (by unfold opC; rw [ho]) e
  | fieldAddr ty a f => rw [ho] at e; exact zbW (by unfold opC; rw [ho]) e
  | field ty a f => rw [ho] at e; exact zbW (by unfold opC; rw [ho]) e
  | extract a i => rw [ho] at e; exact zbW (by unfold opC; rw [ho]) e
  | build ty ps => rw [ho] at e; exact zbW (by unfold opC; rw [ho]) e
  | box el a => rw [ho] at e; exact zkx (by unfold opC; rw [ho]) e
  | buildSlice ty n ps => rw [ho] at e; exact zkx (by unfold opC; rw [ho]) e
  | store ty a v => rw [ho] at e; exact heap_ok (by unfold opC; rw [ho]) e
  | call c =>
    rw [ho] at e
    obtain ⟨callee, args, argTypes⟩ := c
    simp only [] at e
    unfold callOpK at e
    cases callee with
    | value f =>
      cases f with
      | func f =>
        simp only [] at e
        cases hf : P.funcs[f]? with
        | none => rw [hf] at e; cases e
        | some fn =>
          rw [hf] at e; simp only [] at e
          cases hn : (fn.name == "runtime.NumGoroutine") with
          | true => rw [hn] at e; cases e
          | false =>
            rw [hn] at e; simp only [cond_false] at e
            cases hb : fn.body.isSome with
            | false => rw [hb] at e; exact zeb e
            | true =>
              rw [hb] at e; simp only [cond_true] at e
              have hop : (opC P N o).f (toC C) x ⟨t, r.df, r.up, h⟩ = enteredC ⟨t, r.df, r.up, h⟩ (C.call f ⟨argsC N args.toList t⟩ false .run h) := by
                unfold opC; rw [ho]; simp only []; unfold callC; simp only [hf, hn, hb, cond_false, cond_true]; rfl
              cases hc : C.call f ⟨argsC N args.toList t⟩ false .run h with
              | none => rw [hc] at e; cases e
              | some q =>
                rw [hc] at e hop
                obtain ⟨e1, u, h1⟩ := q
                cases e1 with
                | ret v => exact ⟨.val v, _, hop, e⟩
                | panic c => exact ⟨.panic c, _, hop, e⟩
      | _ => exact zeb e
    | invoke rr name => exact zeb e
    | builtin bb =>
      cases bb with
      | len =>
        simp only [] at e
        cases h0 : argTypes[0]? with
        | none => rw [h0] at e; cases e
        | some ty =>
          rw [h0] at e
          cases h1 : args[0]? with
          | none => rw [h1] at e; cases e
          | some a =>
            rw [h1] at e
            exact zbW (by unfold opC; rw [ho]; simp only []; unfold callC; simp only [h0, h1]; rfl) e
      | _ => exact zeb e
  | _ => rw [ho] at e; exact zeb e
end
end Go.AX
