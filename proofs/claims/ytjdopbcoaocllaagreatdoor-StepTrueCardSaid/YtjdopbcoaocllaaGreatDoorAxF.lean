/- The reading for the kernel, each operation's way found once. -/
import Derived.Test.YtjdopbcoaocllaaGreatDoorAxE
import Derived.Test.YtjdopbcoaocllaaGreatDoorAxV
namespace Go.AX
theorem zgL {a b : Nat} (h : Nat.blt a b = true) : a < b := Nat.le_of_ble_eq_true h
theorem zlp {a b : Nat} (h : Nat.blt a b = false) : ¬ a < b := fun k => by
 have : Nat.blt a b = true := Nat.ble_eq_true_of_le k
 rw [this] at h; cases h
inductive Vb where
 | nil
 | node (v : Value) (l r : Vb)
structure N8 (α : Type) where
 a0 : α
 a1 : α
 a2 : α
 a3 : α
 a4 : α
 a5 : α
 a6 : α
 a7 : α
structure Vt where
 lo : N8 (N8 Value)
 hi : Vb
structure Bx (α : Type) where
 f : α
noncomputable def zat {α γ : Type} (b : Bx α) (k : α -> γ) : γ := @Bx.rec α (fun _ => γ) k b
theorem zaD {α γ : Type} (b : Bx α) (k : α -> γ) : zat b k = k b.f := by cases b; rfl
inductive Pth where
 | here
 | l (p : Pth)
 | r (p : Pth)
noncomputable def zi6 : Nat -> Nat -> Pth := @Nat.rec (fun _ => Nat -> Pth) (fun _ => .here)
 (fun _ ih i => @Nat.rec (fun _ => Pth) .here (fun j _ => bif Nat.beq (Nat.mod j 2) 0 then .l (ih (Nat.div j 2)) else .r (ih (Nat.div j 2))) i)
def unpath : Pth -> Nat
 | .here => 0
 | .l p => 2 * unpath p + 1
 | .r p => 2 * unpath p + 2
theorem zev : ∀ n i, i <= n -> unpath (zi6 n i) = i := by
  intro n
  induction n with
  | zero => intro i h; have : i = 0 := by omega
            subst this; rfl
  | succ n ih =>
    intro i h
    cases i with
    | zero => rfl
    | succ j =>
      show unpath (bif Nat.beq (Nat.mod j 2) 0 then .l (zi6 n (Nat.div j 2)) else .r (zi6 n (Nat.div j 2))) = j + 1
      have hd : Nat.div j 2 = j / 2 := rfl
      have hm : Nat.mod j 2 = j % 2 := rfl
      cases hb : Nat.beq (Nat.mod j 2) 0 with
      | true =>
        have := Nat.eq_of_beq_eq_true hb
        simp only [cond_true, unpath, ih _ (by omega : Nat.div j 2 <= n)]; omega
      | false =>
        have : Nat.mod j 2 ≠ 0 := fun q => by rw [q] at hb; cases hb
        simp only [cond_false, unpath, ih _ (by omega : Nat.div j 2 <= n)]; omega
noncomputable def getC : Pth -> Bx (Vb -> Value) := @Pth.rec (fun _ => Bx (Vb -> Value)) ⟨fun t => @Vb.rec (fun _ => Value) undef (fun v _ _ _ _ => v) t⟩
 (fun _ ih => zat ih fun g => ⟨fun t => @Vb.rec (fun _ => Value) undef (fun _ l _ _ _ => g l) t⟩) (fun _ ih => zat ih fun g => ⟨fun t => @Vb.rec (fun _ => Value) undef (fun _ _ r _ _ => g r) t⟩)
noncomputable def setC : Pth -> Bx (Vb -> Value -> Vb) := @Pth.rec (fun _ => Bx (Vb -> Value -> Vb)) ⟨fun t v => @Vb.rec (fun _ => Vb) (.node v .nil .nil) (fun _ l r _ _ => .node v l r) t⟩
 (fun _ ih => ⟨fun t v => @Vb.rec (fun _ => Vb) (.node undef (ih.f .nil v) .nil) (fun w l r _ _ => .node w (ih.f l v) r) t⟩) (fun _ ih => ⟨fun t v => @Vb.rec (fun _ => Vb) (.node undef .nil (ih.f .nil v)) (fun w l r _ _ => .node w l (ih.f r v)) t⟩)
theorem zeo (p : Pth) : (getC p).f .nil = undef := by cases p <;> rfl
theorem vb_same (p : Pth) : ∀ t v, (getC p).f ((setC p).f t v) = v := by
 induction p with
 | here => intro t v; cases t <;> rfl
 | l p ih => intro t v; cases t <;> exact ih _ v
 | r p ih => intro t v; cases t <;> exact ih _ v
theorem vb_other (p : Pth) : ∀ q t v, unpath p ≠ unpath q -> (getC q).f ((setC p).f t v) = (getC q).f t := by
 induction p with
 | here => intro q t v h; cases q with
  | here => exact absurd rfl h
  | l q => cases t with
   | nil => exact zeo q
   | node => rfl
  | r q => cases t with
   | nil => exact zeo q
   | node => rfl
 | l p ih => intro q t v h; cases q with
  | here => cases t <;> rfl
  | l q => cases t with
   | nil => exact (ih q .nil v (fun e => h (by simp only [unpath, e]))).trans (zeo q)
   | node w l r => exact ih q l v (fun e => h (by simp only [unpath, e]))
  | r q => cases t with
   | nil => exact zeo q
   | node => rfl
 | r p ih => intro q t v h; cases q with
  | here => cases t <;> rfl
  | l q => cases t with
   | nil => exact zeo q
   | node => rfl
  | r q => cases t with
   | nil => exact (ih q .nil v (fun e => h (by simp only [unpath, e]))).trans (zeo q)
   | node w l r => exact ih q r v (fun e => h (by simp only [unpath, e]))
noncomputable def zjD {α : Type} (i : Nat) : Bx (N8 α -> α) :=
 match i with
 | 0 => ⟨fun t => t.a0⟩
 | 1 => ⟨fun t => t.a1⟩
 | 2 => ⟨fun t => t.a2⟩
 | 3 => ⟨fun t => t.a3⟩
 | 4 => ⟨fun t => t.a4⟩
 | 5 => ⟨fun t => t.a5⟩
 | 6 => ⟨fun t => t.a6⟩
 | _ => ⟨fun t => t.a7⟩
noncomputable def setD8 {α : Type} (i : Nat) : Bx (N8 α -> α -> N8 α) :=
 match i with
 | 0 => ⟨fun t v => @N8.rec α (fun _ => N8 α) (fun _ a1 a2 a3 a4 a5 a6 a7 => ⟨v, a1, a2, a3, a4, a5, a6, a7⟩) t⟩
 | 1 => ⟨fun t v => @N8.rec α (fun _ => N8 α) (fun a0 _ a2 a3 a4 a5 a6 a7 => ⟨a0, v, a2, a3, a4, a5, a6, a7⟩) t⟩
 | 2 => ⟨fun t v => @N8.rec α (fun _ => N8 α) (fun a0 a1 _ a3 a4 a5 a6 a7 => ⟨a0, a1, v, a3, a4, a5, a6, a7⟩) t⟩
 | 3 => ⟨fun t v => @N8.rec α (fun _ => N8 α) (fun a0 a1 a2 _ a4 a5 a6 a7 => ⟨a0, a1, a2, v, a4, a5, a6, a7⟩) t⟩
 | 4 => ⟨fun t v => @N8.rec α (fun _ => N8 α) (fun a0 a1 a2 a3 _ a5 a6 a7 => ⟨a0, a1, a2, a3, v, a5, a6, a7⟩) t⟩
 | 5 => ⟨fun t v => @N8.rec α (fun _ => N8 α) (fun a0 a1 a2 a3 a4 _ a6 a7 => ⟨a0, a1, a2, a3, a4, v, a6, a7⟩) t⟩
 | 6 => ⟨fun t v => @N8.rec α (fun _ => N8 α) (fun a0 a1 a2 a3 a4 a5 _ a7 => ⟨a0, a1, a2, a3, a4, a5, v, a7⟩) t⟩
 | _ => ⟨fun t v => @N8.rec α (fun _ => N8 α) (fun a0 a1 a2 a3 a4 a5 a6 _ => ⟨a0, a1, a2, a3, a4, a5, a6, v⟩) t⟩
theorem zeS {i : Nat} (h : i < 8) : i = 0 \/ i = 1 \/ i = 2 \/ i = 3 \/ i = 4 \/ i = 5 \/ i = 6 \/ i = 7 := by omega
theorem zli {α : Type} {i : Nat} (h : i < 8) (t : N8 α) (v : α) : (zjD i).f ((setD8 i).f t v) = v := by
 cases t
 rcases zeS h with rfl | rfl | rfl | rfl | rfl | rfl | rfl | rfl <;> rfl
theorem zmv {α : Type} {i j : Nat} (h : i < 8) (k : j < 8) (hij : i ≠ j) (t : N8 α) (v : α) : (zjD j).f ((setD8 i).f t v) = (zjD j).f t := by
 cases t
 rcases zeS h with rfl | rfl | rfl | rfl | rfl | rfl | rfl | rfl <;> rcases zeS k with rfl | rfl | rfl | rfl | rfl | rfl | rfl | rfl <;> first | rfl | exact absurd rfl hij
noncomputable def gC (i : Nat) : Bx (Vt -> Value) :=
 bif Nat.blt i 64 then zat (zjD (α := Value) (Nat.mod i 8)) fun g => zat (zjD (α := N8 Value) (Nat.div i 8)) fun f => ⟨fun t => g (f t.lo)⟩ else zat (getC (zi6 (Nat.sub i 64) (Nat.sub i 64))) fun g => ⟨fun t => g t.hi⟩
noncomputable def sC (i : Nat) : Bx (Vt -> Value -> Vt) :=
 bif Nat.blt i 64 then zat (setD8 (α := N8 Value) (Nat.div i 8)) fun s => zat (setD8 (α := Value) (Nat.mod i 8)) fun s' => zat (zjD (α := N8 Value) (Nat.div i 8)) fun g => ⟨fun t v => @Vt.rec (fun _ => Vt) (fun lo hi => ⟨s lo (s' (g lo) v), hi⟩) t⟩
 else zat (setC (zi6 (Nat.sub i 64) (Nat.sub i 64))) fun s => ⟨fun t v => @Vt.rec (fun _ => Vt) (fun lo hi => ⟨lo, s hi v⟩) t⟩
theorem zpm (i : Nat) (t : Vt) (v : Value) : (gC i).f ((sC i).f t v) = v := by
 unfold gC sC
 simp only [zaD]
 have hd : Nat.div i 8 = i / 8 := rfl
 have hm : Nat.mod i 8 = i % 8 := rfl
 cases hb : Nat.blt i 64 with
 | true =>
  have := zgL hb
  cases t
  simp only [cond_true]
  rw [zli (by omega), zli (by omega)]
 | false => cases t; exact vb_same _ _ _
theorem zmk {i j : Nat} (h : i ≠ j) (t : Vt) (v : Value) : (gC j).f ((sC i).f t v) = (gC j).f t := by
 unfold gC sC
 simp only [zaD]
 have hd : ∀ i, Nat.div i 8 = i / 8 := fun _ => rfl
 have hm : ∀ i, Nat.mod i 8 = i % 8 := fun _ => rfl
 have hs : ∀ i, Nat.sub i 64 = i - 64 := fun _ => rfl
 cases hb : Nat.blt i 64 with
 | true =>
  have h1 := zgL hb
  cases hc : Nat.blt j 64 with
  | false => cases t; rfl
  | true =>
   have h2 := zgL hc
   cases t
   simp only [cond_true]
   by_cases hq : Nat.div i 8 = Nat.div j 8
   ·rw [<- hq, zli (by rw [hd]; omega), zmv (by rw [hm]; omega) (by rw [hm]; omega)]
    rw [hd, hd] at hq
    rw [hm, hm]; omega
   ·rw [zmv (by rw [hd]; omega) (by rw [hd]; omega) hq]
 | false =>
  have h1 := zlp hb
  cases hc : Nat.blt j 64 with
  | true => cases t; rfl
  | false =>
   have h2 := zlp hc
   cases t
   simp only [cond_false]
   refine vb_other _ _ _ _ ?_
   rw [zev _ _ (Nat.le_refl _), zev _ _ (Nat.le_refl _), hs, hs]
   omega
noncomputable def u8 : N8 Value := ⟨undef, undef, undef, undef, undef, undef, undef, undef⟩
noncomputable def Vt.nil : Vt := ⟨⟨u8, u8, u8, u8, u8, u8, u8, u8⟩, .nil⟩
theorem u8_get {i : Nat} (h : i < 8) : (zjD i).f u8 = undef := by rcases zeS h with rfl | rfl | rfl | rfl | rfl | rfl | rfl | rfl <;> rfl
theorem nil_get (i : Nat) : (gC i).f .nil = undef := by
 unfold gC
 simp only [zaD]
 have hd : Nat.div i 8 = i / 8 := rfl
 have hm : Nat.mod i 8 = i % 8 := rfl
 cases hb : Nat.blt i 64 with
 | false => exact zeo _
 | true =>
  have := zgL hb
  have e : (zjD (Nat.div i 8)).f Vt.nil.lo = u8 := by
   rcases zeS (show Nat.div i 8 < 8 by omega) with h | h | h | h | h | h | h | h <;> rw [h] <;> rfl
  simp only [cond_true]
  rw [e, u8_get (by omega)]
noncomputable def ze1 : Nat -> Nat -> Vt -> List Value := @Nat.rec (fun _ => Nat -> Vt -> List Value) (fun _ _ => []) (fun _ ih k t => (gC k).f t :: ih (k + 1) t)
noncomputable def zaz (N : Nat) (t : Vt) : Array Value := ⟨ze1 N 0 t⟩
theorem zks (t : Vt) : ∀ N k i, (ze1 N k t)[i]? = if i < N then some ((gC (k + i)).f t) else none := by
 intro N
 induction N with
 | zero => intro k i; show ([] : List Value)[i]? = _; simp
 | succ N ih =>
  intro k i
  show ((gC k).f t :: ze1 N (k + 1) t)[i]? = _
  cases i with
  | zero => simp
  | succ i => rw [List.getElem?_cons_succ, ih]; simp [Nat.add_assoc, Nat.add_comm 1 i]
theorem zdA (N : Nat) (t : Vt) (i : Nat) : (zaz N t)[i]? = if i < N then some ((gC i).f t) else none := by
 show (Array.mk (ze1 N 0 t))[i]? = _
 rw [List.getElem?_toArray, zks]; simp
theorem zgY (t : Vt) : ∀ N k, (ze1 N k t).length = N := by
 intro N
 induction N with
 | zero => intro k; rfl
 | succ N ih => intro k; show (ze1 N (k + 1) t).length + 1 = _; rw [ih]
theorem zmW (N : Nat) (t : Vt) : (zaz N t).size = N := zgY t N 0
noncomputable def evC (N : Nat) (o : Operand) : Bx (Vt -> Value) :=
 match o with
 | .tmp i => bif Nat.blt i N then gC i else ⟨fun _ => undef⟩
 | .const v => ⟨fun _ => v⟩
 | .global g => ⟨fun _ => .pointer (some ⟨g, 0, none⟩)⟩
 | .func f => ⟨fun _ => .func (.func f) #[] #[]⟩
theorem zbv (N : Nat) (o : Operand) (t : Vt) : (evC N o).f t = ev (zaz N t) o := by
 cases o with
 | tmp i =>
  simp only [evC, ev, Array.getD_eq_getD_getElem?, zdA]
  cases hb : Nat.blt i N with
  | true => simp [zgL hb]
  | false => simp [zlp hb]
 | _ => rfl
noncomputable def putC (N : Nat) (d : Option Tmp) : Bx (Vt -> Value -> Vt) :=
 match d with
 | some d => bif Nat.blt d N then sC d else ⟨fun t _ => t⟩
 | none => ⟨fun t _ => t⟩
theorem zbS (N : Nat) (d : Option Tmp) (t : Vt) (v : Value) : zaz N ((putC N d).f t v) = put (zaz N t) d v := by
 cases d with
 | none => rfl
 | some d =>
  apply Array.ext_getElem?
  intro i
  simp only [putC, put, Array.getElem?_setIfInBounds, zmW]
  cases hb : Nat.blt d N with
  | true =>
   have hd := zgL hb
   simp only [cond_true, zdA]
   by_cases hi : d = i
   ·subst hi; simp [hd, zpm]
   ·simp [hi, zmk hi]
  | false =>
   have hd := zlp hb
   simp only [cond_false, zdA]
   by_cases hi : d = i
   ·subst hi; simp [hd]
   ·simp [hi]
noncomputable def zcy : List Value -> Nat -> Vt -> Vt := @List.rec Value (fun _ => Nat -> Vt -> Vt) (fun _ t => t) (fun v _ ih i t => ih (i + 1) ((sC i).f t v))
theorem zo0 (l : List Value) : ∀ k t i, (gC i).f (zcy l k t) = if k <= i /\ i < k + l.length then l.getD (i - k) undef else (gC i).f t := by
 induction l with
 | nil => intro k t i; rw [if_neg (by simp only [List.length_nil]; omega)]; rfl
 | cons v l ih =>
  intro k t i
  show (gC i).f (zcy l (k + 1) ((sC k).f t v)) = _
  rw [ih]
  by_cases h1 : k + 1 <= i /\ i < k + 1 + l.length
  ·rw [if_pos h1, if_pos (by simp only [List.length_cons]; omega)]
   obtain ⟨j, rfl⟩ : ∃ j, i = k + 1 + j := ⟨i - (k + 1), by omega⟩
   rw [show k + 1 + j - (k + 1) = j by omega, show k + 1 + j - k = j + 1 by omega]; simp
  ·rw [if_neg h1]
   by_cases h2 : k = i
   ·subst h2; rw [zpm, if_pos (by simp)]; simp
   ·rw [zmk h2, if_neg (by simp only [List.length_cons]; omega)]
theorem zcM (N : Nat) (l : List Value) (hl : l.length <= N) : zaz N (zcy l 0 .nil) = ⟨l⟩ ++ Array.replicate (N - l.length) undef := by
 apply Array.ext_getElem?
 intro i
 rw [zdA, zo0]
 rw [nil_get]
 by_cases h1 : i < l.length
 ·rw [if_pos (by omega), if_pos (by omega), Array.getElem?_append_left (by simpa using h1)]; simp [h1]
 ·rw [Array.getElem?_append_right (by simp; omega), Array.getElem?_replicate]
  by_cases h2 : i < N
  ·rw [if_pos h2, if_neg (by omega), if_pos (by simp; omega)]
  ·rw [if_neg h2, if_neg (by simp; omega)]
structure FS where
 t : Vt
 df : List Deferred
 up : FrameMode
 h : Heap
noncomputable def FS.st (N : Nat) (s : FS) : St := ⟨zaz N s.t, s.df, s.up, s.h⟩
noncomputable def btGet : Bt -> Nat -> Option Blk := @Bt.rec (fun _ => Nat -> Option Blk) (fun _ => none)
 (fun b _ _ il ir i => @Nat.rec (fun _ => Option Blk) (some b) (fun j _ => bif Nat.beq (Nat.mod j 2) 0 then il (Nat.div j 2) else ir (Nat.div j 2)) i)
theorem btGet_eq (t : Bt) : ∀ i, btGet t i = t.get i := by
 induction t with
 | nil => intro i; cases i <;> rfl
 | node b l r il ir =>
  intro i
  cases i with
  | zero => rfl
  | succ j =>
   show (bif Nat.beq (Nat.mod j 2) 0 then btGet l (Nat.div j 2) else btGet r (Nat.div j 2)) = _
   rw [il, ir]; rfl
noncomputable def zpN (t : Bt) : Blk -> Bt := @Bt.rec (fun _ => Blk -> Bt) (fun b => .node b .nil .nil) (fun a l _ _ ir b => .node b (ir a) l) t
theorem zpM (t : Bt) : ∀ b, zpN t b = t.cons b := by
 induction t with
 | nil => intro b; rfl
 | node a l r _ ir => intro b; show Bt.node b (zpN r a) l = _; rw [ir]; rfl
noncomputable def btSet : Bt -> Nat -> Blk -> Bt := @Bt.rec (fun _ => Nat -> Blk -> Bt) (fun _ _ => .nil)
 (fun a l r il ir i b => @Nat.rec (fun _ => Bt) (.node b l r) (fun j _ => bif Nat.beq (Nat.mod j 2) 0 then .node a (il (Nat.div j 2) b) r else .node a l (ir (Nat.div j 2) b)) i)
theorem btSet_eq (t : Bt) : ∀ i b, btSet t i b = t.set i b := by
 induction t with
 | nil => intro i b; cases i <;> rfl
 | node a l r il ir =>
  intro i b
  cases i with
  | zero => rfl
  | succ j =>
   show (bif Nat.beq (Nat.mod j 2) 0 then Bt.node a (btSet l (Nat.div j 2) b) r else .node a l (btSet r (Nat.div j 2) b)) = _
   rw [il, ir]; rfl
noncomputable def hGet (h : Heap) (i : Nat) : Option Blk := bif Nat.blt i h.n then btGet h.bs (Nat.sub (Nat.sub h.n 1) i) else none
theorem zh9 (h : Heap) (i : Nat) : hGet h i = h.get? i := by
 unfold hGet Heap.get?
 rw [btGet_eq]
 cases hb : Nat.blt i h.n with
 | true => rw [if_pos (zgL hb)]; rfl
 | false => rw [if_neg (zlp hb)]; rfl
noncomputable def hPush (h : Heap) (b : Blk) : Heap := { n := Nat.succ h.n, bs := zpN h.bs b }
theorem zmj (h : Heap) (b : Blk) : hPush h b = h.push b := by unfold hPush Heap.push; rw [zpM]
noncomputable def hSet (h : Heap) (i : Nat) (b : Blk) : Heap := { n := h.n, bs := btSet h.bs (Nat.sub (Nat.sub h.n 1) i) b }
theorem hSet_eq (h : Heap) (i : Nat) (b : Blk) : hSet h i b = h.set i b := by unfold hSet Heap.set; rw [btSet_eq]; rfl
end Go.AX

namespace Go.AX
structure RecC where
 code : Ctx -> Code -> FS -> Option (Ex × FS)
 call : FuncId -> Array Value -> Bool -> FrameMode -> Heap -> Option (End × FrameMode × Heap)
 round : Nat -> Array Value -> Heap -> Option (End × Heap)
noncomputable def nOf (P : Program) (f : FuncId) : Nat := match P.funcs[f]? with | some fn => fn.ntmps | none => 0
structure Under (P : Program) (C : RecC) (R : Recs) : Prop where
 code : ∀ x c s e s', C.code x c s = some (e, s') -> R.code x c (s.st (nOf P x.fn)) = some (e, s'.st (nOf P x.fn))
 call : ∀ f args d u h r, C.call f args d u h = some r -> R.call f args d u h = some r
 round : ∀ l args h r, C.round l args h = some r -> R.round l args h = some r
noncomputable def oneC (s : FS) (r : Option Value) : Option (Did × FS) := match r with | some v => some (.val v, s) | none => none
noncomputable def valC (s : FS) (r : Option (Value × Heap)) : Option (Did × FS) := match r with | some (v, h) => some (.val v, { s with h }) | none => none
noncomputable def hhC (s : FS) (r : Option Heap) : Option (Did × FS) := match r with | some h => some (.val undef, { s with h }) | none => none
theorem zec {N : Nat} {s s' : FS} {d : Did} {r r' : Option Value} (e : r = r') (h : oneC s r = some (d, s')) : oneF (s.st N) r' = some (d, s'.st N) := by
 subst e; cases r with
 | none => cases h
 | some v => cases h; rfl
theorem zoZ {N : Nat} {s s' : FS} {d : Did} {r r' : Option (Value × Heap)} (e : r = r') (h : valC s r = some (d, s')) : valF (s.st N) r' = some (d, s'.st N) := by
 subst e; cases r with
 | none => cases h
 | some v => cases h; rfl
theorem of_hh {N : Nat} {s s' : FS} {d : Did} {r r' : Option Heap} (e : r = r') (h : hhC s r = some (d, s')) : hhF (s.st N) r' = some (d, s'.st N) := by
 subst e; cases r with
 | none => cases h
 | some v => cases h; rfl
noncomputable def zfO (s : FS) (r : Option (End × FrameMode × Heap)) : Option (Did × FS) :=
 match r with
 | some (.ret v, _, h) => some (.val v, { s with h })
 | some (.panic c, _, h) => some (.panic c, { s with h })
 | none => none
noncomputable def actC (C : RecC) (x : Ctx) (s : FS) (r : Option (Out × Heap)) : Option (Did × FS) :=
 match r with
 | none => none
 | some (.val v, h) => some (.val v, { s with h })
 | some (.enter f args, h) => zfO s (C.call f args false .run h)
 | some (.round l args, h) =>
  match C.round l args h with
  | some (.ret v, h) => some (.val v, { s with h })
  | some (.panic c, h) => some (.panic c, { s with h })
  | none => none
 | some (.defer d, h) => if x.round.isSome then none else some (.val undef, { s with h, df := d :: s.df })
 | some (.recover, h) =>
  if x.round.isSome then none
  else if x.dfr then some (.val (zaU s.up).1, { s with h, up := (zaU s.up).2 })
  else some (.val .nilIface, { s with h })
 | some (.panic v, h) => some (.panic [{ v, recovered := false }], { s with h })
theorem zhr {N : Nat} {s s' : FS} {d : Did} {r r' : Option (End × FrameMode × Heap)} (hr : ∀ a, r = some a -> r' = some a) (h : zfO s r = some (d, s')) : zfN (s.st N) r' = some (d, s'.st N) := by
 cases hc : r with
 | none => rw [hc] at h; cases h
 | some a =>
  rw [hr a hc]; rw [hc] at h
  obtain ⟨e, u, h1⟩ := a
  cases e <;> (cases h; rfl)
theorem zpT {P : Program} {C : RecC} {R : Recs} (hU : Under P C R) {N : Nat} {x : Ctx} {s s' : FS} {d : Did} {r : Option (Out × Heap)} (h : actC C x s r = some (d, s')) : actF R x (s.st N) r = some (d, s'.st N) := by
 cases r with
 | none => cases h
 | some p =>
  obtain ⟨q, h1⟩ := p
  cases q with
  | val v => cases h; rfl
  | enter f args => exact zhr (hU.call _ _ _ _ _) h
  | round l args =>
   simp only [actC] at h
   cases hc : C.round l args h1 with
   | none => rw [hc] at h; cases h
   | some a =>
    simp only [actF, hU.round _ _ _ _ hc]
    rw [hc] at h
    obtain ⟨e, h2⟩ := a
    cases e <;> (cases h; rfl)
  | defer dd =>
   simp only [actC] at h; simp only [actF]
   split at h
   ·cases h
   ·rename_i hx; rw [if_neg hx]; cases h; rfl
  | recover =>
   simp only [actC] at h; simp only [actF]
   split at h
   ·cases h
   ·rename_i hx; rw [if_neg hx]
    split at h
    ·rename_i hd; rw [if_pos hd]; cases h; rfl
    ·rename_i hd; rw [if_neg hd]; cases h; rfl
  | panic v => cases h; rfl
noncomputable def zhF (P : Program) (N : Nat) (C : RecC) (x : Ctx) (s : FS) (o : Oper) : Option (Did × FS) :=
 match zae P (zaz N s.t) s.h o with
 | some (v, h) => some (.val v, { s with h })
 | none => bif zaf o then none else actC C x s (zaZ P (zaz N s.t) s.h o)
theorem zkg {P : Program} {C : RecC} {R : Recs} (hU : Under P C R) {N : Nat} {x : Ctx} {s s' : FS} {d : Did} {o : Oper} (h : zhF P N C x s o = some (d, s')) : zew P R x (s.st N) o = some (d, s'.st N) := by
 unfold zhF at h; unfold zew
 show (match zae P (zaz N s.t) s.h o with | some (v, h) => some (Did.val v, { s.st N with h }) | none => if zaf o then none else actF R x (s.st N) (zaZ P (zaz N s.t) s.h o)) = _
 cases hs : zae P (zaz N s.t) s.h o with
 | some p => rw [hs] at h; cases h; rfl
 | none =>
  rw [hs] at h; simp only [] at h
  cases hi : zaf o with
  | true => rw [hi] at h; cases h
  | false => rw [hi] at h; exact zpT hU h
noncomputable def zfr (op : BinOp) : Bx (Int -> Int -> Option Value) :=
 match op with
 | .add => ⟨fun a b => bif zda (Int.add a b) then some (.int .i64 (Int.add a b)) else none⟩
 | .sub => ⟨fun a b => bif zda (Int.add a (Int.neg b)) then some (.int .i64 (Int.add a (Int.neg b))) else none⟩
 | .mul => ⟨fun a b => bif zda (Int.mul a b) then some (.int .i64 (Int.mul a b)) else none⟩
 | .quo => ⟨fun a b => bif eqF b (.ofNat 0) then none else bif zda (Int.tdiv a b) then some (.int .i64 (Int.tdiv a b)) else none⟩
 | .rem => ⟨fun a b => bif eqF b (.ofNat 0) then none else some (.int .i64 (Int.tmod a b))⟩
 | .eql => ⟨fun a b => some (.bool (eqF a b))⟩
 | .neq => ⟨fun a b => some (.bool (not (eqF a b)))⟩
 | .lss => ⟨fun a b => some (.bool (ltF a b))⟩
 | .leq => ⟨fun a b => some (.bool (not (ltF b a)))⟩
 | .gtr => ⟨fun a b => some (.bool (ltF b a))⟩
 | .geq => ⟨fun a b => some (.bool (not (ltF a b)))⟩
 | _ => ⟨fun _ _ => none⟩
theorem znx {op : BinOp} {a b : Int} {v : Value} (h : (zfr op).f a b = some v) : zaP op a b = some v := by
 cases op <;> simp only [zfr] at h <;> try (cases h; done)
 ·cases hf : zda (Int.add a b) with
  | false => rw [hf] at h; cases h
  | true => rw [hf] at h; cases h; simp only [zaP]; rw [show a + b = Int.add a b from rfl, zcw _ hf]
 ·cases hf : zda (Int.add a (Int.neg b)) with
  | false => rw [hf] at h; cases h
  | true => rw [hf] at h; cases h; simp only [zaP]; rw [show a - b = Int.add a (Int.neg b) from rfl, zcw _ hf]
 ·cases hf : zda (Int.mul a b) with
  | false => rw [hf] at h; cases h
  | true => rw [hf] at h; cases h; simp only [zaP]; rw [show a * b = Int.mul a b from rfl, zcw _ hf]
 ·rw [zeQ] at h
  cases hz : (b == Int.ofNat 0) with
  | true => rw [hz] at h; cases h
  | false =>
   rw [hz] at h; simp only [cond_false] at h
   have : ¬ b = 0 := by simpa using hz
   cases hf : zda (Int.tdiv a b) with
   | false => rw [hf] at h; cases h
   | true => rw [hf] at h; cases h; simp only [zaP, if_neg this, zcw _ hf]
 ·rw [zeQ] at h
  cases hz : (b == Int.ofNat 0) with
  | true => rw [hz] at h; cases h
  | false =>
   rw [hz] at h; cases h
   have : ¬ b = 0 := by simpa using hz
   simp only [zaP, if_neg this]
 ·cases h; simp only [zaP, zeQ]
 ·cases h; simp only [zaP, zeQ]; rfl
 ·cases h; simp only [zaP, zfq]
 ·cases h; simp only [zaP, zfq]; congr 2; rw [Bool.eq_iff_iff]; simp
 ·cases h; simp only [zaP, zfq]
 ·cases h; simp only [zaP, zfq]; congr 2; rw [Bool.eq_iff_iff]; simp
noncomputable def i64Of (v : Value) : Option Int := match v with | .int k a => bif i64 k then some a else none | _ => none
theorem zeM {v : Value} {a : Int} (h : i64Of v = some a) : v = .int .i64 a := by
 cases v with
 | int k n => cases k <;> simp_all [i64Of, i64]
 | _ => cases h
noncomputable def binV (op : BinOp) : Bx (Value -> Value -> Option Value) :=
 ⟨fun x y => match i64Of x with | none => none | some a => match i64Of y with | none => none | some b => (zfr op).f a b⟩
theorem znR {P : Program} {tm : Array Value} {o : Oper} {op : BinOp} {t yt : TypeId} {x y : Operand} {v : Value} (ho : o.op = .binOp op t x y yt) (h : (binV op).f (ev tm x) (ev tm y) = some v) : binF P tm o op t x y = some v := by
 simp only [binV] at h
 cases hx : i64Of (ev tm x) with
 | none => rw [hx] at h; cases h
 | some a =>
  rw [hx] at h; simp only [] at h
  cases hy : i64Of (ev tm y) with
  | none => rw [hy] at h; cases h
  | some b =>
   rw [hy] at h; simp only [] at h
   have hp := zgM (P := P) ho (zeM hx) (zeM hy) (znx h)
   unfold binF
   cases hf : zed op (evF tm x) (evF tm y) with
   | some w =>
    rw [zbg] at hf
    rw [zfu (P := P) ho hf] at hp
    exact hp
   | none => simp only [hp]
noncomputable def binC (P : Program) (N : Nat) (o : Oper) (op : BinOp) (t : TypeId) (a b : Operand) (s : FS) : Option Value :=
 match (binV op).f ((evC N a).f s.t) ((evC N b).f s.t) with
 | some v => some v
 | none => binF P (zaz N s.t) o op t a b
noncomputable def unV (op : UnOp) : Bx (Value -> Option Value) :=
 match op with
 | .not => ⟨fun v => match v with | .bool b => some (.bool (not b)) | _ => none⟩
 | .neg => ⟨fun v => match i64Of v with | some n => bif zda (Int.add (.ofNat 0) (Int.neg n)) then some (.int .i64 (Int.add (.ofNat 0) (Int.neg n))) else none | none => none⟩
 | _ => ⟨fun _ => none⟩
theorem zn2 {P : Program} {tm : Array Value} {o : Oper} {op : UnOp} {t : TypeId} {x : Operand} {v : Value} (ho : o.op = .unOp op t x) (h : (unV op).f (ev tm x) = some v) : zav P tm o = some v := by
 cases op with
 | not =>
  simp only [unV] at h
  split at h
  ·rename_i b hb
   cases h
   have hp : (zaR o && o.op.operands.toList.all fun x => plain deep (ev tm x)) = true := by
    simp [zaR, ho, Op.operands, hb, plain, deep]
   unfold zav
   rw [if_pos hp]
   have he : pe P (execOp (ev tm) o) = some (.value (.bool (!b))) := by
    unfold execOp; rw [ho]; simp only [hb]; rfl
   rw [he]; rfl
  ·cases h
 | neg =>
  simp only [unV] at h
  split at h
  ·rename_i n hn
   have hb := zeM hn
   cases hf : zda (Int.add (.ofNat 0) (Int.neg n)) with
   | false => rw [hf] at h; cases h
   | true =>
    rw [hf] at h; cases h
    have hp : (zaR o && o.op.operands.toList.all fun x => plain deep (ev tm x)) = true := by
     simp [zaR, ho, Op.operands, hb, plain, deep]
    unfold zav
    rw [if_pos hp]
    have he : pe P (execOp (ev tm) o) = some (.value (.int .i64 (IntKind.wrap .i64 (0 - n)))) := by
     unfold execOp; rw [ho]; simp only [hb]; rfl
    rw [he, show (0 : Int) - n = Int.add (.ofNat 0) (Int.neg n) from rfl, zcw _ hf]; rfl
  ·cases h
 | _ => cases h
noncomputable def unC (P : Program) (N : Nat) (o : Oper) (op : UnOp) (a : Operand) (s : FS) : Option Value :=
 match (unV op).f ((evC N a).f s.t) with
 | some v => some v
 | none => zav P (zaz N s.t) o
noncomputable def takeF : Nat -> List Value -> List Value := @Nat.rec (fun _ => List Value -> List Value) (fun _ => []) (fun _ ih l => @List.rec Value (fun _ => List Value) [] (fun a as _ => a :: ih as) l)
theorem zlJ : ∀ n l, takeF n l = l.take n := by
 intro n
 induction n with
 | zero => intro l; rfl
 | succ n ih => intro l; cases l with
  | nil => rfl
  | cons a l => show a :: takeF n l = _; rw [ih]; rfl
noncomputable def dropF : Nat -> List Value -> List Value := @Nat.rec (fun _ => List Value -> List Value) (fun l => l) (fun _ ih l => @List.rec Value (fun _ => List Value) [] (fun _ as _ => ih as) l)
theorem zmr : ∀ n l, dropF n l = l.drop n := by
 intro n
 induction n with
 | zero => intro l; rfl
 | succ n ih => intro l; cases l with
  | nil => rfl
  | cons a l => exact ih l
noncomputable def lenL : List Value -> Nat := @List.rec Value (fun _ => Nat) 0 (fun _ _ n => Nat.succ n)
theorem zcA (l : List Value) : lenL l = l.length := by
 induction l with
 | nil => rfl
 | cons a l ih => exact congrArg Nat.succ ih
noncomputable def zkC (P : Program) (t : TypeId) : Bx (List Value -> Nat -> Option Value) :=
 match aggB P t with
 | some true => match zax P t with
  | some n => ⟨fun cs off => bif Nat.ble (Nat.add off n) (lenL cs) then some (.agg ⟨takeF n (dropF off cs)⟩) else none⟩
  | none => ⟨fun _ _ => none⟩
 | some false => match zax P t with
  | some _ => ⟨fun cs off => optF cs off⟩
  | none => ⟨fun _ _ => none⟩
 | none => ⟨fun _ _ => none⟩
theorem zl0 (P : Program) (t : TypeId) (cs : List Value) (off : Nat) : (zkC P t).f cs off = zoR P t cs off := by
  unfold zkC zoR
  cases aggB P t with
  | none => rfl
  | some b =>
    cases zax P t with
    | none => cases b <;> rfl
    | some n => cases b
                · rfl
                · simp only [zcA, zlJ, zmr]; rfl
noncomputable def zg2 (v : Value) : Option (Nat × Nat) := match v with | .pointer (some ⟨b, o, none⟩) => some (b, o) | _ => none
noncomputable def cellsOf (r : Option Blk) : Option (List Value) := match r with | some (.cells c _ _) => some c | _ => none
noncomputable def partAt (P : Program) (t : TypeId) (o : Nat) (r : Option (List Value)) : Option Value := match r with | some c => (zkC P t).f c o | none => none
noncomputable def zeE (P : Program) (t : TypeId) (h : Heap) (v : Value) : Option Value := match zg2 v with | some p => partAt P t p.2 (cellsOf (hGet h p.1)) | none => none
theorem zhP (P : Program) (t : TypeId) (h : Heap) (v : Value) : zeE P t h v = zoF P h t v := by
 unfold zeE zoF
 cases v with
 | pointer a =>
  rcases a with _ | ⟨b, o, _ | s⟩
  ·rfl
  ·simp only [zg2, zh9]
   cases h.get? b with
   | none => rfl
   | some k => cases k <;> first | rfl | exact zl0 ..
  ·rfl
 | _ => rfl
noncomputable def zfY (c : List Value) (off : Nat) (new : List Value) : List Value := zer (takeF off c) (zer new (dropF (Nat.add off (lenL new)) c))
theorem zhg (c : List Value) (off : Nat) (new : List Value) : zfY c off new = splice c off new := by
 unfold zfY splice
 simp only [zd7, zlJ, zmr, zcA, List.append_assoc]; rfl
noncomputable def oneF' (v : Value) : Bool := match v with | .agg _ => false | .tuple _ => false | _ => true
theorem oneF'_eq (v : Value) : oneF' v = oneB v := by cases v <;> rfl
noncomputable def zjY : List Value -> Bool := @List.rec Value (fun _ => Bool) true (fun v _ ih => bif oneF' v then ih else false)
theorem zgN (l : List Value) : zjY l = l.all oneB := by
 induction l with
 | nil => rfl
 | cons v l ih => show (bif oneF' v then zjY l else false) = _; rw [oneF'_eq, ih, List.all_cons]; cases oneB v <;> rfl
noncomputable def zdi (v : Value) : List Value := match v with | .agg cs => cs.toList | v => [v]
theorem zgG (v : Value) : zdi v = v.cells.toList := by cases v <;> rfl
noncomputable def zhc (P : Program) (t : TypeId) (h : Heap) (new : List Value) (b o : Nat) : Option Heap :=
 match hGet h b, zax P t with
 | some (.cells c e true), some n => bif Nat.beq (lenL new) n && Nat.ble (Nat.add o n) (lenL c) && zjY new then some (hSet h b (.cells (zfY c o new) e true)) else none
 | _, _ => none
noncomputable def ziE (P : Program) (t : TypeId) (h : Heap) (v a : Value) : Option Heap := match zg2 a with | some p => zhc P t h (zdi v) p.1 p.2 | none => none
theorem znY (P : Program) (t : TypeId) (h : Heap) (v a : Value) : ziE P t h v a = zcZ P h t v a := by
 unfold ziE zcZ
 cases a with
 | pointer a =>
  rcases a with _ | ⟨b, o, _ | s⟩
  ·rfl
  ·simp only [zg2, zhc, zh9, zgG, zcA, zgN, zhg, hSet_eq]
   cases h.get? b with
   | none => rfl
   | some k =>
    cases k with
    | cells c e own =>
     cases own with
     | false => cases zax P t <;> rfl
     | true =>
      cases zax P t with
      | none => rfl
      | some n =>
       simp only [cond_eq_ite, Bool.and_eq_true, Nat.ble_eq, Nat.beq_eq, Array.length_toList, and_assoc]
       rfl
    | _ => cases zax P t <;> rfl
  ·rfl
 | _ => rfl
noncomputable def zdK (k : Int) (len : Nat) : Option Nat := match k with | .ofNat m => bif Nat.blt m len then some m else none | .negSucc _ => none
theorem zjB {k : Int} {len m : Nat} (h : zdK k len = some m) : (0 <= k /\ k < len) /\ k.toNat = m := by
 cases k with
 | ofNat j =>
  simp only [zdK] at h
  cases hb : Nat.blt j len with
  | true => rw [hb] at h; cases h; have := zgL hb; exact ⟨⟨by simp, by simp only [Int.ofNat_eq_natCast]; omega⟩, rfl⟩
  | false => rw [hb] at h; cases h
 | negSucc j => cases h
theorem zjC {k : Int} {len : Nat} (h : zdK k len = none) : ¬ (0 <= k /\ k < len) := by
 cases k with
 | ofNat j =>
  simp only [zdK] at h
  cases hb : Nat.blt j len with
  | true => rw [hb] at h; cases h
  | false => have := zlp hb; simp only [Int.ofNat_eq_natCast]; omega
 | negSucc j => omega
noncomputable def idxAt (b o n : Nat) (r : Option Nat) : Option Value := match r with | some m => some (.pointer (some ⟨b, Nat.add o (Nat.mul m n), none⟩)) | none => none
noncomputable def znw (v : Value) : Option Int := match v with | .int _ k => some k | _ => none
noncomputable def rowOf (v : Value) : Option (Nat × Nat × Nat) := match v with | .slice (some ⟨b, o, none⟩) n _ => some (b, o, n) | _ => none
noncomputable def zjA (P : Program) (t : TypeId) : Bx (Value -> Value -> Option Value) :=
 match P.underlying t with
 | some (.array len e) => match zax P e with
  | some n => ⟨fun x i => match znw i with | some k => (match zg2 x with | some p => idxAt p.1 p.2 n (zdK k len) | none => none) | none => none⟩
  | none => ⟨fun _ _ => none⟩
 | some (.slice e) => match zax P e with
  | some n => ⟨fun x i => match znw i with | some k => (match rowOf x with | some p => idxAt p.1 p.2.1 n (zdK k p.2.2) | none => none) | none => none⟩
  | none => ⟨fun _ _ => none⟩
 | _ => ⟨fun _ _ => none⟩
theorem zmh (b o n : Nat) (k : Int) (len : Nat) : idxAt b o n (zdK k len) = if 0 <= k /\ k < len then some (.pointer (some ⟨b, o + k.toNat * n, none⟩)) else none := by
 cases hr : zdK k len with
 | none => rw [if_neg (zjC hr)]; rfl
 | some m => obtain ⟨h1, h2⟩ := zjB hr; rw [if_pos h1, h2]; rfl
theorem zpk (P : Program) (t : TypeId) (x i : Value) : (zjA P t).f x i = zbQ P t x i := by
 unfold zjA zbQ
 cases i with
 | int kk k =>
  simp only []
  cases hu : P.underlying t with
  | none => rfl
  | some d =>
   cases d with
   | array len e =>
    cases x with
    | pointer a => rcases a with _ | ⟨b, o, _ | s⟩ <;> cases hs : zax P e <;> first | rfl | simp only [znw, zg2, zmh, hs]
    | _ => simp only [znw, zg2]; cases zax P e <;> rfl
   | slice e =>
    cases x with
    | slice a len cap => rcases a with _ | ⟨b, o, _ | s⟩ <;> cases hs : zax P e <;> first | rfl | simp only [znw, rowOf, zmh, hs]
    | _ => simp only [znw, rowOf]; cases zax P e <;> rfl
   | _ => rfl
 | _ =>
  simp only []
  cases P.underlying t with
  | none => rfl
  | some d => cases d with
   | array len e => simp only []; cases zax P e <;> rfl
   | slice e => simp only []; cases zax P e <;> rfl
   | _ => rfl
noncomputable def zeP (P : Program) (t : TypeId) (f : Nat) : Bx (Value -> Option Value) :=
 match zbM P t with
 | some fs => match fs[f]? with
  | some fd => match zax P fd.type with
   | some (_ + 1) => ⟨fun x => match zg2 x with | some p => some (.pointer (some ⟨p.1, Nat.add p.2 fd.offset, none⟩)) | none => none⟩
   | _ => ⟨fun _ => none⟩
  | none => ⟨fun _ => none⟩
 | none => ⟨fun _ => none⟩
theorem zlc (P : Program) (t : TypeId) (f : Nat) (x : Value) : (zeP P t f).f x = zb4 P t x f := by
 unfold zeP zb4
 cases zbM P t with
 | none => rfl
 | some fs =>
  cases x with
  | pointer a =>
   rcases a with _ | ⟨b, o, _ | s⟩ <;> (cases hf : fs[f]? with
    | none => first | rfl | simp only [hf]
    | some fd => rcases hs : zax P fd.type with _ | _ | n <;> first | rfl | (simp only [hf, hs]; rfl) | simp only [hf, hs])
  | _ =>
   simp only [zg2]
   cases fs[f]? with
   | none => rfl
   | some fd => simp only []; rcases zax P fd.type with _ | _ | n <;> rfl
noncomputable def zjJ (P : Program) (t : TypeId) (f : Nat) : Bx (Value -> Option Value) :=
 match zbM P t with
 | some fs => match fs[f]? with
  | some fd => ⟨fun x => match x with | .agg cs => (zkC P fd.type).f cs.toList fd.offset | _ => none⟩
  | none => ⟨fun _ => none⟩
 | none => ⟨fun _ => none⟩
theorem zpr (P : Program) (t : TypeId) (f : Nat) (x : Value) : (zjJ P t f).f x = zft P t x f := by
 unfold zjJ zft
 cases zbM P t with
 | none => rfl
 | some fs =>
  simp only []
  cases hf : fs[f]? with
  | none => simp only []; split <;> simp_all
  | some fd =>
   simp only []
   split
   ·simp only [hf, zl0, zlZ]
   ·split <;> simp_all
noncomputable def extC (t : Value) (i : Nat) : Option Value := match t with | .tuple vs => optF vs.toList i | _ => none
theorem extC_eq (t : Value) (i : Nat) : extC t i = extV t i := by
 unfold extC extV; split <;> simp [zgc]
noncomputable def zd6 (P : Program) (t : TypeId) (h : Heap) (c : List Value) : Option (Value × Heap) :=
 match zax P t with
 | some n => bif Nat.beq (lenL c) n && zjY c then some (.pointer (some ⟨h.n, 0, none⟩), hPush h (.cells c t true)) else none
 | none => none
theorem zgK (P : Program) (t : TypeId) (h : Heap) (v : Value) : zd6 P t h (zdi v) = boxB P h t v := by
 unfold zd6 boxB
 cases zax P t with
 | none => rfl
 | some n =>
  simp only [zgG, zcA, zgN, zmj, newB, cond_eq_ite, Array.length_toList, Bool.and_eq_true, Nat.beq_eq]
end Go.AX

namespace Go.AX
theorem zk7 (off : Nat) : ∀ (l : List Value) (i : Nat) (c : Array Value), off + i + l.length <= c.size ->
  ((l.zipIdx i).foldl (fun cs (p : Value × Nat) => cs.setIfInBounds (off + p.2) p.1) c).toList = splice c.toList (off + i) l := by
 intro l
 induction l with
 | nil => intro i c h; simp [splice]
 | cons v l ih =>
  intro i c h
  simp only [List.length_cons] at h
  simp only [List.zipIdx_cons, List.foldl_cons]
  rw [ih (i + 1) _ (by simp; omega)]
  simp only [splice, Array.toList_setIfInBounds, List.length_cons]
  apply List.ext_getElem?
  intro j
  have hc : c.toList.length = c.size := rfl
  simp only [List.getElem?_append, List.length_append, List.length_take, List.length_set, List.getElem?_take, List.getElem?_drop, List.getElem?_set, hc, List.length_cons]
  by_cases h1 : j < off + i
  ·simp only [show j < min (off + (i + 1)) c.size by omega, show j < off + (i + 1) by omega, show j < min (off + i) c.size by omega, if_true, h1, show ¬ off + i = j by omega, if_false, show j < min (off + (i + 1)) c.size + l.length by omega, show j < min (off + i) c.size + (l.length + 1) by omega]
  ·by_cases h2 : j = off + i
   ·subst h2
    simp only [show off + i < min (off + (i + 1)) c.size by omega, show off + i < off + (i + 1) by omega, show ¬ off + i < min (off + i) c.size by omega, if_true, if_false, show off + i < c.size by omega, show off + i < min (off + (i + 1)) c.size + l.length by omega, show off + i < min (off + i) c.size + (l.length + 1) by omega]
    rw [show off + i - min (off + i) c.size = 0 by omega]; rfl
   ·by_cases h3 : j < off + i + 1 + l.length
    ·simp only [show ¬ j < min (off + (i + 1)) c.size by omega, show ¬ j < min (off + i) c.size by omega, if_false, show j < min (off + (i + 1)) c.size + l.length by omega, show j < min (off + i) c.size + (l.length + 1) by omega, if_true]
     rw [show j - min (off + i) c.size = (j - min (off + (i + 1)) c.size) + 1 by omega, List.getElem?_cons_succ]
    ·simp only [show ¬ j < min (off + (i + 1)) c.size + l.length by omega, show ¬ j < min (off + i) c.size + (l.length + 1) by omega, if_false]
     rw [if_neg (by omega)]
     congr 1
     omega
noncomputable def zk9 (place : Nat -> Option (Nat × Nat)) : List (Nat × Value) -> List Value -> Option (List Value) :=
 @List.rec (Nat × Value) (fun _ => List Value -> Option (List Value)) (fun c => some c)
  (fun p _ ih c => match place p.1 with
   | some q => bif Nat.beq (lenL (zdi p.2)) q.2 && Nat.ble (Nat.add q.1 (lenL (zdi p.2))) (lenL c) then ih (zfY c q.1 (zdi p.2)) else none
   | none => none)
theorem zia (place : Nat -> Option (Nat × Nat)) (ps : List (Nat × Value)) : ∀ c : Array Value, (zk9 place ps c.toList).map List.toArray = Instr.fill place c ps := by
 induction ps with
 | nil => intro c; rfl
 | cons p ps ih =>
  intro c
  obtain ⟨i, v⟩ := p
  show Option.map List.toArray (match place i with
   | some q => bif Nat.beq (lenL (zdi v)) q.2 && Nat.ble (Nat.add q.1 (lenL (zdi v))) (lenL c.toList) then zk9 place ps (zfY c.toList q.1 (zdi v)) else none
   | none => none) = Instr.fill place c ((i, v) :: ps)
  unfold Instr.fill
  cases place i with
  | none => rfl
  | some q =>
   obtain ⟨off, size⟩ := q
   simp only [zgG, zcA, zhg, cond_eq_ite, Bool.and_eq_true, Nat.beq_eq, Nat.ble_eq, Array.length_toList, Bool.or_eq_true, decide_eq_true_eq]
   by_cases hc : v.cells.size = size /\ off.add v.cells.size <= c.size
   ·rw [if_pos hc, if_neg (by simp only [ne_eq, not_or, Decidable.not_not]; exact ⟨hc.1, by have := hc.2; have e : off.add v.cells.size = off + v.cells.size := rfl; omega⟩)]
    rw [<- ih]
    have := zk7 off v.cells.toList 0 c (by have := hc.2; have e : off.add v.cells.size = off + v.cells.size := rfl; simp only [Array.length_toList]; omega)
    simp only [Nat.add_zero] at this
    have e2 : (Array.foldl (fun cs x => match x with | (c, j) => cs.setIfInBounds (off + j) c) c v.cells.zipIdx) = ((v.cells.toList.zipIdx 0).foldl (fun cs (p : Value × Nat) => cs.setIfInBounds (off + p.2) p.1) c) := by
     rw [<- Array.foldl_toList, Array.toList_zipIdx]
    rw [e2, this]
   ·rw [if_neg hc, if_pos]
    ·rfl
    ·by_cases h1 : v.cells.size = size
     ·right; have e : off.add v.cells.size = off + v.cells.size := rfl
      have : ¬ off.add v.cells.size <= c.size := fun q => hc ⟨h1, q⟩
      omega
     ·left; exact h1
noncomputable def aggOf (r : Option (List Value)) : Option Value := match r with | some c => some (.agg ⟨c⟩) | none => none
theorem zmB (r : Option (List Value)) : aggOf r = (r.map List.toArray).map .agg := by cases r <;> rfl
noncomputable def zpq (P : Program) (t : TypeId) : Bx (List (Nat × Value) -> Option Value) :=
 match zbe P t with
 | some z => match P.underlying t with
  | some (.struct fs) => match fs.toList.mapM (fun f => (zax P f.type).map fun s => (f.offset, s)) with
   | some places => ⟨fun parts => aggOf (zk9 (fun i => places[i]?) parts z.cells.toList)⟩
   | none => ⟨fun _ => none⟩
  | some (.array _ e) => match zax P e with
   | some s => ⟨fun parts => aggOf (zk9 (fun i => some (Nat.mul i s, s)) parts z.cells.toList)⟩
   | none => ⟨fun _ => none⟩
  | _ => ⟨fun _ => none⟩
 | none => ⟨fun _ => none⟩
theorem fillC_eq (P : Program) (t : TypeId) (parts : List (Nat × Value)) : (zpq P t).f parts = zd9 P t parts := by
 unfold zpq zd9
 cases zbe P t with
 | none => rfl
 | some z =>
  cases P.underlying t with
  | none => rfl
  | some d =>
   cases d with
   | struct fs =>
    simp only []
    cases fs.toList.mapM (fun f => (zax P f.type).map fun s => (f.offset, s)) with
    | none => rfl
    | some places => simp only [zmB, zia]
   | array n e =>
    simp only []
    cases zax P e with
    | none => rfl
    | some s => simp only [zmB, zia]; rfl
   | _ => rfl
noncomputable def zf9 (N : Nat) : List (Nat × Operand) -> Vt -> List (Nat × Value) := @List.rec (Nat × Operand) (fun _ => Vt -> List (Nat × Value)) (fun _ => []) (fun p _ ih t => (p.1, (evC N p.2).f t) :: ih t)
theorem zi7 (N : Nat) (ps : List (Nat × Operand)) (t : Vt) : zf9 N ps t = ps.map fun (i, x) => (i, ev (zaz N t) x) := by
 induction ps with
 | nil => rfl
 | cons p ps ih => show (p.1, (evC N p.2).f t) :: zf9 N ps t = _; rw [ih, zbv]; rfl
noncomputable def zg9 (N : Nat) : List Operand -> Vt -> List Value := @List.rec Operand (fun _ => Vt -> List Value) (fun _ => []) (fun x _ ih t => (evC N x).f t :: ih t)
theorem argsC_eq (N : Nat) (xs : List Operand) (t : Vt) : zg9 N xs t = xs.map (ev (zaz N t)) := by
 induction xs with
 | nil => rfl
 | cons x xs ih => show (evC N x).f t :: zg9 N xs t = _; rw [ih, zbv]; rfl
theorem zis (N : Nat) (a : Array Operand) (t : Vt) : (⟨zg9 N a.toList t⟩ : Array Value) = a.map (ev (zaz N t)) := by
 apply Array.ext'; simp [argsC_eq]
noncomputable def zlE (z : List Value) (n : Nat) : Nat -> List Value := @Nat.rec (fun _ => List Value) [] (fun k ih => (match optF z (Nat.mod (Nat.sub n (Nat.succ k)) (lenL z)) with | some v => v | none => default) :: ih)
theorem znW (z : Array Value) (n : Nat) : ∀ k, k <= n -> zlE z.toList n k = ((List.range' (n - k) k).map (z[· % z.size]!)) := by
 intro k
 induction k with
 | zero => intro _; rfl
 | succ k ih =>
  intro h
  show (match optF z.toList (Nat.mod (Nat.sub n (Nat.succ k)) (lenL z.toList)) with | some v => v | none => default) :: zlE z.toList n k = _
  rw [ih (by omega), List.range'_succ, List.map_cons, zgc, zcA]
  congr 1
  ·rw [show Nat.mod (Nat.sub n (Nat.succ k)) z.toList.length = (n - (k + 1)) % z.size from rfl, Array.getElem?_toList, Array.getElem!_eq_getD, Array.getD_eq_getD_getElem?]
   cases z[(n - (k + 1)) % z.size]? <;> rfl
  ·rw [show n - (k + 1) + 1 = n - k by omega]
theorem zj7 (z : Array Value) (n : Nat) : zlE z.toList n n = (zbu z n).toList := by
 rw [znW z n n (Nat.le_refl _)]; simp [zbu, List.range_eq_range']
noncomputable def zlO (h : Heap) (e : TypeId) (n : Nat) (c : List Value) : Option (Value × Heap) := some (.slice (some ⟨h.n, 0, none⟩) n n, hPush h (.cells c e true))
noncomputable def zcU (P : Program) (t : TypeId) (len : Nat) : Bx (Heap -> List (Nat × Value) -> Option (Value × Heap)) :=
 match P.underlying t with
 | some (.slice e) => match zax P e with
  | some s => match zbe P e with
   | some z => bif Nat.ble (Nat.mul len s) 16777216 && Nat.beq (lenL z.cells.toList) s && Nat.ble len 16777216 then
     ⟨fun h parts => match zk9 (fun i => some (Nat.mul i s, s)) parts (zlE z.cells.toList (Nat.mul len s) (Nat.mul len s)) with
      | some c => bif zjY c && Nat.beq (lenL c) (Nat.mul len s) then zlO h e len c else none
      | none => none⟩
    else ⟨fun _ _ => none⟩
   | none => ⟨fun _ _ => none⟩
  | none => ⟨fun _ _ => none⟩
 | _ => ⟨fun _ _ => none⟩
theorem zg8 (P : Program) (t : TypeId) (len : Nat) (h : Heap) (parts : List (Nat × Value)) : (zcU P t len).f h parts = zaK P h t len parts := by
 unfold zcU zaK
 cases P.underlying t with
 | none => rfl
 | some d =>
  cases d with
  | slice e =>
   simp only []
   cases zax P e with
   | none => rfl
   | some s =>
    cases zbe P e with
    | none => rfl
    | some z =>
     simp only [cond_eq_ite, Bool.and_eq_true, Nat.ble_eq, Nat.beq_eq, zcA, Array.length_toList]
     have e1 : Nat.mul len s = len * s := rfl
     rw [e1]
     by_cases hc : len * s <= 16777216 /\ z.cells.size = s /\ len <= 16777216
     ·rw [if_pos hc, if_pos ⟨⟨hc.1, hc.2.1⟩, hc.2.2⟩]
      rw [zj7, <- zia]
      show (match zk9 (fun i => some (i * s, s)) parts (zbu z.cells (len * s)).toList with | some c => _ | none => none) = _
      cases zk9 (fun i => some (i * s, s)) parts (zbu z.cells (len * s)).toList with
      | none => rfl
      | some c =>
       simp only [Option.map_some, zgN, zlO, zmj]
       cases c.all oneB with
       | false => rfl
       | true =>
        by_cases hl : c.length = len * s
        ·simp [hl]
        ·simp [hl]
     ·rw [if_neg hc, if_neg (fun q => hc ⟨q.1.1, q.1.2, q.2⟩)]
  | _ => rfl
noncomputable def lenC (P : Program) (t : TypeId) : Bx (Value -> Option Value) :=
 match P.underlying t with
 | some (.slice _) => ⟨fun v => match v with | .slice _ n _ => some (.int .i64 (.ofNat n)) | _ => none⟩
 | _ => ⟨fun _ => none⟩
noncomputable def lenO (P : Program) (N : Nat) (o : Oper) (t : TypeId) (v : Value) (s : FS) : Option Value :=
 match (lenC P t).f v with
 | some r => some r
 | none => lenF P (zaz N s.t) s.h o t v
theorem lenO_eq (P : Program) (N : Nat) (o : Oper) (t : TypeId) (v : Value) (s : FS) : lenO P N o t v s = lenF P (zaz N s.t) s.h o t v := by
 unfold lenO lenC
 cases hu : P.underlying t with
 | none => rfl
 | some d =>
  cases d with
  | slice e =>
   cases v with
   | slice a n c => unfold lenF; rw [hu]; rfl
   | _ => rfl
  | _ => rfl
noncomputable def zoN (c a b : Value) : Option Value := match c with | .bool t => some (bif t then a else b) | _ => none
noncomputable def zpL (P : Program) (N : Nat) (o : Oper) (c : Call) : Bx (RecC -> Ctx -> FS -> Option (Did × FS)) :=
 match c.callee with
 | .builtin .len => match c.argTypes[0]?, c.args[0]? with
  | some t, some a => ⟨fun _ _ s => oneC s (lenO P N o t ((evC N a).f s.t) s)⟩
  | _, _ => ⟨fun _ _ _ => none⟩
 | .builtin .append => match c.args[0]?, c.args[1]? with
  | some a, some b => ⟨fun _ _ s => valC s (zbq P s.h c.argTypes ((evC N a).f s.t) ((evC N b).f s.t))⟩
  | _, _ => ⟨fun _ _ _ => none⟩
 | .value (.func f) => match P.funcs[f]? with
  | none => ⟨fun _ _ _ => none⟩
  | some fn => bif fn.name == "runtime.NumGoroutine" then ⟨fun _ _ _ => none⟩
   else bif fn.body.isSome then ⟨fun C _ s => zfO s (C.call f ⟨zg9 N c.args.toList s.t⟩ false .run s.h)⟩
   else ⟨fun C x s => actC C x s ((zbN P f ⟨zg9 N c.args.toList s.t⟩).map fun r => (r, s.h))⟩
 | .value f => ⟨fun C x s => actC C x s ((zaN P ((evC N f).f s.t) ⟨zg9 N c.args.toList s.t⟩).map fun r => (r, s.h))⟩
 | _ => ⟨fun C x s => zhF P N C x s o⟩
noncomputable def opC (P : Program) (N : Nat) (o : Oper) : Bx (RecC -> Ctx -> FS -> Option (Did × FS)) :=
 match o.op with
 | .move a => ⟨fun _ _ s => some (.val ((evC N a).f s.t), s)⟩
 | .assign a => ⟨fun _ _ s => some (.val ((evC N a).f s.t), s)⟩
 | .pick c a b => ⟨fun _ _ s => oneC s (zoN ((evC N c).f s.t) ((evC N a).f s.t) ((evC N b).f s.t))⟩
 | .load t a => ⟨fun _ _ s => oneC s (zeE P t s.h ((evC N a).f s.t))⟩
 | .store t a v => ⟨fun _ _ s => hhC s (ziE P t s.h ((evC N v).f s.t) ((evC N a).f s.t))⟩
 | .binOp op t a b _ => ⟨fun _ _ s => oneC s (binC P N o op t a b s)⟩
 | .unOp op _ a => ⟨fun _ _ s => oneC s (unC P N o op a s)⟩
 | .indexAddr t a i => ⟨fun _ _ s => oneC s ((zjA P t).f ((evC N a).f s.t) ((evC N i).f s.t))⟩
 | .fieldAddr t a f => ⟨fun _ _ s => oneC s ((zeP P t f).f ((evC N a).f s.t))⟩
 | .field t a f => ⟨fun _ _ s => oneC s ((zjJ P t f).f ((evC N a).f s.t))⟩
 | .extract t i => ⟨fun _ _ s => oneC s (extC ((evC N t).f s.t) i)⟩
 | .index t a i => ⟨fun _ _ s => oneC s (zdJ P (zaz N s.t) o t ((evC N a).f s.t) ((evC N i).f s.t))⟩
 | .convert a b v => ⟨fun _ _ s => valC s (zbt P (zaz N s.t) s.h o a b ((evC N v).f s.t))⟩
 | .alloc e => match zbe P e with
  | some z => ⟨fun _ _ s => valC s (zd6 P e s.h (zdi z))⟩
  | none => ⟨fun _ _ _ => none⟩
 | .box e v => ⟨fun _ _ s => valC s (zd6 P e s.h (zdi ((evC N v).f s.t)))⟩
 | .build t ps => ⟨fun _ _ s => oneC s ((zpq P t).f (zf9 N ps.toList s.t))⟩
 | .buildSlice t n ps => ⟨fun _ _ s => valC s ((zcU P t n).f s.h (zf9 N ps.toList s.t))⟩
 | .call c => zpL P N o c
 | _ => ⟨fun C x s => zhF P N C x s o⟩
theorem zoY {P : Program} {C : RecC} {R : Recs} (hU : Under P C R) {N : Nat} {x : Ctx} {s s' : FS} {d : Did} {o : Oper} (h : (opC P N o).f C x s = some (d, s')) : zbC P R x (s.st N) o = some (d, s'.st N) := by
 have slow : (fun C x s => zhF P N C x s o) C x s = some (d, s') -> zbC P R x (s.st N) o = some (d, s'.st N) := fun h => by rw [zd5]; exact zkg hU h
 have simp' : ∀ r : Option (Value × Heap), zaf o = true -> zae P (zaz N s.t) s.h o = r -> valC s r = some (d, s') -> zbC P R x (s.st N) o = some (d, s'.st N) := by
  intro r hs h1 h2
  rw [zd5, zcu hs]
  exact zoZ h1.symm h2
 have onee : ∀ r : Option Value, oneC s r = some (d, s') -> valC s (r.map fun v => (v, s.h)) = some (d, s') := by
  intro r h; cases r with
  | none => cases h
  | some v => cases h; rfl
 unfold opC at h
 cases ho : o.op with
 | move a => rw [ho] at h; cases h; simp only [zbC, ho]; rw [show evF (s.st N).tm a = (evC N a).f s.t by rw [zbg, zbv]; rfl]; rfl
 | assign a => rw [ho] at h; cases h; simp only [zbC, ho]; rw [show evF (s.st N).tm a = (evC N a).f s.t by rw [zbg, zbv]; rfl]; rfl
 | pick c a b =>
  rw [ho] at h; simp only [zbv] at h; simp only [zbC, ho, zbg]
  exact zec (by unfold zoN pickV; rfl) h
 | load t a =>
  rw [ho] at h; simp only [zbv] at h; simp only [zbC, ho, zbg]
  exact zec (zhP ..) h
 | store t a v =>
  rw [ho] at h; simp only [zbv] at h; simp only [zbC, ho, zbg]
  exact of_hh (znY ..) h
 | binOp op t a b yt =>
  rw [ho] at h; simp only [zbC, ho]
  refine zec ?_ h
  unfold binC
  simp only [zbv]
  cases hv : (binV op).f (ev (zaz N s.t) a) (ev (zaz N s.t) b) with
  | none => rfl
  | some v => exact (znR ho hv).symm
 | unOp op t a =>
  rw [ho] at h; simp only [zbC, ho]
  refine zec ?_ h
  unfold unC
  simp only [zbv]
  cases hv : (unV op).f (ev (zaz N s.t) a) with
  | none => rfl
  | some v => exact (zn2 ho hv).symm
 | indexAddr t a i =>
  rw [ho] at h; simp only [zbv] at h; simp only [zbC, ho, zbg]
  exact zec (zpk ..) h
 | fieldAddr t a f =>
  rw [ho] at h; simp only [zbv] at h; simp only [zbC, ho, zbg]
  exact zec (zlc ..) h
 | field t a f =>
  rw [ho] at h; simp only [zbv] at h; simp only [zbC, ho, zbg]
  exact zec (zpr ..) h
 | extract t i =>
  rw [ho] at h; simp only [zbv] at h; simp only [zbC, ho, zbg]
  exact zec (extC_eq ..) h
 | index t a i =>
  rw [ho] at h; simp only [zbv] at h; simp only [zbC, ho, zbg]
  exact zec rfl h
 | convert a b v =>
  rw [ho] at h; simp only [zbv] at h; simp only [zbC, ho, zbg]
  exact zoZ rfl h
 | alloc e =>
  rw [ho] at h; simp only [] at h
  cases hz : zbe P e with
  | none => rw [hz] at h; cases h
  | some z =>
   rw [hz] at h; simp only [zgK] at h
   exact simp' _ (by simp [zaf, ho]) (by simp only [zae, ho, hz]) h
 | box e v =>
  rw [ho] at h; simp only [zgK, zbv] at h
  exact simp' _ (by simp [zaf, ho]) (by simp only [zae, ho]) h
 | build t ps =>
  rw [ho] at h; simp only [fillC_eq, zi7] at h
  exact simp' _ (by simp [zaf, ho]) (by simp only [zae, ho]) (onee _ h)
 | buildSlice t n ps =>
  rw [ho] at h; simp only [zg8, zi7] at h
  exact simp' _ (by simp [zaf, ho]) (by simp only [zae, ho]) h
 | call c =>
  rw [ho] at h
  obtain ⟨callee, args, argTypes⟩ := c
  simp only [zbC, ho, zgJ]
  unfold zpL at h
  cases callee with
  | value f =>
   cases f with
   | func f =>
    simp only [] at h ⊢
    unfold funF
    cases hf : P.funcs[f]? with
    | none => rw [hf] at h; cases h
    | some fn =>
     rw [hf] at h; simp only [] at h ⊢
     cases hn : (fn.name == "runtime.NumGoroutine") with
     | true => rw [hn] at h; cases h
     | false =>
      rw [hn] at h; simp only [cond_false] at h ⊢
      cases hb : fn.body.isSome with
      | true =>
       rw [hb] at h; simp only [cond_true, zis] at h ⊢
       rw [zfQ]
       exact zhr (hU.call _ _ _ _ _) h
      | false =>
       rw [hb] at h; simp only [cond_false, zis] at h ⊢
       rw [zfQ]
       exact zpT hU h
   | _ =>
    simp only [zis, zbv] at h ⊢
    rw [zfQ, zbg]
    exact zpT hU h
  | invoke r name => exact zkg hU h
  | builtin b =>
   cases b with
   | len =>
    simp only [] at h ⊢
    unfold lenV
    cases h0 : argTypes[0]? with
    | none => rw [h0] at h; cases h
    | some t =>
     rw [h0] at h
     cases h1 : args[0]? with
     | none => rw [h1] at h; cases h
     | some a =>
      rw [h1] at h; simp only [lenO_eq, zbv] at h
      simp only [Option.map_some, zbg]
      exact zec rfl h
   | append =>
    simp only [] at h ⊢
    unfold appF
    cases h0 : args[0]? with
    | none => rw [h0] at h; cases h
    | some a =>
     rw [h0] at h
     cases h1 : args[1]? with
     | none => rw [h1] at h; cases h
     | some b =>
      rw [h1] at h; simp only [zbv] at h
      simp only [zbg]
      exact zoZ rfl h
   | _ => exact zkg hU h
 | _ => rw [ho] at h; exact slow h
end Go.AX

namespace Go.AX
noncomputable def zmC (p : Bx (Vt -> Value -> Vt)) (r : Option (Did × FS)) (ih : FS -> Option (Ex × FS)) : Option (Ex × FS) :=
 match r with
 | some (.val v, s) => ih { s with t := p.f s.t v }
 | some (.panic c, s) => some (.panic c, s)
 | none => none
noncomputable def okC (P : Program) (N : Nat) (o : Oper) : Bx (RecC -> Ctx -> FS -> Option (Did × FS)) := bif zah P o then opC P N o else ⟨fun _ _ _ => none⟩
theorem zjj {P : Program} {C : RecC} {R : Recs} (hU : Under P C R) {N : Nat} {x : Ctx} {s s' : FS} {d : Did} {o : Oper} (h : (okC P N o).f C x s = some (d, s')) : doOp P R x (s.st N) o = some (d, s'.st N) := by
 unfold okC at h
 rw [<- zih]; unfold znF
 cases hk : zah P o with
 | false => rw [hk] at h; cases h
 | true => rw [hk] at h; exact zoY hU h
noncomputable def boolV (v : Value) : Option Bool := match v with | .bool b => some b | _ => none
noncomputable def zlG (N : Nat) (ops : Array Oper) (j : Nat) : Bx (Vt -> Option Bool) :=
 match ops[j]? with
 | some o => match o.dst with
  | some t => bif Nat.blt t N then ⟨fun vt => boolV ((gC t).f vt)⟩ else ⟨fun _ => none⟩
  | none => ⟨fun _ => none⟩
 | none => ⟨fun _ => none⟩
theorem znX (N : Nat) (ops : Array Oper) (j : Nat) (t : Vt) : (zlG N ops j).f t = yielded ops (zaz N t) j := by
 rw [<- zfT]
 unfold zlG zlF
 cases ops[j]? with
 | none => rfl
 | some o =>
  simp only []
  cases o.dst with
  | none => rfl
  | some d =>
   simp only [zgc, Array.getElem?_toList, zdA]
   cases hb : Nat.blt d N with
   | false => rw [if_neg (zlp hb)]; rfl
   | true => rw [if_pos (zgL hb)]; simp only [cond_true]; cases (gC d).f t <;> rfl
noncomputable def zce (N : Nat) (ops : Array Oper) (o : Oper) : Bx (Vt -> Bool) :=
 match o.guard with
 | none => ⟨fun _ => true⟩
 | some (j, true) => ⟨fun t => match (zlG N ops j).f t with | some b => b | none => false⟩
 | some (j, false) => ⟨fun t => match (zlG N ops j).f t with | some b => not b | none => false⟩
theorem zfB (N : Nat) (ops : Array Oper) (o : Oper) (t : Vt) : (zce N ops o).f t = zaX ops (zaz N t) o := by
 rw [<- zhA]
 unfold zce zj9
 cases hg : o.guard with
 | none => rfl
 | some p =>
  obtain ⟨j, w⟩ := p
  simp only [zfT]
  cases w <;> (simp only [znX]; cases yielded ops (zaz N t) j <;> rfl)
noncomputable def stepC (P : Program) (N : Nat) (ops : Array Oper) (o : Oper) : Bx ((FS -> Option (Ex × FS)) -> RecC -> Ctx -> FS -> Option (Ex × FS)) :=
 match o.guard with
 | none => ⟨fun ih C x s => zmC (putC N o.dst) ((okC P N o).f C x s) ih⟩
 | some _ => ⟨fun ih C x s => bif (zce N ops o).f s.t then zmC (putC N o.dst) ((okC P N o).f C x s) ih else ih { s with t := (putC N o.dst).f s.t undef }⟩
noncomputable def seqC (P : Program) (N : Nat) (ops : Array Oper) : List Oper -> RecC -> Ctx -> FS -> Option (Ex × FS) :=
 @List.rec Oper (fun _ => RecC -> Ctx -> FS -> Option (Ex × FS)) (fun _ _ s => some (.normal, s)) (fun o _ ih C x s => (stepC P N ops o).f (fun s => ih C x s) C x s)
theorem zpS {P : Program} {N : Nat} {R : Recs} {x : Ctx} {o : Oper} {s : FS} {r : Option (Did × FS)} {k : FS -> Option (Ex × FS)} {k' : St -> Option (Ex × St)} {e : Ex} {s' : FS}
  (hr : ∀ d s1, r = some (d, s1) -> doOp P R x (s.st N) o = some (d, s1.st N)) (hk : ∀ s1, k s1 = some (e, s') -> k' (s1.st N) = some (e, s'.st N)) (h : zmC (putC N o.dst) r k = some (e, s')) :
  (match doOp P R x (s.st N) o with | some (.val v, s) => k' { s with tm := put s.tm o.dst v } | some (.panic c, s) => some (.panic c, s) | none => none) = some (e, s'.st N) := by
 cases hc : r with
 | none => rw [hc] at h; cases h
 | some p =>
  obtain ⟨d, s1⟩ := p
  rw [hr d s1 hc]; rw [hc] at h
  cases d with
  | val v =>
   have := hk _ h
   simp only [FS.st, zbS] at this ⊢
   exact this
  | panic c => cases h; rfl
theorem seqC_ok {P : Program} {C : RecC} {R : Recs} (hU : Under P C R) {N : Nat} {x : Ctx} (ops : Array Oper) : ∀ (n i : Nat), i + n = ops.size -> ∀ s e s', seqC P N ops (ops.toList.drop i) C x s = some (e, s') -> zbm P R x ops (List.range' i n) (s.st N) = some (e, s'.st N) := by
 intro n
 induction n with
 | zero =>
  intro i hi s e s' h
  rw [List.drop_eq_nil_of_le (by simp; omega)] at h
  cases h; rfl
 | succ n ih =>
  intro i hi s e s' h
  have hlt : i < ops.size := by omega
  have hd : ops.toList.drop i = ops[i] :: ops.toList.drop (i + 1) := by
   rw [List.drop_eq_getElem_cons (by simpa using hlt)]; simp
  rw [hd] at h
  have h : (stepC P N ops ops[i]).f (fun s => seqC P N ops (ops.toList.drop (i + 1)) C x s) C x s = some (e, s') := h
  rw [List.range'_succ]
  simp only [zbm, Array.getElem?_eq_getElem hlt]
  show (if zaX ops (zaz N s.t) ops[i] then _ else _) = _
  unfold stepC at h
  have key : (bif (zce N ops ops[i]).f s.t then zmC (putC N ops[i].dst) ((okC P N ops[i]).f C x s) (fun s => seqC P N ops (ops.toList.drop (i + 1)) C x s) else seqC P N ops (ops.toList.drop (i + 1)) C x { s with t := (putC N ops[i].dst).f s.t undef }) = some (e, s') := by
   cases hg : ops[i].guard with
   | none => rw [hg] at h; rw [show (zce N ops ops[i]).f s.t = true by unfold zce; rw [hg]]; exact h
   | some p => rw [hg] at h; exact h
  rw [zfB] at key
  cases hw : zaX ops (zaz N s.t) ops[i] with
  | false =>
   rw [hw] at key
   have := ih (i + 1) (by omega) _ _ _ key
   simp only [FS.st, zbS] at this
   exact this
  | true =>
   rw [hw] at key
   simp only [if_true]
   exact zpS (fun d s1 hr => zjj hU hr) (fun s1 hk => ih (i + 1) (by omega) _ _ _ hk) key
structure LookC where
 o : Oper
 i : Nat
 t : Vt
 v : Value
 n : Nat
structure OpenC where
 s : FS
 hs : List Heap
 looks : List LookC
 news : List (Nat × Nat × Blk)
noncomputable def LookC.look (ops : Array Oper) (N : Nat) (l : LookC) : Look := { o := l.o, tm := zaz N l.t, v := l.v, n := l.n, lo := zci ops ((preds ops.toList).getD l.i []), hi := zaW ops (preds ops.toList) l.i }
noncomputable def OpenC.op (ops : Array Oper) (N : Nat) (z : OpenC) : Open := { s := z.s.st N, hs := z.hs, looks := z.looks.map (LookC.look ops N), news := z.news }
theorem zpQ (a b : Nat) : (a == b) = Nat.beq a b := by rw [Bool.eq_iff_iff]; simp [Nat.beq_eq]
def zl4 : RecC := ⟨fun _ _ _ => none, fun _ _ _ _ _ => none, fun _ _ _ => none⟩
def noRec : Recs := ⟨fun _ _ _ => none, fun _ _ _ _ _ => none, fun _ _ _ => none⟩
theorem zgg (P : Program) : Under P zl4 noRec := ⟨fun _ _ _ _ _ h => (by cases h), fun _ _ _ _ _ _ h => (by cases h), fun _ _ _ _ h => (by cases h)⟩
noncomputable def simC (P : Program) (N : Nat) (o : Oper) (t : Vt) (h : Heap) : Option (Value × Heap) :=
 match (opC P N o).f zl4 ⟨0, none, false⟩ ⟨t, [], .run, h⟩ with
 | some (.val v, s) => some (v, s.h)
 | _ => none
theorem zkq {P : Program} {N : Nat} {o : Oper} {t : Vt} {h : Heap} {r : Value × Heap} (hs : zaf o = true) (e : simC P N o t h = some r) : zae P (zaz N t) h o = some r := by
 unfold simC at e
 cases hc : (opC P N o).f zl4 ⟨0, none, false⟩ ⟨t, [], .run, h⟩ with
 | none => rw [hc] at e; cases e
 | some p =>
  obtain ⟨d, s⟩ := p
  have := zoY (zgg P) hc
  rw [zd5, zcu hs] at this
  rw [hc] at e
  cases d with
  | panic c => cases e
  | val v =>
   cases e
   have this : valF (FS.st N ⟨t, [], .run, h⟩) (zae P (zaz N t) h o) = some (.val v, s.st N) := this
   cases hb : zae P (zaz N t) h o with
   | none => rw [hb] at this; cases this
   | some q =>
    rw [hb] at this
    simp only [valF, zk3, Option.some.injEq, Prod.mk.injEq, Did.val.injEq] at this
    obtain ⟨h1, h2⟩ := this
    have h3 := congrArg St.h h2
    obtain ⟨q1, q2⟩ := q
    simp only at h1 h3
    rw [h1, h3]; rfl
noncomputable def zdY (P : Program) (N : Nat) (z : OpenC) (i : Nat) (o : Oper) : Option OpenC :=
 match simC P N o z.s.t z.s.h with
 | none => none
 | some (v, h) =>
  bif Nat.beq h.n z.s.h.n then
   some { z with s := { z.s with t := (putC N o.dst).f z.s.t v }, looks := bif looks o then { o, i, t := z.s.t, v, n := z.s.h.n } :: z.looks else z.looks }
  else
   match hGet h z.s.h.n with
   | some b => some { z with s := { z.s with h, t := (putC N o.dst).f z.s.t v }, news := (i, z.s.h.n, b) :: z.news }
   | none => none
noncomputable def zfK (P : Program) (N : Nat) (C : RecC) (x : Ctx) (ps : List (List Nat)) (z : OpenC) (i : Nat) (o : Oper) : Option OpenC :=
 match z.news with
 | [] => match (okC P N o).f C x z.s with
  | some (.val v, s) => some { z with s := { s with t := (putC N o.dst).f s.t v }, hs := s.h :: z.hs }
  | _ => none
 | _ :: _ => match (okC P N o).f C x { z.s with h := hide (unseen ps z.news i) z.s.h } with
  | some (.val v, s) =>
   bif (unseen ps z.news i).all (fun p => (s.h.get? p.2.1).isSome) then some { z with s := { s with t := (putC N o.dst).f s.t v, h := unhide (unseen ps z.news i) s.h }, hs := unhide (unseen ps z.news i) s.h :: z.hs } else none
  | _ => none
noncomputable def zcv (P : Program) (N : Nat) (ops : Array Oper) (i : Nat) (o : Oper) : Bx (RecC -> Ctx -> OpenC -> Option OpenC) :=
 bif zaf o then bif zah P o then
  match o.guard with
  | none => ⟨fun _ _ z => zdY P N z i o⟩
  | some _ => ⟨fun _ _ z => bif (zce N ops o).f z.s.t then zdY P N z i o else some { z with s := { z.s with t := (putC N o.dst).f z.s.t undef } }⟩
  else ⟨fun _ _ z => bif (zce N ops o).f z.s.t then none else some { z with s := { z.s with t := (putC N o.dst).f z.s.t undef } }⟩
 else ⟨fun C x z => bif (zce N ops o).f z.s.t then zfK P N C x (preds ops.toList) z i o else some { z with s := { z.s with t := (putC N o.dst).f z.s.t undef }, hs := z.s.h :: z.hs }⟩
theorem zjg {P : Program} {C : RecC} {R : Recs} (hU : Under P C R) {N : Nat} {x : Ctx} {ops : Array Oper} {i : Nat} {o : Oper} (ho : ops[i]? = some o) {z z' : OpenC} (h : (zcv P N ops i o).f C x z = some z') :
  zaC P R x ops (preds ops.toList) (z.op ops N) i = some (z'.op ops N) := by
 unfold zaC; simp only [ho]
 unfold zcv at h
 have hw : zaX ops (z.op ops N).s.tm o = (zce N ops o).f z.s.t := (zfB ..).symm
 cases hs : zaf o with
 | true =>
  rw [hs] at h
  simp only [if_true, hw]
  cases hk : zah P o with
  | false =>
   rw [hk] at h; simp only [cond_true, cond_false] at h
   cases hq : (zce N ops o).f z.s.t with
   | true => rw [hq] at h; cases h
   | false =>
    rw [hq] at h; cases h
    simp only [Bool.false_eq_true, if_false, OpenC.op, FS.st, zbS]
  | true =>
   rw [hk] at h; simp only [cond_true] at h
   have key : (bif (zce N ops o).f z.s.t then zdY P N z i o else some { z with s := { z.s with t := (putC N o.dst).f z.s.t undef } }) = some z' := by
    cases hg : o.guard with
    | none => rw [hg] at h; rw [show (zce N ops o).f z.s.t = true by unfold zce; rw [hg]]; exact h
    | some p => rw [hg] at h; exact h
   cases hq : (zce N ops o).f z.s.t with
   | false =>
    rw [hq] at key; cases key
    simp only [Bool.false_eq_true, if_false, OpenC.op, FS.st, zbS]
   | true =>
    rw [hq] at key; simp only [cond_true] at key
    simp only [if_true]
    unfold zdY at key; unfold zbo
    rw [hk]
    cases hc : simC P N o z.s.t z.s.h with
    | none => rw [hc] at key; cases key
    | some p =>
     obtain ⟨v, h1⟩ := p
     have hb := zkq hs hc
     rw [hc] at key; simp only [] at key
     show (match zae P (zaz N z.s.t) z.s.h o with | none => none | some (v, h) => if (h.n == z.s.h.n) = true then _ else _) = _
     rw [hb]; simp only []
     have hbe := zpQ h1.n z.s.h.n
     cases hn : Nat.beq h1.n z.s.h.n with
     | true =>
      rw [hn] at key; simp only [cond_true] at key
      rw [hbe, hn, if_pos rfl]
      cases hl : looks o with
      | true => rw [hl] at key; cases key; simp only [OpenC.op, FS.st, zbS, if_true]; rfl
      | false => rw [hl] at key; cases key; simp only [OpenC.op, FS.st, zbS, Bool.false_eq_true, if_false, cond_false]
     | false =>
      rw [hn] at key; simp only [cond_false, zh9] at key
      rw [hbe, hn, if_neg (by simp)]
      show (match h1.get? z.s.h.n with | some b => _ | none => none) = _
      cases hg : h1.get? z.s.h.n with
      | none => rw [hg] at key; cases key
      | some b => rw [hg] at key; cases key; simp only [OpenC.op, FS.st, zbS]
 | false =>
  rw [hs] at h
  simp only [cond_false] at h
  simp only [Bool.false_eq_true, if_false, hw]
  cases hq : (zce N ops o).f z.s.t with
  | false =>
   rw [hq] at h; cases h
   simp only [Bool.false_eq_true, if_false, OpenC.op, FS.st, zbS]
  | true =>
   rw [hq] at h; simp only [cond_true] at h
   simp only [if_true]
   unfold zfK at h; unfold zcn
   obtain ⟨zs, hs, lk, nw⟩ := z
   simp only [OpenC.op] at *
   cases nw with
   | nil =>
    simp only [] at h
    have e1 : unseen (preds ops.toList) [] i = [] := rfl
    simp only [e1, hide, unhide, List.foldl_nil, List.all_nil, if_true]
    cases hc : (okC P N o).f C x zs with
    | none => rw [hc] at h; cases h
    | some p =>
     obtain ⟨d, s1⟩ := p
     have := zjj hU hc
     rw [hc] at h
     have e2 : ({ zs.st N with h := (zs.st N).h } : St) = zs.st N := rfl
     rw [e2, this]
     cases d with
     | panic c => cases h
     | val v => cases h; simp only [FS.st, zbS]
   | cons a nw =>
    simp only [] at h
    cases hc : (okC P N o).f C x { zs with h := hide (unseen (preds ops.toList) (a :: nw) i) zs.h } with
    | none => rw [hc] at h; cases h
    | some p =>
     obtain ⟨d, s1⟩ := p
     have := zjj hU hc
     rw [hc] at h
     have e2 : ({ zs.st N with h := hide (unseen (preds ops.toList) (a :: nw) i) (zs.st N).h } : St) = FS.st N { zs with h := hide (unseen (preds ops.toList) (a :: nw) i) zs.h } := rfl
     rw [e2, this]
     cases d with
     | panic c => cases h
     | val v =>
      simp only [] at h ⊢
      have e3 : (s1.st N).h = s1.h := rfl
      simp only [e3]
      cases ha : (unseen (preds ops.toList) (a :: nw) i).all (fun p => (s1.h.get? p.2.1).isSome) with
      | false => rw [ha] at h; cases h
      | true => rw [ha] at h; cases h; simp only [FS.st, zbS, if_true]
noncomputable def numbered : List Oper -> Nat -> List (Nat × Oper) := @List.rec Oper (fun _ => Nat -> List (Nat × Oper)) (fun _ => []) (fun o _ ih i => (i, o) :: ih (i + 1))
noncomputable def zdZ (P : Program) (N : Nat) (ops : Array Oper) : List (Nat × Oper) -> RecC -> Ctx -> OpenC -> Option OpenC :=
 @List.rec (Nat × Oper) (fun _ => RecC -> Ctx -> OpenC -> Option OpenC) (fun _ _ z => some z) (fun p _ ih C x z => match (zcv P N ops p.1 p.2).f C x z with | some z => ih C x z | none => none)
theorem zkF {P : Program} {C : RecC} {R : Recs} (hU : Under P C R) {N : Nat} {x : Ctx} (ops : Array Oper) : ∀ (n i : Nat), i + n = ops.size -> ∀ z z', zdZ P N ops (numbered (ops.toList.drop i) i) C x z = some z' -> (List.range' i n).foldlM (zaC P R x ops (preds ops.toList)) (z.op ops N) = some (z'.op ops N) := by
 intro n
 induction n with
 | zero =>
  intro i hi z z' h
  rw [List.drop_eq_nil_of_le (by simp; omega)] at h
  cases h; rfl
 | succ n ih =>
  intro i hi z z' h
  have hlt : i < ops.size := by omega
  have hd : ops.toList.drop i = ops[i] :: ops.toList.drop (i + 1) := by
   rw [List.drop_eq_getElem_cons (by simpa using hlt)]; simp
  rw [hd] at h
  have h : (match (zcv P N ops i ops[i]).f C x z with | some z => zdZ P N ops (numbered (ops.toList.drop (i + 1)) (i + 1)) C x z | none => none) = some z' := h
  rw [List.range'_succ, List.foldlM_cons]
  cases hc : (zcv P N ops i ops[i]).f C x z with
  | none => rw [hc] at h; cases h
  | some z1 =>
   rw [hc] at h
   rw [zjg hU (Array.getElem?_eq_getElem hlt) hc]
   exact ih (i + 1) (by omega) _ _ h
noncomputable def zcQ (a b : Value) (n : Nat) : Bool := match i64Of a with | some x => (match i64Of b with | some y => eqF x y | none => same 20 a b && within 20 n b) | none => same 20 a b && within 20 n b
theorem zi2 {a b : Value} {n : Nat} (h : zcQ a b n = true) : (same 20 a b && within 20 n b) = true := by
 unfold zcQ at h
 cases ha : i64Of a with
 | none => rw [ha] at h; exact h
 | some x =>
  rw [ha] at h; simp only [] at h
  cases hb : i64Of b with
  | none => rw [hb] at h; exact h
  | some y =>
   rw [hb] at h; simp only [zeQ] at h
   rw [zeM ha, zeM hb]
   have : x = y := by simpa using h
   subst this
   simp [same, within]
noncomputable def zjo (P : Program) (N : Nat) (lo hi : Nat) (l : LookC) : Nat -> List Heap -> Bool := fun k hs => @List.rec Heap (fun _ => Nat -> Bool) (fun _ => true)
 (fun h _ ih k => bif (bif Nat.blt k lo then true else bif Nat.blt hi k then true else match (bif zaf l.o then simC P N l.o l.t h else none) with
   | some (v, h1) => zcQ v l.v l.n && Nat.beq h1.n h.n
   | none => false) then ih (k + 1) else false) hs k
noncomputable def zjp (P : Program) (ops : Array Oper) (N : Nat) (hs : List Heap) (l : LookC) : Bool :=
 zjo P N (zci ops ((preds ops.toList).getD l.i [])) (zaW ops (preds ops.toList) l.i) l 0 hs.reverse
theorem zo3 {P : Program} {N lo hi : Nat} {l : LookC} : ∀ (hs : List Heap) (k : Nat), zjo P N lo hi l k hs = true -> ∀ j h, hs[j]? = some h -> k + j < lo \/ hi < k + j \/ ∃ v h1, zae P (zaz N l.t) h l.o = some (v, h1) /\ (same 20 v l.v && h1.n == h.n && within 20 l.n l.v) = true := by
 intro hs
 induction hs with
 | nil => intro k _ j h e; simp at e
 | cons h0 hs ih =>
  intro k hk j h e
  have hk : (bif (bif Nat.blt k lo then true else bif Nat.blt hi k then true else match (bif zaf l.o then simC P N l.o l.t h0 else none) with
   | some (v, h1) => zcQ v l.v l.n && Nat.beq h1.n h0.n
   | none => false) then zjo P N lo hi l (k + 1) hs else false) = true := hk
  cases hc : (bif Nat.blt k lo then true else bif Nat.blt hi k then true else match (bif zaf l.o then simC P N l.o l.t h0 else none) with
   | some (v, h1) => zcQ v l.v l.n && Nat.beq h1.n h0.n
   | none => false) with
  | false => rw [hc] at hk; cases hk
  | true =>
   rw [hc] at hk
   cases j with
   | succ j =>
    rcases ih (k + 1) hk j h (by simpa using e) with a | a | a
    ·left; omega
    ·right; left; omega
    ·right; right; exact a
   | zero =>
    simp only [List.getElem?_cons_zero, Option.some.injEq] at e
    subst e
    cases h1 : Nat.blt k lo with
    | true => left; have := zgL h1; omega
    | false =>
     cases h2 : Nat.blt hi k with
     | true => right; left; have := zgL h2; omega
     | false =>
      right; right
      rw [h1, h2] at hc; simp only [cond_false] at hc
      cases hs : zaf l.o with
      | false => rw [hs] at hc; cases hc
      | true =>
       rw [hs] at hc; simp only [cond_true] at hc
       cases hm : simC P N l.o l.t h0 with
       | none => rw [hm] at hc; cases hc
       | some p =>
        rw [hm] at hc
        exact ⟨p.1, p.2, zkq hs hm, by
         have hc : (zcQ p.1 l.v l.n && Nat.beq p.2.n h0.n) = true := hc
         rw [Bool.and_eq_true] at hc
         have := zi2 hc.1
         rw [Bool.and_eq_true] at this
         rw [zpQ, hc.2, this.1, this.2]; rfl⟩
theorem lookC_ok {P : Program} {ops : Array Oper} {N : Nat} {hs : List Heap} {l : LookC} (h : zjp P ops N hs l = true) : zbY P hs (l.look ops N) = true := by
 unfold zjp at h
 unfold zbY
 rw [List.all_eq_true]
 intro k hk
 have hk : k < hs.length := List.mem_range.1 hk
 have hget : hs.reverse[k]? = hs[hs.length - 1 - k]? := List.getElem?_reverse hk
 have hlt : hs.length - 1 - k < hs.length := by omega
 have hk2 : hs[hs.length - 1 - k]? = some hs[hs.length - 1 - k] := List.getElem?_eq_getElem hlt
 rw [hk2]
 rcases zo3 _ _ h k _ (hget.trans hk2) with a | a | ⟨v, h1, a, b⟩
 ·simp only [Bool.or_eq_true]; left; left; rw [Nat.zero_add] at a; exact decide_eq_true a
 ·simp only [Bool.or_eq_true]; left; right; rw [Nat.zero_add] at a; exact decide_eq_true a
 ·simp only [Bool.or_eq_true]; right
  show (match zae P (zaz N l.t) _ l.o with | some (v, h1) => _ | none => false) = true
  rw [a]; exact b
noncomputable def zct (P : Program) (ops : Array Oper) (N : Nat) (hs : List Heap) : List LookC -> Bool := @List.rec LookC (fun _ => Bool) true (fun l _ ih => bif zjp P ops N hs l then ih else false)
theorem zgO {P : Program} {ops : Array Oper} {N : Nat} {hs : List Heap} : ∀ ls, zct P ops N hs ls = true -> (ls.map (LookC.look ops N)).all (zbY P hs) = true := by
 intro ls
 induction ls with
 | nil => intro _; rfl
 | cons l ls ih =>
  intro h
  have h : (bif zjp P ops N hs l then zct P ops N hs ls else false) = true := h
  cases hc : zjp P ops N hs l with
  | false => rw [hc] at h; cases h
  | true => rw [hc] at h; simp only [List.map_cons, List.all_cons, lookC_ok hc, Bool.true_and]; exact ih h
noncomputable def zfJ (P : Program) (ops : Array Oper) (N : Nat) (r : Option OpenC) : Option (Ex × FS) :=
 match r with
 | none => none
 | some z => match z.hs with
  | [] => some (.normal, z.s)
  | [_] => some (.normal, z.s)
  | _ => bif zct P ops N z.hs z.looks then some (.normal, z.s) else none
noncomputable def zkK (P : Program) (N : Nat) (ops : Array Oper) : Bx (RecC -> Ctx -> FS -> Option (Ex × FS)) :=
 bif zdf ops then ⟨fun C x s => zfJ P ops N (zdZ P N ops (numbered ops.toList 0) C x ⟨s, [s.h], [], []⟩)⟩ else ⟨fun _ _ _ => none⟩
theorem zl2 {P : Program} {C : RecC} {R : Recs} (hU : Under P C R) {N : Nat} {x : Ctx} {ops : Array Oper} {s s' : FS} {e : Ex} (h : (zkK P N ops).f C x s = some (e, s')) : zbD P R x ops (s.st N) = some (e, s'.st N) := by
 unfold zkK at h; unfold zbD
 cases hk : zdf ops with
 | false => rw [hk] at h; cases h
 | true =>
  rw [hk] at h; simp only [cond_true] at h
  rw [if_pos rfl]
  unfold zfJ at h
  cases hc : zdZ P N ops (numbered ops.toList 0) C x ⟨s, [s.h], [], []⟩ with
  | none => rw [hc] at h; cases h
  | some z =>
   rw [hc] at h; simp only [] at h
   have hq := zkF hU ops ops.size 0 (by omega) ⟨s, [s.h], [], []⟩ z (by simpa using hc)
   rw [List.range_eq_range']
   have e0 : ({ s := s.st N, hs := [(s.st N).h], looks := [], news := [] } : Open) = OpenC.op ops N ⟨s, [s.h], [], []⟩ := rfl
   rw [e0, hq]
   have fin : (z.hs.length <= 1 \/ zct P ops N z.hs z.looks = true) /\ (e, s') = (Ex.normal, z.s) := by
    revert h
    cases hz : z.hs with
    | nil => intro h; cases h; exact ⟨.inl (by simp), rfl⟩
    | cons a l =>
     cases l with
     | nil => intro h; cases h; exact ⟨.inl (by simp), rfl⟩
     | cons b l =>
      intro h; simp only [] at h
      cases ha : zct P ops N (a :: b :: l) z.looks with
      | false => rw [ha] at h; cases h
      | true => rw [ha] at h; cases h; exact ⟨.inr rfl, rfl⟩
   obtain ⟨h1, h2⟩ := fin
   cases h2
   have hcond : (decide ((z.op ops N).hs.length <= 1) || (z.op ops N).looks.all (zbY P (z.op ops N).hs)) = true := by
    rw [Bool.or_eq_true]
    rcases h1 with h1 | h1
    ·left; exact decide_eq_true h1
    ·right; exact zgO _ h1
   show (if (decide ((z.op ops N).hs.length <= 1) || (z.op ops N).looks.all (zbY P (z.op ops N).hs)) = true then some (Ex.normal, (z.op ops N).s) else none) = _
   rw [hcond]; rfl
end Go.AX

namespace Go.AX
noncomputable def condC (C : RecC) (x : Ctx) (v : Value) (a b : Code) (s : FS) : Option (Ex × FS) := match v with | .bool t => C.code x (bif t then a else b) s | _ => none
noncomputable def thenC (C : RecC) (x : Ctx) (b : Code) (r : Option (Ex × FS)) : Option (Ex × FS) := match r with | some (.normal, s) => C.code x b s | r => r
noncomputable def blockC (id : Nat) (r : Option (Ex × FS)) : Option (Ex × FS) := match r with | some (.exit i, s) => bif Nat.beq i id then some (.normal, s) else some (.exit i, s) | r => r
noncomputable def zoH (P : Program) (N : Nat) (C : RecC) (x : Ctx) (s : FS) (f : Operand) (params : Array Tmp) (assign body : Code) : Option (Ex × FS) :=
 match zbF x (s.st N) params assign body with
 | none => none
 | some (l, mark, h) =>
  bif opOK P f then
  match zaN P ((evC N f).f s.t) #[.func (.yield l) #[] #[]] with
  | some (.enter g args) =>
   match C.call g args false .run h with
   | some (.ret _, _, h) =>
    match zbI h l with
    | some r =>
     bif r.state == .busy then none else
     match r.pending with
     | none => some (.normal, { s with df := mark ++ s.df, h := h.set l (.obj (.loop { r with state := .exhausted })) })
     | some c => C.code x c { s with df := mark ++ s.df, h := h.set l (.obj (.loop { r with state := .exhausted })) }
    | none => none
   | some (.panic c, _, h) => some (.panic c, { s with df := mark ++ s.df, h })
   | none => none
  | _ => none
  else none
theorem zoG {P : Program} {C : RecC} {R : Recs} (hU : Under P C R) {x : Ctx} {s s' : FS} {e : Ex} {f : Operand} {params : Array Tmp} {assign body : Code} (h : zoH P (nOf P x.fn) C x s f params assign body = some (e, s')) :
  za6 P R x (s.st (nOf P x.fn)) f params assign body = some (e, s'.st (nOf P x.fn)) := by
 unfold zoH at h; unfold za6
 cases he : zbF x (s.st (nOf P x.fn)) params assign body with
 | none => rw [he] at h; cases h
 | some p =>
  obtain ⟨l, mark, h1⟩ := p
  rw [he] at h; simp only [] at h ⊢
  cases hk : opOK P f with
  | false => rw [hk] at h; cases h
  | true =>
   rw [hk] at h; simp only [cond_true, zbv] at h
   simp only [Bool.not_true, Bool.false_eq_true, if_false]
   show (match zaN P (ev (zaz (nOf P x.fn) s.t) f) #[.func (.yield l) #[] #[]] with | some (.enter g args) => _ | _ => none) = _
   cases hv : zaN P (ev (zaz (nOf P x.fn) s.t) f) #[.func (.yield l) #[] #[]] with
   | none => rw [hv] at h; cases h
   | some out =>
    rw [hv] at h
    cases out with
    | enter g args =>
     simp only [] at h ⊢
     cases hc : C.call g args false .run h1 with
     | none => rw [hc] at h; cases h
     | some q =>
      rw [hU.call _ _ _ _ _ _ hc]
      rw [hc] at h
      obtain ⟨e1, u, h2⟩ := q
      cases e1 with
      | panic c => cases h; rfl
      | ret v =>
       simp only [] at h ⊢
       cases hl : zbI h2 l with
       | none => rw [hl] at h; cases h
       | some r =>
        rw [hl] at h; simp only [] at h ⊢
        cases hb : (r.state == .busy) with
        | true => rw [hb] at h; cases h
        | false =>
         rw [hb] at h; simp only [cond_false] at h
         simp only [Bool.false_eq_true, if_false]
         cases hp : r.pending with
         | none => rw [hp] at h; cases h; rfl
         | some c => rw [hp] at h; exact hU.code _ _ _ _ _ h
    | _ => cases h
noncomputable def zjP (P : Program) (C : RecC) (x : Ctx) (c : Code) (s : FS) : Option (Ex × FS) :=
 match c with
 | .skip | .label _ => some (.normal, s)
 | .region _ ops draw => bif draw then (zkK P (nOf P x.fn) ops).f C x s else seqC P (nOf P x.fn) ops ops.toList C x s
 | .seq a b => thenC C x b (C.code x a s)
 | .cond c a b => condC C x ((evC (nOf P x.fn) c).f s.t) a b s
 | .block id b => blockC id (C.code x b s)
 | .loop b => thenC C x (.loop b) (C.code x b s)
 | .scope b => C.code x b s
 | .exit id => some (.exit id, s)
 | .ret => some (.ret, s)
 | .rangeFunc f params assign body => zoH P (nOf P x.fn) C x s f params assign body
 | .goto _ | .refuse _ => none
theorem zpB {P : Program} {C : RecC} {R : Recs} (hU : Under P C R) (x : Ctx) (c : Code) (s : FS) (e : Ex) (s' : FS) (h : zjP P C x c s = some (e, s')) : za3 P R x c (s.st (nOf P x.fn)) = some (e, s'.st (nOf P x.fn)) := by
 have then_ok : ∀ a b, thenC C x b (C.code x a s) = some (e, s') -> (match R.code x a (s.st (nOf P x.fn)) with | some (.normal, s) => R.code x b s | r => r) = some (e, s'.st (nOf P x.fn)) := by
  intro a b h
  cases hc : C.code x a s with
  | none => rw [hc] at h; cases h
  | some p =>
   obtain ⟨e1, s1⟩ := p
   rw [hU.code _ _ _ _ _ hc]; rw [hc] at h
   cases e1 with
   | normal => exact hU.code _ _ _ _ _ h
   | _ => cases h; rfl
 cases c with
 | skip => cases h; rfl
 | label l => cases h; rfl
 | region id ops draw =>
  simp only [zjP] at h; simp only [za3]
  cases draw with
  | true => exact zl2 hU h
  | false =>
   simp only [Bool.false_eq_true, if_false]
   rw [List.range_eq_range']
   exact seqC_ok hU ops ops.size 0 (by omega) _ _ _ h
 | seq a b => exact then_ok a b h
 | cond c a b =>
  simp only [zjP, zbv] at h; simp only [za3]
  show (match ev (zaz (nOf P x.fn) s.t) c with | .bool t => R.code x (if t then a else b) (s.st (nOf P x.fn)) | _ => none) = _
  unfold condC at h
  cases hv : ev (zaz (nOf P x.fn) s.t) c with
  | bool t => rw [hv] at h; simp only [cond_eq_ite] at h; exact hU.code _ _ _ _ _ h
  | _ => rw [hv] at h; cases h
 | block id b =>
  simp only [zjP] at h; simp only [za3]
  cases hc : C.code x b s with
  | none => rw [hc] at h; cases h
  | some p =>
   obtain ⟨e1, s1⟩ := p
   rw [hU.code _ _ _ _ _ hc]; rw [hc] at h
   cases e1 with
   | exit i =>
    simp only [blockC, cond_eq_ite, Nat.beq_eq] at h ⊢
    by_cases hi : i = id
    ·rw [if_pos hi] at h ⊢; cases h; rfl
    ·rw [if_neg hi] at h ⊢; cases h; rfl
   | _ => cases h; rfl
 | loop b => exact then_ok b (.loop b) h
 | scope b => exact hU.code _ _ _ _ _ h
 | exit id => cases h; rfl
 | ret => cases h; rfl
 | rangeFunc f params assign body => exact zoG hU h
 | goto l => cases h
 | refuse w => cases h
noncomputable def zcP (C : RecC) : Recs := ⟨fun _ _ _ => none, C.call, C.round⟩
theorem ze6 {P : Program} {R R' : Recs} (hc : ∀ f args d u h r, R.call f args d u h = some r -> R'.call f args d u h = some r) {fn : Func} {tm : Array Value} : ∀ (ds : List Deferred) (u : FrameMode) (h : Heap) r, zaA P R fn tm ds u h = some r -> zaA P R' fn tm ds u h = some r := by
 intro ds
 induction ds with
 | nil => intro u h r e; cases u <;> simpa only [zaA] using e
 | cons d ds ih =>
  intro u h r e
  unfold zaA at e ⊢
  cases hu : zju u with
  | true => rw [hu] at e; cases e
  | false =>
   rw [hu] at e
   simp only [Bool.false_eq_true, if_false] at e ⊢
   cases ht : d.target with
   | collected rr =>
    rw [ht] at e; simp only [] at e ⊢
    split at e
    ·rename_i hg; exact ih _ _ _ e
    ·cases e
   | fn f captured =>
    rw [ht] at e
    cases f with
    | func g =>
     simp only [] at e ⊢
     cases hf : zbN P g (d.args ++ captured) with
     | none => rw [hf] at e; cases e
     | some out =>
      rw [hf] at e
      cases out with
      | enter g args =>
       simp only [] at e ⊢
       cases hr : R.call g args true u h with
       | none => rw [hr] at e; cases e
       | some q =>
        rw [hc _ _ _ _ _ _ hr]; rw [hr] at e
        obtain ⟨e1, u1, h1⟩ := q
        cases e1 with
        | ret v => exact ih _ _ _ e
        | panic c => exact ih _ _ _ e
      | _ => cases e
    | _ => cases e
   | _ => rw [ht] at e; cases e
noncomputable def resL (P : Program) (N : Nat) : List ResultVar -> Vt -> Heap -> Option (List Value) :=
 @List.rec ResultVar (fun _ => Vt -> Heap -> Option (List Value)) (fun _ _ => some []) (fun r _ ih t h => match (match r with | .tmp a => some ((evC N (.tmp a)).f t) | .cell a ty => zeE P ty h ((evC N (.tmp a)).f t)) with
  | some v => match ih t h with | some vs => some (v :: vs) | none => none
  | none => none)
theorem resL_eq (P : Program) (N : Nat) (rs : List ResultVar) (t : Vt) (h : Heap) : resL P N rs t h = rs.mapM (zcl P (zaz N t) h) := by
 induction rs with
 | nil => rfl
 | cons r rs ih =>
  show (match (match r with | .tmp a => some ((evC N (.tmp a)).f t) | .cell a ty => zeE P ty h ((evC N (.tmp a)).f t)) with
   | some v => match resL P N rs t h with | some vs => some (v :: vs) | none => none
   | none => none) = _
  rw [List.mapM_cons, ih]
  have e : (match r with | .tmp a => some ((evC N (.tmp a)).f t) | .cell a ty => zeE P ty h ((evC N (.tmp a)).f t)) = zcl P (zaz N t) h r := by
   cases r with
   | tmp a => simp only [zbv]; rfl
   | cell a ty => simp only [zbv, zhP, zhO]; rfl
  rw [e]
  cases zcl P (zaz N t) h r with
  | none => rfl
  | some v => cases List.mapM (zcl P (zaz N t) h) rs <;> rfl
noncomputable def zfL (r : Option (List Value)) : Option Value := match r with | some [v] => some v | some vs => some (.tuple ⟨vs⟩) | none => none
theorem zoC (P : Program) (N : Nat) (fn : Func) (t : Vt) (h : Heap) : zfL (resL P N fn.results.toList t h) = zby P fn (zaz N t) h := by
 unfold zby
 rw [resL_eq]
 cases fn.results.toList.mapM (zcl P (zaz N t) h) with
 | none => rfl
 | some vs => match vs with
  | [] => rfl
  | [v] => rfl
  | a :: b :: l => rfl
noncomputable def retC (u : FrameMode) (h : Heap) (r : Option Value) : Option (End × FrameMode × Heap) := match r with | some v => some (.ret v, u, h) | none => none
noncomputable def endC (u : FrameMode) (r : Option (End × Heap)) : Option (End × FrameMode × Heap) := match r with | some (e, h) => some (e, u, h) | none => none
noncomputable def zmd (P : Program) (C : RecC) (fn : Func) (N : Nat) (s : FS) : Option (End × FrameMode × Heap) :=
 match s.df with
 | [] => retC s.up s.h (zfL (resL P N fn.results.toList s.t s.h))
 | _ :: _ => endC s.up (zaA P (zcP C) fn (zaz N s.t) s.df .returning s.h)
noncomputable def leftC (P : Program) (C : RecC) (fn : Func) (N : Nat) (r : Option (Ex × FS)) : Option (End × FrameMode × Heap) :=
 match r with
 | some (.normal, s) => zmd P C fn N s
 | some (.ret, s) => zmd P C fn N s
 | some (.panic ch, s) => endC s.up (zaA P (zcP C) fn (zaz N s.t) s.df (.panicking ch) s.h)
 | _ => none
theorem zjs {P : Program} {C : RecC} {R : Recs} (hU : Under P C R) {fn : Func} {N : Nat} {s : FS} {r : End × FrameMode × Heap} (h : zmd P C fn N s = some r) : (zaA P R fn (zaz N s.t) s.df .returning s.h).map (fun p => (p.1, s.up, p.2)) = some r := by
 unfold zmd at h
 cases hd : s.df with
 | nil =>
  rw [hd] at h; simp only [zoC] at h
  unfold zaA
  cases hr : zby P fn (zaz N s.t) s.h with
  | none => rw [hr] at h; cases h
  | some v => rw [hr] at h; cases h; rfl
 | cons d ds =>
  rw [hd] at h; simp only [] at h
  cases hl : zaA P (zcP C) fn (zaz N s.t) (d :: ds) .returning s.h with
  | none => rw [hl] at h; cases h
  | some p => rw [ze6 (R := zcP C) (R' := R) hU.call _ _ _ _ hl]; rw [hl] at h; cases h; rfl
noncomputable def bodyC (P : Program) (f : FuncId) : Bx (RecC -> Array Value -> Bool -> FrameMode -> Heap -> Option (End × FrameMode × Heap)) :=
 match P.funcs[f]? with
 | none => ⟨fun _ _ _ _ _ => none⟩
 | some fn => match fn.body with
  | none => ⟨fun _ _ _ _ _ => none⟩
  | some c => ⟨fun C args dfr up h => bif Nat.ble (lenL args.toList) fn.ntmps then leftC P C fn (nOf P f) (C.code { fn := f, round := none, dfr } c ⟨zcy args.toList 0 .nil, [], up, h⟩) else none⟩
noncomputable def zpK (P : Program) (K : Known) (C : RecC) (f : FuncId) (args : Array Value) (dfr : Bool) (up : FrameMode) (h : Heap) : Option (End × FrameMode × Heap) :=
 match (bif dfr then none else K f args h) with
 | some r => some (.ret r.1, up, zcm h r.2)
 | none => (bodyC P f).f C args dfr up h
theorem zpJ {P : Program} {K : Known} {C : RecC} {R : Recs} (hU : Under P C R) (f : FuncId) (args : Array Value) (dfr : Bool) (up : FrameMode) (h : Heap) (r : End × FrameMode × Heap) (e : zpK P K C f args dfr up h = some r) : zb8 P K R f args dfr up h = some r := by
 rw [<- zgI]
 unfold zpK at e; unfold zhu
 cases hk : (bif dfr then none else K f args h) with
 | some q => rw [hk] at e; exact e
 | none =>
  rw [hk] at e; simp only [] at e ⊢
  unfold bodyC at e; unfold bodyF
  cases hf : P.funcs[f]? with
  | none => rw [hf] at e; cases e
  | some fn =>
   rw [hf] at e; simp only [] at e ⊢
   cases hb : fn.body with
   | none => rw [hb] at e; cases e
   | some c =>
    rw [hb] at e; simp only [zcA] at e ⊢
    cases hl : Nat.ble args.toList.length fn.ntmps with
    | false => rw [hl] at e; cases e
    | true =>
     rw [hl] at e; simp only [cond_true] at e
     have hN : nOf P f = fn.ntmps := by unfold nOf; rw [hf]
     have htm : (⟨zer args.toList (undefs (fn.ntmps - args.size))⟩ : Array Value) = zaz (nOf P f) (zcy args.toList 0 .nil) := by
      rw [zcM _ _ (by rw [hN]; exact Nat.le_of_ble_eq_true hl), hN]
      apply Array.ext'; simp [zd7, zfU]
     rw [htm]
     cases hc : C.code { fn := f, round := none, dfr } c ⟨zcy args.toList 0 .nil, [], up, h⟩ with
     | none => rw [hc] at e; cases e
     | some p =>
      obtain ⟨ex, s1⟩ := p
      have := hU.code _ _ _ _ _ hc
      simp only [FS.st] at this
      rw [this]; rw [hc] at e
      unfold leftF
      cases ex with
      | normal => exact zjs hU e
      | ret => exact zjs hU e
      | exit i => cases e
      | panic ch =>
       simp only [leftC] at e
       cases hl : zaA P (zcP C) fn (zaz (nOf P f) s1.t) s1.df (.panicking ch) s1.h with
       | none => rw [hl] at e; cases e
       | some p => rw [hl] at e; simp only [ze6 (R := zcP C) (R' := R) hU.call _ _ _ _ hl]; cases e; rfl
noncomputable def zhJ (N : Nat) : List (Tmp × Value) -> Vt -> Vt := @List.rec (Tmp × Value) (fun _ => Vt -> Vt) (fun t => t) (fun p _ ih t => ih ((putC N (some p.1)).f t p.2))
theorem zlQ (N : Nat) (l : List (Tmp × Value)) : ∀ t, zaz N (zhJ N l t) = l.foldl (fun tm p => tm.setIfInBounds p.1 p.2) (zaz N t) := by
 induction l with
 | nil => intro t; rfl
 | cons p l ih => intro t; show zaz N (zhJ N l ((putC N (some p.1)).f t p.2)) = _; rw [ih, zbS]; rfl
noncomputable def roundEnd (l : Nat) (r : Option (Ex × FS)) (ok : Bool) : Option (End × Heap) :=
 match r with
 | some (.normal, s) => zbb l none s.h
 | some (.ret, s) => zbb l (some .ret) s.h
 | some (.exit id, s) => zbb l (some (.exit id)) s.h
 | some (.panic c, s) => if s.df.isEmpty && ok then some (.panic c, s.h) else none
 | none => none
noncomputable def zox (P : Program) (C : RecC) (l : Nat) (args : Array Value) (h : Heap) : Option (End × Heap) :=
 match zbI h l with
 | none => none
 | some r0 =>
  bif Nat.beq (lenL args.toList) r0.params.size then
  bif Nat.beq (lenL r0.tmps.toList) (nOf P r0.fn) then
  match C.code { fn := r0.fn, round := some l, dfr := false } r0.assign ⟨zhJ (nOf P r0.fn) (r0.params.toList.zip args.toList) (zcy r0.tmps.toList 0 .nil), [], .run, h⟩ with
  | some (.normal, s) =>
   match zbI s.h l with
   | some r1 => bif r1.state == .ready then roundEnd l (C.code { fn := r0.fn, round := some l, dfr := false } r0.body { s with h := s.h.set l (.obj (.loop { r1 with state := .busy })) }) (P.funcs[r0.fn]?).isSome else none
   | none => none
  | _ => none
  else none
  else none
theorem zow {P : Program} {C : RecC} {R : Recs} (hU : Under P C R) (l : Nat) (args : Array Value) (h : Heap) (r : End × Heap) (e : zox P C l args h = some r) : zcg P R l args h = some r := by
 unfold zox at e; unfold zcg
 cases hl : zbI h l with
 | none => rw [hl] at e; cases e
 | some r0 =>
  rw [hl] at e; simp only [zcA] at e ⊢
  cases h1 : Nat.beq args.toList.length r0.params.size with
  | false => rw [h1] at e; cases e
  | true =>
   rw [h1] at e; simp only [cond_true] at e
   have h1' : args.size = r0.params.size := Nat.eq_of_beq_eq_true h1
   rw [if_neg (by rw [h1']; simp)]
   cases h2 : Nat.beq r0.tmps.toList.length (nOf P r0.fn) with
   | false => rw [h2] at e; cases e
   | true =>
    rw [h2] at e; simp only [cond_true] at e
    have h2' : r0.tmps.toList.length = nOf P r0.fn := Nat.eq_of_beq_eq_true h2
    have htm : (r0.params.zip args).foldl (fun tm (t, a) => tm.setIfInBounds t a) r0.tmps = zaz (nOf P r0.fn) (zhJ (nOf P r0.fn) (r0.params.toList.zip args.toList) (zcy r0.tmps.toList 0 .nil)) := by
     rw [zlQ, zcM _ _ (by omega), h2', Nat.sub_self]
     rw [<- Array.foldl_toList, Array.toList_zip]
     congr 1
    rw [htm]
    cases hc : C.code { fn := r0.fn, round := some l, dfr := false } r0.assign ⟨zhJ (nOf P r0.fn) (r0.params.toList.zip args.toList) (zcy r0.tmps.toList 0 .nil), [], .run, h⟩ with
    | none => rw [hc] at e; cases e
    | some p =>
     obtain ⟨ex, s⟩ := p
     have := hU.code _ _ _ _ _ hc
     simp only [FS.st] at this
     rw [this]; rw [hc] at e
     cases ex with
     | normal =>
      simp only [] at e ⊢
      cases hl1 : zbI s.h l with
      | none => rw [hl1] at e; cases e
      | some r1 =>
       rw [hl1] at e; simp only [] at e ⊢
       cases hb : (r1.state == .ready) with
       | false => rw [hb] at e; cases e
       | true =>
        rw [hb] at e; simp only [cond_true] at e
        simp only [if_true]
        cases hd : C.code { fn := r0.fn, round := some l, dfr := false } r0.body { s with h := s.h.set l (.obj (.loop { r1 with state := .busy })) } with
        | none => rw [hd] at e; cases e
        | some q =>
         obtain ⟨ex2, s2⟩ := q
         have := hU.code _ _ _ _ _ hd
         simp only [FS.st] at this
         rw [this]; rw [hd] at e
         cases ex2 <;> exact e
     | _ => cases e
noncomputable def runC (P : Program) (K : Known) : Nat -> RecC := @Nat.rec (fun _ => RecC) zl4 (fun _ C => { code := zjP P C, call := zpK P K C, round := zox P C })
theorem runC_under (P : Program) (K : Known) : ∀ n, Under P (runC P K n) (run P K n) := by
 intro n
 induction n with
 | zero => exact zgg P
 | succ n ih =>
  exact ⟨fun x c s e s' h => zpB ih x c s e s' h, fun f args d u h r e => zpJ ih f args d u h r e, fun l args h r e => zow ih l args h r e⟩
end Go.AX

namespace Go.AX
structure RecK where
 call : FuncId -> Array Value -> Bool -> FrameMode -> Heap -> Option (End × FrameMode × Heap)
 round : Nat -> Array Value -> Heap -> Option (End × Heap)
structure Rest where
 df : List Deferred
 up : FrameMode
noncomputable def toC (C : RecK) : RecC := ⟨fun _ _ _ => none, C.call, C.round⟩
section
open Classical in
noncomputable def lim (P : Program) (K : Known) : Recs where
 code := fun _ _ _ => none
 call := fun f a d u h => if e : ∃ r m, (run P K m).call f a d u h = some r then some e.choose else none
 round := fun l a h => if e : ∃ r m, (run P K m).round l a h = some r then some e.choose else none
end
theorem zhM {P : Program} {K : Known} {m n : Nat} {f : FuncId} {a : Array Value} {d : Bool} {u : FrameMode} {h : Heap} {r r' : End × FrameMode × Heap} (e : (run P K m).call f a d u h = some r) (e' : (run P K n).call f a d u h = some r') : r = r' := by
 have h1 := (zap P K (Nat.le_max_left m n)).call _ _ _ _ _ _ e
 have h2 := (zap P K (Nat.le_max_right m n)).call _ _ _ _ _ _ e'
 rw [h1] at h2; exact Option.some.inj h2
theorem zgX {P : Program} {K : Known} {m n : Nat} {l : Nat} {a : Array Value} {h : Heap} {r r' : End × Heap} (e : (run P K m).round l a h = some r) (e' : (run P K n).round l a h = some r') : r = r' := by
 have h1 := (zap P K (Nat.le_max_left m n)).round _ _ _ _ e
 have h2 := (zap P K (Nat.le_max_right m n)).round _ _ _ _ e'
 rw [h1] at h2; exact Option.some.inj h2
theorem zmb {P : Program} {K : Known} {m : Nat} {f : FuncId} {a : Array Value} {d : Bool} {u : FrameMode} {h : Heap} {r : End × FrameMode × Heap} (e : (run P K m).call f a d u h = some r) : (lim P K).call f a d u h = some r := by
 have ex : ∃ r m, (run P K m).call f a d u h = some r := ⟨r, m, e⟩
 simp only [lim, dif_pos ex]
 obtain ⟨m', h'⟩ := ex.choose_spec
 rw [zhM h' e]
theorem zmy {P : Program} {K : Known} {f : FuncId} {a : Array Value} {d : Bool} {u : FrameMode} {h : Heap} {r : End × FrameMode × Heap} (e : (lim P K).call f a d u h = some r) : ∃ m, (run P K m).call f a d u h = some r := by
 simp only [lim] at e
 split at e
 ·rename_i ex; cases e; exact ex.choose_spec
 ·cases e
theorem zo6 {P : Program} {K : Known} {m : Nat} {l : Nat} {a : Array Value} {h : Heap} {r : End × Heap} (e : (run P K m).round l a h = some r) : (lim P K).round l a h = some r := by
 have ex : ∃ r m, (run P K m).round l a h = some r := ⟨r, m, e⟩
 simp only [lim, dif_pos ex]
 obtain ⟨m', h'⟩ := ex.choose_spec
 rw [zgX h' e]
theorem zot {P : Program} {K : Known} {l : Nat} {a : Array Value} {h : Heap} {r : End × Heap} (e : (lim P K).round l a h = some r) : ∃ m, (run P K m).round l a h = some r := by
 simp only [lim] at e
 split at e
 ·rename_i ex; cases e; exact ex.choose_spec
 ·cases e
theorem zms {P : Program} {K : Known} {x : Ctx} {s : St} {o : Oper} {r : Did × St} (h : doOp P (lim P K) x s o = some r) : ∃ m, doOp P (run P K m) x s o = some r := by
 unfold doOp at h ⊢
 cases hk : zah P o with
 | false => rw [hk] at h; exact absurd h (by simp)
 | true =>
  rw [hk] at h
  simp only [Bool.not_true, Bool.false_eq_true, if_false] at h ⊢
  cases hs : zae P s.tm s.h o with
  | some p => rw [hs] at h; exact ⟨0, h⟩
  | none =>
   rw [hs] at h; simp only [] at h ⊢
   cases hi : zaf o with
   | true => rw [hi] at h; exact absurd h (by simp)
   | false =>
    rw [hi] at h
    simp only [Bool.false_eq_true, if_false] at h ⊢
    cases he : zaZ P s.tm s.h o with
    | none => rw [he] at h; cases h
    | some p =>
     obtain ⟨q, h1⟩ := p
     rw [he] at h
     cases q with
     | enter f args =>
      simp only [] at h ⊢
      cases hc : (lim P K).call f args false .run h1 with
      | none => rw [hc] at h; cases h
      | some a =>
       obtain ⟨m, hm⟩ := zmy hc
       exact ⟨m, by rw [hm]; rw [hc] at h; exact h⟩
     | round l args =>
      simp only [] at h ⊢
      cases hc : (lim P K).round l args h1 with
      | none => rw [hc] at h; cases h
      | some a =>
       obtain ⟨m, hm⟩ := zot hc
       exact ⟨m, by rw [hm]; rw [hc] at h; exact h⟩
     | _ => exact ⟨0, h⟩
theorem zjd {P : Program} {K : Known} {x : Ctx} {ops : Array Oper} {ps : List (List Nat)} {z z' : Open} {i : Nat} (h : zaC P (lim P K) x ops ps z i = some z') : ∃ m, zaC P (run P K m) x ops ps z i = some z' := by
 unfold zaC at h ⊢
 cases ho : ops[i]? with
 | none => rw [ho] at h; cases h
 | some o =>
  rw [ho] at h; simp only [] at h ⊢
  cases hs : zaf o with
  | true => rw [hs] at h; exact ⟨0, h⟩
  | false =>
   rw [hs] at h; simp only [Bool.false_eq_true, if_false] at h ⊢
   cases hw : zaX ops z.s.tm o with
   | false => rw [hw] at h; exact ⟨0, h⟩
   | true =>
    rw [hw] at h; simp only [if_true] at h ⊢
    unfold zcn at h ⊢
    cases hd : doOp P (lim P K) x { z.s with h := hide (unseen ps z.news i) z.s.h } o with
    | none => rw [hd] at h; cases h
    | some p =>
     obtain ⟨m, hm⟩ := zms hd
     exact ⟨m, by rw [hm]; rw [hd] at h; exact h⟩
theorem zjG {P : Program} {K : Known} {x : Ctx} {ops : Array Oper} {ps : List (List Nat)} : ∀ (l : List Nat) (z z' : Open), l.foldlM (zaC P (lim P K) x ops ps) z = some z' -> ∃ m, l.foldlM (zaC P (run P K m) x ops ps) z = some z' := by
 intro l
 induction l with
 | nil => intro z z' h; exact ⟨0, h⟩
 | cons i l ih =>
  intro z z' h
  rw [List.foldlM_cons] at h
  cases hc : zaC P (lim P K) x ops ps z i with
  | none => rw [hc] at h; cases h
  | some z1 =>
   rw [hc] at h
   obtain ⟨m1, h1⟩ := zjd hc
   obtain ⟨m2, h2⟩ := ih z1 z' h
   refine ⟨max m1 m2, ?_⟩
   rw [List.foldlM_cons, zch (zap P K (Nat.le_max_left m1 m2)) h1]
   exact zep (fun _ _ _ e => zch (zap P K (Nat.le_max_right m1 m2)) e) _ _ _ h2
theorem zkI {P : Program} {K : Known} {x : Ctx} {ops : Array Oper} {s : St} {r : Ex × St} (h : zbD P (lim P K) x ops s = some r) : ∃ m, zbD P (run P K m) x ops s = some r := by
 unfold zbD at h ⊢
 cases hk : zdf ops with
 | false => rw [hk] at h; exact absurd h (by simp)
 | true =>
  rw [hk] at h; simp only [if_true] at h ⊢
  cases hc : (List.range ops.size).foldlM (zaC P (lim P K) x ops (preds ops.toList)) { s, hs := [s.h], looks := [], news := [] } with
  | none => rw [hc] at h; cases h
  | some z =>
   obtain ⟨m, hm⟩ := zjG _ _ _ hc
   exact ⟨m, by rw [hm]; rw [hc] at h; exact h⟩
theorem znt {P : Program} {K : Known} {fn : Func} {tm : Array Value} : ∀ (ds : List Deferred) (u : FrameMode) (h : Heap) r, zaA P (lim P K) fn tm ds u h = some r -> ∃ m, zaA P (run P K m) fn tm ds u h = some r := by
 intro ds
 induction ds with
 | nil => intro u h r e; exact ⟨0, by cases u <;> simpa only [zaA] using e⟩
 | cons d ds ih =>
  intro u h r e
  unfold zaA at e ⊢
  cases hu : zju u with
  | true => rw [hu] at e; cases e
  | false =>
   rw [hu] at e
   simp only [Bool.false_eq_true, if_false] at e ⊢
   cases ht : d.target with
   | collected rr =>
    rw [ht] at e; simp only [] at e ⊢
    split at e
    ·rename_i hg; exact ih _ _ _ e
    ·cases e
   | fn f captured =>
    rw [ht] at e
    cases f with
    | func g =>
     simp only [] at e ⊢
     cases hf : zbN P g (d.args ++ captured) with
     | none => rw [hf] at e; cases e
     | some out =>
      rw [hf] at e
      cases out with
      | enter g args =>
       simp only [] at e ⊢
       cases hr : (lim P K).call g args true u h with
       | none => rw [hr] at e; cases e
       | some q =>
        rw [hr] at e
        obtain ⟨m1, h1⟩ := zmy hr
        obtain ⟨e1, u1, h2⟩ := q
        cases e1 with
        | ret v =>
         obtain ⟨m2, h3⟩ := ih _ _ _ e
         refine ⟨max m1 m2, ?_⟩
         rw [(zap P K (Nat.le_max_left m1 m2)).call _ _ _ _ _ _ h1]
         exact zco (zap P K (Nat.le_max_right m1 m2)) _ _ _ _ h3
        | panic c =>
         obtain ⟨m2, h3⟩ := ih _ _ _ e
         refine ⟨max m1 m2, ?_⟩
         rw [(zap P K (Nat.le_max_left m1 m2)).call _ _ _ _ _ _ h1]
         exact zco (zap P K (Nat.le_max_right m1 m2)) _ _ _ _ h3
      | _ => cases e
    | _ => cases e
   | _ => rw [ht] at e; cases e
structure OkK (P : Program) (K : Known) (C : RecK) : Prop where
 call : ∀ f a d u h r, C.call f a d u h = some r -> ∃ m, (run P K m).call f a d u h = some r
 round : ∀ l a h r, C.round l a h = some r -> ∃ m, (run P K m).round l a h = some r
theorem OkK.under {P : Program} {K : Known} {C : RecK} (hC : OkK P K C) : Under P (toC C) (lim P K) :=
 ⟨fun _ _ _ _ _ h => (by cases h), fun _ _ _ _ _ _ h => (by obtain ⟨m, hm⟩ := hC.call _ _ _ _ _ _ h; exact zmb hm), fun _ _ _ _ h => (by obtain ⟨m, hm⟩ := hC.round _ _ _ _ h; exact zo6 hm)⟩
section
variable {β : Type}
noncomputable def zbV (r : Option Value) (k : Value -> Option β) : Option β := @Option.rec Value (fun _ => Option β) none k r
noncomputable def zno (r : Option (Value × Heap)) (k : Value × Heap -> Option β) : Option β := @Option.rec (Value × Heap) (fun _ => Option β) none k r
noncomputable def heapK (r : Option Heap) (k : Heap -> Option β) : Option β := @Option.rec Heap (fun _ => Option β) none k r
noncomputable def finK (p : Bx (Vt -> Value -> Vt)) (res : Option (Did × FS)) (kn : Vt -> Heap -> Rest -> Option β) (ke : Ex -> Vt -> Heap -> Rest -> Option β) : Option β :=
 match res with
 | some (.val v, s) => kn (p.f s.t v) s.h ⟨s.df, s.up⟩
 | some (.panic c, s) => ke (.panic c) s.t s.h ⟨s.df, s.up⟩
 | none => none
noncomputable def zmz (p : Bx (Vt -> Value -> Vt)) (t : Vt) (r : Rest) (res : Option (End × FrameMode × Heap)) (kn : Vt -> Heap -> Rest -> Option β) (ke : Ex -> Vt -> Heap -> Rest -> Option β) : Option β :=
 match res with
 | some (.ret v, _, h) => kn (p.f t v) h r
 | some (.panic c, _, h) => ke (.panic c) t h r
 | none => none
abbrev KOp (β : Type) := RecK -> Ctx -> Vt -> Heap -> Rest -> (Vt -> Heap -> Rest -> Option β) -> (Ex -> Vt -> Heap -> Rest -> Option β) -> Option β
noncomputable def genK (P : Program) (N : Nat) (o : Oper) (C : RecK) (x : Ctx) (t : Vt) (h : Heap) (r : Rest) (kn : Vt -> Heap -> Rest -> Option β) (ke : Ex -> Vt -> Heap -> Rest -> Option β) : Option β :=
 finK (putC N o.dst) ((opC P N o).f (toC C) x ⟨t, r.df, r.up, h⟩) kn ke
noncomputable def binK (P : Program) (N : Nat) (o : Oper) (op : BinOp) (ty : TypeId) (a b : Operand) (t : Vt) : Option Value :=
 match (binV op).f ((evC N a).f t) ((evC N b).f t) with
 | some v => some v
 | none => binF P (zaz N t) o op ty a b
noncomputable def unK (P : Program) (N : Nat) (o : Oper) (op : UnOp) (a : Operand) (t : Vt) : Option Value :=
 match (unV op).f ((evC N a).f t) with
 | some v => some v
 | none => zav P (zaz N t) o
noncomputable def lenK (P : Program) (N : Nat) (o : Oper) (ty : TypeId) (v : Value) (t : Vt) (h : Heap) : Option Value :=
 match (lenC P ty).f v with
 | some r => some r
 | none => lenF P (zaz N t) h o ty v
noncomputable def ziq (P : Program) (N : Nat) (o : Oper) (c : Call) : Bx (KOp β) :=
 match c.callee with
 | .builtin .len => match c.argTypes[0]?, c.args[0]? with
  | some ty, some a => ⟨fun _ _ t h r kn _ => zbV (lenK P N o ty ((evC N a).f t) t h) fun v => kn ((putC N o.dst).f t v) h r⟩
  | _, _ => ⟨fun _ _ _ _ _ _ _ => none⟩
 | .value (.func f) => match P.funcs[f]? with
  | none => ⟨fun _ _ _ _ _ _ _ => none⟩
  | some fn => bif fn.name == "runtime.NumGoroutine" then ⟨fun _ _ _ _ _ _ _ => none⟩
   else bif fn.body.isSome then ⟨fun C _ t h r kn ke => zmz (putC N o.dst) t r (C.call f ⟨zg9 N c.args.toList t⟩ false .run h) kn ke⟩
   else ⟨genK P N o⟩
 | _ => ⟨genK P N o⟩
noncomputable def opK (P : Program) (N : Nat) (o : Oper) : Bx (KOp β) :=
 match o.op with
 | .move a => ⟨fun _ _ t h r kn _ => kn ((putC N o.dst).f t ((evC N a).f t)) h r⟩
 | .assign a => ⟨fun _ _ t h r kn _ => kn ((putC N o.dst).f t ((evC N a).f t)) h r⟩
 | .pick c a b => ⟨fun _ _ t h r kn _ => zbV (zoN ((evC N c).f t) ((evC N a).f t) ((evC N b).f t)) fun v => kn ((putC N o.dst).f t v) h r⟩
 | .load ty a => ⟨fun _ _ t h r kn _ => zbV (zeE P ty h ((evC N a).f t)) fun v => kn ((putC N o.dst).f t v) h r⟩
 | .binOp op ty a b _ => ⟨fun _ _ t h r kn _ => zbV (binK P N o op ty a b t) fun v => kn ((putC N o.dst).f t v) h r⟩
 | .unOp op _ a => ⟨fun _ _ t h r kn _ => zbV (unK P N o op a t) fun v => kn ((putC N o.dst).f t v) h r⟩
 | .indexAddr ty a i => ⟨fun _ _ t h r kn _ => zbV ((zjA P ty).f ((evC N a).f t) ((evC N i).f t)) fun v => kn ((putC N o.dst).f t v) h r⟩
 | .fieldAddr ty a f => ⟨fun _ _ t h r kn _ => zbV ((zeP P ty f).f ((evC N a).f t)) fun v => kn ((putC N o.dst).f t v) h r⟩
 | .field ty a f => ⟨fun _ _ t h r kn _ => zbV ((zjJ P ty f).f ((evC N a).f t)) fun v => kn ((putC N o.dst).f t v) h r⟩
 | .extract a i => ⟨fun _ _ t h r kn _ => zbV (extC ((evC N a).f t) i) fun v => kn ((putC N o.dst).f t v) h r⟩
 | .build ty ps => ⟨fun _ _ t h r kn _ => zbV ((zpq P ty).f (zf9 N ps.toList t)) fun v => kn ((putC N o.dst).f t v) h r⟩
 | .box e a => ⟨fun _ _ t h r kn _ => zno (zd6 P e h (zdi ((evC N a).f t))) fun p => kn ((putC N o.dst).f t p.1) p.2 r⟩
 | .buildSlice ty n ps => ⟨fun _ _ t h r kn _ => zno ((zcU P ty n).f h (zf9 N ps.toList t)) fun p => kn ((putC N o.dst).f t p.1) p.2 r⟩
 | .store ty a v => ⟨fun _ _ t h r kn _ => heapK (ziE P ty h ((evC N v).f t) ((evC N a).f t)) fun h => kn ((putC N o.dst).f t undef) h r⟩
 | .call c => ziq P N o c
 | _ => ⟨genK P N o⟩
def DidK (P : Program) (N : Nat) (o : Oper) (C : RecK) (x : Ctx) (t : Vt) (h : Heap) (r : Rest) (kn : Vt -> Heap -> Rest -> Option β) (ke : Ex -> Vt -> Heap -> Rest -> Option β) (b : β) : Prop :=
 ∃ d s1, (opC P N o).f (toC C) x ⟨t, r.df, r.up, h⟩ = some (d, s1) /\ (match d with | .val v => kn ((putC N o.dst).f s1.t v) s1.h ⟨s1.df, s1.up⟩ | .panic c => ke (.panic c) s1.t s1.h ⟨s1.df, s1.up⟩) = some b
theorem zgt {P : Program} {N : Nat} {o : Oper} {C : RecK} {x : Ctx} {t : Vt} {h : Heap} {r : Rest} {kn : Vt -> Heap -> Rest -> Option β} {ke : Ex -> Vt -> Heap -> Rest -> Option β} {b : β} (e : genK P N o C x t h r kn ke = some b) : DidK P N o C x t h r kn ke b := by
 unfold genK at e
 cases hc : (opC P N o).f (toC C) x ⟨t, r.df, r.up, h⟩ with
 | none => rw [hc] at e; cases e
 | some p =>
  obtain ⟨d, s1⟩ := p
  rw [hc] at e
  exact ⟨d, s1, hc, by cases d <;> exact e⟩
theorem zc6 {P : Program} {N : Nat} {o : Oper} {C : RecK} {x : Ctx} {t : Vt} {h : Heap} {r : Rest} {kn : Vt -> Heap -> Rest -> Option β} {ke : Ex -> Vt -> Heap -> Rest -> Option β} {b : β} {v : Option Value}
  (hv : (opC P N o).f (toC C) x ⟨t, r.df, r.up, h⟩ = oneC ⟨t, r.df, r.up, h⟩ v) (e : zbV v (fun v => kn ((putC N o.dst).f t v) h r) = some b) : DidK P N o C x t h r kn ke b := by
 cases v with
 | none => cases e
 | some v => exact ⟨.val v, _, hv, e⟩
theorem zoS {P : Program} {N : Nat} {o : Oper} {C : RecK} {x : Ctx} {t : Vt} {h : Heap} {r : Rest} {kn : Vt -> Heap -> Rest -> Option β} {ke : Ex -> Vt -> Heap -> Rest -> Option β} {b : β} {v : Option (Value × Heap)}
  (hv : (opC P N o).f (toC C) x ⟨t, r.df, r.up, h⟩ = valC ⟨t, r.df, r.up, h⟩ v) (e : zno v (fun p => kn ((putC N o.dst).f t p.1) p.2 r) = some b) : DidK P N o C x t h r kn ke b := by
 cases v with
 | none => cases e
 | some v => exact ⟨.val v.1, _, hv, e⟩
theorem heap_ok {P : Program} {N : Nat} {o : Oper} {C : RecK} {x : Ctx} {t : Vt} {h : Heap} {r : Rest} {kn : Vt -> Heap -> Rest -> Option β} {ke : Ex -> Vt -> Heap -> Rest -> Option β} {b : β} {v : Option Heap}
  (hv : (opC P N o).f (toC C) x ⟨t, r.df, r.up, h⟩ = hhC ⟨t, r.df, r.up, h⟩ v) (e : heapK v (fun h => kn ((putC N o.dst).f t undef) h r) = some b) : DidK P N o C x t h r kn ke b := by
 cases v with
 | none => cases e
 | some v => exact ⟨.val undef, _, hv, e⟩
theorem zoX {P : Program} {N : Nat} {o : Oper} {C : RecK} {x : Ctx} {t : Vt} {h : Heap} {r : Rest} {kn : Vt -> Heap -> Rest -> Option β} {ke : Ex -> Vt -> Heap -> Rest -> Option β} {b : β} (e : (opK P N o).f C x t h r kn ke = some b) : DidK P N o C x t h r kn ke b := by
 unfold opK at e
 cases ho : o.op with
 | move a => rw [ho] at e; exact ⟨.val _, _, by unfold opC; rw [ho], e⟩
 | assign a => rw [ho] at e; exact ⟨.val _, _, by unfold opC; rw [ho], e⟩
 | pick c a b => rw [ho] at e; exact zc6 (by unfold opC; rw [ho]) e
 | load ty a => rw [ho] at e; exact zc6 (by unfold opC; rw [ho]) e
 | binOp op ty a b yt => rw [ho] at e; exact zc6 (by unfold opC; rw [ho]; rfl) e
 | unOp op ty a => rw [ho] at e; exact zc6 (by unfold opC; rw [ho]; rfl) e
 | indexAddr ty a i => rw [ho] at e; exact zc6 (by unfold opC; rw [ho]) e
 | fieldAddr ty a f => rw [ho] at e; exact zc6 (by unfold opC; rw [ho]) e
 | field ty a f => rw [ho] at e; exact zc6 (by unfold opC; rw [ho]) e
 | extract a i => rw [ho] at e; exact zc6 (by unfold opC; rw [ho]) e
 | build ty ps => rw [ho] at e; exact zc6 (by unfold opC; rw [ho]) e
 | box el a => rw [ho] at e; exact zoS (by unfold opC; rw [ho]) e
 | buildSlice ty n ps => rw [ho] at e; exact zoS (by unfold opC; rw [ho]) e
 | store ty a v => rw [ho] at e; exact heap_ok (by unfold opC; rw [ho]) e
 | call c =>
  rw [ho] at e
  obtain ⟨callee, args, argTypes⟩ := c
  simp only [] at e
  unfold ziq at e
  cases callee with
  | value f =>
   cases f with
   | func f =>
    simp only [] at e
    cases hf : P.funcs[f]? with
    | none => rw [hf] at e; cases e
    | some fn =>
     rw [hf] at e; simp only [] at e
     cases hn : (fn.name == "runtime.NumGoroutine") with
     | true => rw [hn] at e; cases e
     | false =>
      rw [hn] at e; simp only [cond_false] at e
      cases hb : fn.body.isSome with
      | false => rw [hb] at e; exact zgt e
      | true =>
       rw [hb] at e; simp only [cond_true] at e
       have hop : (opC P N o).f (toC C) x ⟨t, r.df, r.up, h⟩ = zfO ⟨t, r.df, r.up, h⟩ (C.call f ⟨zg9 N args.toList t⟩ false .run h) := by
        unfold opC; rw [ho]; simp only []; unfold zpL; simp only [hf, hn, hb, cond_false, cond_true]; rfl
       cases hc : C.call f ⟨zg9 N args.toList t⟩ false .run h with
       | none => rw [hc] at e; cases e
       | some q =>
        rw [hc] at e hop
        obtain ⟨e1, u, h1⟩ := q
        cases e1 with
        | ret v => exact ⟨.val v, _, hop, e⟩
        | panic c => exact ⟨.panic c, _, hop, e⟩
   | _ => exact zgt e
  | invoke rr name => exact zgt e
  | builtin bb =>
   cases bb with
   | len =>
    simp only [] at e
    cases h0 : argTypes[0]? with
    | none => rw [h0] at e; cases e
    | some ty =>
     rw [h0] at e
     cases h1 : args[0]? with
     | none => rw [h1] at e; cases e
     | some a =>
      rw [h1] at e
      exact zc6 (by unfold opC; rw [ho]; simp only []; unfold zpL; simp only [h0, h1]; rfl) e
   | _ => exact zgt e
 | _ => rw [ho] at e; exact zgt e
end
end Go.AX
