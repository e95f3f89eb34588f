/- The reading for the kernel, each operation's way found once. -/
import Derived.Test.YtjdopbcoaocllaaGreatDoorAxE
import Derived.Test.YtjdopbcoaocllaaGreatDoorAxV
namespace Go.AX
theorem zgZ {a b : Nat} (h : Nat.blt a b = true) : a < b := Nat.le_of_ble_eq_true h
theorem zlF {a b : Nat} (h : Nat.blt a b = false) : ¬ a < b := fun k => by
 have : Nat.blt a b = true := Nat.ble_eq_true_of_le k
 rw [this] at h; cases h
inductive Vb where
 | nil
 | node (v : Value) (l r : Vb)
structure N8 (α : Type) where
 a0 : α
 a1 : α
 a2 : α
 a3 : α
 a4 : α
 a5 : α
 a6 : α
 a7 : α
structure Vt where
 lo : N8 (N8 Value)
 hi : Vb
structure Bx (α : Type) where
 f : α
noncomputable def zau {α γ : Type} (b : Bx α) (k : α -> γ) : γ := @Bx.rec α (fun _ => γ) k b
theorem zaG {α γ : Type} (b : Bx α) (k : α -> γ) : zau b k = k b.f := by cases b; rfl
inductive Pth where
 | here
 | l (p : Pth)
 | r (p : Pth)
noncomputable def zjj : Nat -> Nat -> Pth := @Nat.rec (fun _ => Nat -> Pth) (fun _ => .here)
 (fun _ ih i => @Nat.rec (fun _ => Pth) .here (fun j _ => bif Nat.beq (Nat.mod j 2) 0 then .l (ih (Nat.div j 2)) else .r (ih (Nat.div j 2))) i)
def unpath : Pth -> Nat
 | .here => 0
 | .l p => 2 * unpath p + 1
 | .r p => 2 * unpath p + 2
theorem zeG : ∀ n i, i <= n -> unpath (zjj n i) = i := by
  intro n
  induction n with
  | zero => intro i h; have : i = 0 := by omega
            subst this; rfl
  | succ n ih =>
    intro i h
    cases i with
    | zero => rfl
    | succ j =>
      show unpath (bif Nat.beq (Nat.mod j 2) 0 then .l (zjj n (Nat.div j 2)) else .r (zjj n (Nat.div j 2))) = j + 1
      have hd : Nat.div j 2 = j / 2 := rfl
      have hm : Nat.mod j 2 = j % 2 := rfl
      cases hb : Nat.beq (Nat.mod j 2) 0 with
      | true =>
        have := Nat.eq_of_beq_eq_true hb
        simp only [cond_true, unpath, ih _ (by omega : Nat.div j 2 <= n)]; omega
      | false =>
        have : Nat.mod j 2 ≠ 0 := fun q => by rw [q] at hb; cases hb
        simp only [cond_false, unpath, ih _ (by omega : Nat.div j 2 <= n)]; omega
noncomputable def getC : Pth -> Bx (Vb -> Value) := @Pth.rec (fun _ => Bx (Vb -> Value)) ⟨fun t => @Vb.rec (fun _ => Value) undef (fun v _ _ _ _ => v) t⟩
 (fun _ ih => zau ih fun g => ⟨fun t => @Vb.rec (fun _ => Value) undef (fun _ l _ _ _ => g l) t⟩) (fun _ ih => zau ih fun g => ⟨fun t => @Vb.rec (fun _ => Value) undef (fun _ _ r _ _ => g r) t⟩)
noncomputable def setC : Pth -> Bx (Vb -> Value -> Vb) := @Pth.rec (fun _ => Bx (Vb -> Value -> Vb)) ⟨fun t v => @Vb.rec (fun _ => Vb) (.node v .nil .nil) (fun _ l r _ _ => .node v l r) t⟩
 (fun _ ih => ⟨fun t v => @Vb.rec (fun _ => Vb) (.node undef (ih.f .nil v) .nil) (fun w l r _ _ => .node w (ih.f l v) r) t⟩) (fun _ ih => ⟨fun t v => @Vb.rec (fun _ => Vb) (.node undef .nil (ih.f .nil v)) (fun w l r _ _ => .node w l (ih.f r v)) t⟩)
theorem zez (p : Pth) : (getC p).f .nil = undef := by cases p <;> rfl
theorem vb_same (p : Pth) : ∀ t v, (getC p).f ((setC p).f t v) = v := by
 induction p with
 | here => intro t v; cases t <;> rfl
 | l p ih => intro t v; cases t <;> exact ih _ v
 | r p ih => intro t v; cases t <;> exact ih _ v
theorem vb_other (p : Pth) : ∀ q t v, unpath p ≠ unpath q -> (getC q).f ((setC p).f t v) = (getC q).f t := by
 induction p with
 | here => intro q t v h; cases q with
  | here => exact absurd rfl h
  | l q => cases t with
   | nil => exact zez q
   | node => rfl
  | r q => cases t with
   | nil => exact zez q
   | node => rfl
 | l p ih => intro q t v h; cases q with
  | here => cases t <;> rfl
  | l q => cases t with
   | nil => exact (ih q .nil v (fun e => h (by simp only [unpath, e]))).trans (zez q)
   | node w l r => exact ih q l v (fun e => h (by simp only [unpath, e]))
  | r q => cases t with
   | nil => exact zez q
   | node => rfl
 | r p ih => intro q t v h; cases q with
  | here => cases t <;> rfl
  | l q => cases t with
   | nil => exact zez q
   | node => rfl
  | r q => cases t with
   | nil => exact (ih q .nil v (fun e => h (by simp only [unpath, e]))).trans (zez q)
   | node w l r => exact ih q r v (fun e => h (by simp only [unpath, e]))
noncomputable def zjQ {α : Type} (i : Nat) : Bx (N8 α -> α) :=
 match i with
 | 0 => ⟨fun t => t.a0⟩
 | 1 => ⟨fun t => t.a1⟩
 | 2 => ⟨fun t => t.a2⟩
 | 3 => ⟨fun t => t.a3⟩
 | 4 => ⟨fun t => t.a4⟩
 | 5 => ⟨fun t => t.a5⟩
 | 6 => ⟨fun t => t.a6⟩
 | _ => ⟨fun t => t.a7⟩
noncomputable def setD8 {α : Type} (i : Nat) : Bx (N8 α -> α -> N8 α) :=
 match i with
 | 0 => ⟨fun t v => @N8.rec α (fun _ => N8 α) (fun _ a1 a2 a3 a4 a5 a6 a7 => ⟨v, a1, a2, a3, a4, a5, a6, a7⟩) t⟩
 | 1 => ⟨fun t v => @N8.rec α (fun _ => N8 α) (fun a0 _ a2 a3 a4 a5 a6 a7 => ⟨a0, v, a2, a3, a4, a5, a6, a7⟩) t⟩
 | 2 => ⟨fun t v => @N8.rec α (fun _ => N8 α) (fun a0 a1 _ a3 a4 a5 a6 a7 => ⟨a0, a1, v, a3, a4, a5, a6, a7⟩) t⟩
 | 3 => ⟨fun t v => @N8.rec α (fun _ => N8 α) (fun a0 a1 a2 _ a4 a5 a6 a7 => ⟨a0, a1, a2, v, a4, a5, a6, a7⟩) t⟩
 | 4 => ⟨fun t v => @N8.rec α (fun _ => N8 α) (fun a0 a1 a2 a3 _ a5 a6 a7 => ⟨a0, a1, a2, a3, v, a5, a6, a7⟩) t⟩
 | 5 => ⟨fun t v => @N8.rec α (fun _ => N8 α) (fun a0 a1 a2 a3 a4 _ a6 a7 => ⟨a0, a1, a2, a3, a4, v, a6, a7⟩) t⟩
 | 6 => ⟨fun t v => @N8.rec α (fun _ => N8 α) (fun a0 a1 a2 a3 a4 a5 _ a7 => ⟨a0, a1, a2, a3, a4, a5, v, a7⟩) t⟩
 | _ => ⟨fun t v => @N8.rec α (fun _ => N8 α) (fun a0 a1 a2 a3 a4 a5 a6 _ => ⟨a0, a1, a2, a3, a4, a5, a6, v⟩) t⟩
theorem ze7 {i : Nat} (h : i < 8) : i = 0 \/ i = 1 \/ i = 2 \/ i = 3 \/ i = 4 \/ i = 5 \/ i = 6 \/ i = 7 := by omega
theorem zly {α : Type} {i : Nat} (h : i < 8) (t : N8 α) (v : α) : (zjQ i).f ((setD8 i).f t v) = v := by
 cases t
 rcases ze7 h with rfl | rfl | rfl | rfl | rfl | rfl | rfl | rfl <;> rfl
theorem zmJ {α : Type} {i j : Nat} (h : i < 8) (k : j < 8) (hij : i ≠ j) (t : N8 α) (v : α) : (zjQ j).f ((setD8 i).f t v) = (zjQ j).f t := by
 cases t
 rcases ze7 h with rfl | rfl | rfl | rfl | rfl | rfl | rfl | rfl <;> rcases ze7 k with rfl | rfl | rfl | rfl | rfl | rfl | rfl | rfl <;> first | rfl | exact absurd rfl hij
noncomputable def gC (i : Nat) : Bx (Vt -> Value) :=
 bif Nat.blt i 64 then zau (zjQ (α := Value) (Nat.mod i 8)) fun g => zau (zjQ (α := N8 Value) (Nat.div i 8)) fun f => ⟨fun t => g (f t.lo)⟩ else zau (getC (zjj (Nat.sub i 64) (Nat.sub i 64))) fun g => ⟨fun t => g t.hi⟩
noncomputable def sC (i : Nat) : Bx (Vt -> Value -> Vt) :=
 bif Nat.blt i 64 then zau (setD8 (α := N8 Value) (Nat.div i 8)) fun s => zau (setD8 (α := Value) (Nat.mod i 8)) fun s' => zau (zjQ (α := N8 Value) (Nat.div i 8)) fun g => ⟨fun t v => @Vt.rec (fun _ => Vt) (fun lo hi => ⟨s lo (s' (g lo) v), hi⟩) t⟩
 else zau (setC (zjj (Nat.sub i 64) (Nat.sub i 64))) fun s => ⟨fun t v => @Vt.rec (fun _ => Vt) (fun lo hi => ⟨lo, s hi v⟩) t⟩
theorem zpF (i : Nat) (t : Vt) (v : Value) : (gC i).f ((sC i).f t v) = v := by
 unfold gC sC
 simp only [zaG]
 have hd : Nat.div i 8 = i / 8 := rfl
 have hm : Nat.mod i 8 = i % 8 := rfl
 cases hb : Nat.blt i 64 with
 | true =>
  have := zgZ hb
  cases t
  simp only [cond_true]
  rw [zly (by omega), zly (by omega)]
 | false => cases t; exact vb_same _ _ _
theorem zmz {i j : Nat} (h : i ≠ j) (t : Vt) (v : Value) : (gC j).f ((sC i).f t v) = (gC j).f t := by
 unfold gC sC
 simp only [zaG]
 have hd : ∀ i, Nat.div i 8 = i / 8 := fun _ => rfl
 have hm : ∀ i, Nat.mod i 8 = i % 8 := fun _ => rfl
 have hs : ∀ i, Nat.sub i 64 = i - 64 := fun _ => rfl
 cases hb : Nat.blt i 64 with
 | true =>
  have h1 := zgZ hb
  cases hc : Nat.blt j 64 with
  | false => cases t; rfl
  | true =>
   have h2 := zgZ hc
   cases t
   simp only [cond_true]
   by_cases hq : Nat.div i 8 = Nat.div j 8
   ·rw [<- hq, zly (by rw [hd]; omega), zmJ (by rw [hm]; omega) (by rw [hm]; omega)]
    rw [hd, hd] at hq
    rw [hm, hm]; omega
   ·rw [zmJ (by rw [hd]; omega) (by rw [hd]; omega) hq]
 | false =>
  have h1 := zlF hb
  cases hc : Nat.blt j 64 with
  | true => cases t; rfl
  | false =>
   have h2 := zlF hc
   cases t
   simp only [cond_false]
   refine vb_other _ _ _ _ ?_
   rw [zeG _ _ (Nat.le_refl _), zeG _ _ (Nat.le_refl _), hs, hs]
   omega
noncomputable def u8 : N8 Value := ⟨undef, undef, undef, undef, undef, undef, undef, undef⟩
noncomputable def Vt.nil : Vt := ⟨⟨u8, u8, u8, u8, u8, u8, u8, u8⟩, .nil⟩
theorem u8_get {i : Nat} (h : i < 8) : (zjQ i).f u8 = undef := by rcases ze7 h with rfl | rfl | rfl | rfl | rfl | rfl | rfl | rfl <;> rfl
theorem nil_get (i : Nat) : (gC i).f .nil = undef := by
 unfold gC
 simp only [zaG]
 have hd : Nat.div i 8 = i / 8 := rfl
 have hm : Nat.mod i 8 = i % 8 := rfl
 cases hb : Nat.blt i 64 with
 | false => exact zez _
 | true =>
  have := zgZ hb
  have e : (zjQ (Nat.div i 8)).f Vt.nil.lo = u8 := by
   rcases ze7 (show Nat.div i 8 < 8 by omega) with h | h | h | h | h | h | h | h <;> rw [h] <;> rfl
  simp only [cond_true]
  rw [e, u8_get (by omega)]
noncomputable def zfg : Nat -> Nat -> Vt -> List Value := @Nat.rec (fun _ => Nat -> Vt -> List Value) (fun _ _ => []) (fun _ ih k t => (gC k).f t :: ih (k + 1) t)
noncomputable def zay (N : Nat) (t : Vt) : Array Value := ⟨zfg N 0 t⟩
theorem zkI (t : Vt) : ∀ N k i, (zfg N k t)[i]? = if i < N then some ((gC (k + i)).f t) else none := by
 intro N
 induction N with
 | zero => intro k i; show ([] : List Value)[i]? = _; simp
 | succ N ih =>
  intro k i
  show ((gC k).f t :: zfg N (k + 1) t)[i]? = _
  cases i with
  | zero => simp
  | succ i => rw [List.getElem?_cons_succ, ih]; simp [Nat.add_assoc, Nat.add_comm 1 i]
theorem zdI (N : Nat) (t : Vt) (i : Nat) : (zay N t)[i]? = if i < N then some ((gC i).f t) else none := by
 show (Array.mk (zfg N 0 t))[i]? = _
 rw [List.getElem?_toArray, zkI]; simp
theorem zhf (t : Vt) : ∀ N k, (zfg N k t).length = N := by
 intro N
 induction N with
 | zero => intro k; rfl
 | succ N ih => intro k; show (zfg N (k + 1) t).length + 1 = _; rw [ih]
theorem znd (N : Nat) (t : Vt) : (zay N t).size = N := zhf t N 0
noncomputable def evC (N : Nat) (o : Operand) : Bx (Vt -> Value) :=
 match o with
 | .tmp i => bif Nat.blt i N then gC i else ⟨fun _ => undef⟩
 | .const v => ⟨fun _ => v⟩
 | .global g => ⟨fun _ => .pointer (some ⟨g, 0, none⟩)⟩
 | .func f => ⟨fun _ => .func (.func f) #[] #[]⟩
theorem zbw (N : Nat) (o : Operand) (t : Vt) : (evC N o).f t = ev (zay N t) o := by
 cases o with
 | tmp i =>
  simp only [evC, ev, Array.getD_eq_getD_getElem?, zdI]
  cases hb : Nat.blt i N with
  | true => simp [zgZ hb]
  | false => simp [zlF hb]
 | _ => rfl
noncomputable def putC (N : Nat) (d : Option Tmp) : Bx (Vt -> Value -> Vt) :=
 match d with
 | some d => bif Nat.blt d N then sC d else ⟨fun t _ => t⟩
 | none => ⟨fun t _ => t⟩
theorem zbW (N : Nat) (d : Option Tmp) (t : Vt) (v : Value) : zay N ((putC N d).f t v) = put (zay N t) d v := by
 cases d with
 | none => rfl
 | some d =>
  apply Array.ext_getElem?
  intro i
  simp only [putC, put, Array.getElem?_setIfInBounds, znd]
  cases hb : Nat.blt d N with
  | true =>
   have hd := zgZ hb
   simp only [cond_true, zdI]
   by_cases hi : d = i
   ·subst hi; simp [hd, zpF]
   ·simp [hi, zmz hi]
  | false =>
   have hd := zlF hb
   simp only [cond_false, zdI]
   by_cases hi : d = i
   ·subst hi; simp [hd]
   ·simp [hi]
noncomputable def zcH : List Value -> Nat -> Vt -> Vt := @List.rec Value (fun _ => Nat -> Vt -> Vt) (fun _ t => t) (fun v _ ih i t => ih (i + 1) ((sC i).f t v))
theorem zpj (l : List Value) : ∀ k t i, (gC i).f (zcH l k t) = if k <= i /\ i < k + l.length then l.getD (i - k) undef else (gC i).f t := by
 induction l with
 | nil => intro k t i; rw [if_neg (by simp only [List.length_nil]; omega)]; rfl
 | cons v l ih =>
  intro k t i
  show (gC i).f (zcH l (k + 1) ((sC k).f t v)) = _
  rw [ih]
  by_cases h1 : k + 1 <= i /\ i < k + 1 + l.length
  ·rw [if_pos h1, if_pos (by simp only [List.length_cons]; omega)]
   obtain ⟨j, rfl⟩ : ∃ j, i = k + 1 + j := ⟨i - (k + 1), by omega⟩
   rw [show k + 1 + j - (k + 1) = j by omega, show k + 1 + j - k = j + 1 by omega]; simp
  ·rw [if_neg h1]
   by_cases h2 : k = i
   ·subst h2; rw [zpF, if_pos (by simp)]; simp
   ·rw [zmz h2, if_neg (by simp only [List.length_cons]; omega)]
theorem zcU (N : Nat) (l : List Value) (hl : l.length <= N) : zay N (zcH l 0 .nil) = ⟨l⟩ ++ Array.replicate (N - l.length) undef := by
 apply Array.ext_getElem?
 intro i
 rw [zdI, zpj]
 rw [nil_get]
 by_cases h1 : i < l.length
 ·rw [if_pos (by omega), if_pos (by omega), Array.getElem?_append_left (by simpa using h1)]; simp [h1]
 ·rw [Array.getElem?_append_right (by simp; omega), Array.getElem?_replicate]
  by_cases h2 : i < N
  ·rw [if_pos h2, if_neg (by omega), if_pos (by simp; omega)]
  ·rw [if_neg h2, if_neg (by simp; omega)]
structure FS where
 t : Vt
 df : List Deferred
 up : FrameMode
 h : Heap
noncomputable def FS.st (N : Nat) (s : FS) : St := ⟨zay N s.t, s.df, s.up, s.h⟩
noncomputable def btGet : Bt -> Nat -> Option Blk := @Bt.rec (fun _ => Nat -> Option Blk) (fun _ => none)
 (fun b _ _ il ir i => @Nat.rec (fun _ => Option Blk) (some b) (fun j _ => bif Nat.beq (Nat.mod j 2) 0 then il (Nat.div j 2) else ir (Nat.div j 2)) i)
theorem btGet_eq (t : Bt) : ∀ i, btGet t i = t.get i := by
 induction t with
 | nil => intro i; cases i <;> rfl
 | node b l r il ir =>
  intro i
  cases i with
  | zero => rfl
  | succ j =>
   show (bif Nat.beq (Nat.mod j 2) 0 then btGet l (Nat.div j 2) else btGet r (Nat.div j 2)) = _
   rw [il, ir]; rfl
noncomputable def zp7 (t : Bt) : Blk -> Bt := @Bt.rec (fun _ => Blk -> Bt) (fun b => .node b .nil .nil) (fun a l _ _ ir b => .node b (ir a) l) t
theorem zp6 (t : Bt) : ∀ b, zp7 t b = t.cons b := by
 induction t with
 | nil => intro b; rfl
 | node a l r _ ir => intro b; show Bt.node b (zp7 r a) l = _; rw [ir]; rfl
noncomputable def btSet : Bt -> Nat -> Blk -> Bt := @Bt.rec (fun _ => Nat -> Blk -> Bt) (fun _ _ => .nil)
 (fun a l r il ir i b => @Nat.rec (fun _ => Bt) (.node b l r) (fun j _ => bif Nat.beq (Nat.mod j 2) 0 then .node a (il (Nat.div j 2) b) r else .node a l (ir (Nat.div j 2) b)) i)
theorem btSet_eq (t : Bt) : ∀ i b, btSet t i b = t.set i b := by
 induction t with
 | nil => intro i b; cases i <;> rfl
 | node a l r il ir =>
  intro i b
  cases i with
  | zero => rfl
  | succ j =>
   show (bif Nat.beq (Nat.mod j 2) 0 then Bt.node a (btSet l (Nat.div j 2) b) r else .node a l (btSet r (Nat.div j 2) b)) = _
   rw [il, ir]; rfl
noncomputable def hGet (h : Heap) (i : Nat) : Option Blk := bif Nat.blt i h.n then btGet h.bs (Nat.sub (Nat.sub h.n 1) i) else none
theorem zir (h : Heap) (i : Nat) : hGet h i = h.get? i := by
 unfold hGet Heap.get?
 rw [btGet_eq]
 cases hb : Nat.blt i h.n with
 | true => rw [if_pos (zgZ hb)]; rfl
 | false => rw [if_neg (zlF hb)]; rfl
noncomputable def hPush (h : Heap) (b : Blk) : Heap := { n := Nat.succ h.n, bs := zp7 h.bs b }
theorem zmy (h : Heap) (b : Blk) : hPush h b = h.push b := by unfold hPush Heap.push; rw [zp6]
noncomputable def hSet (h : Heap) (i : Nat) (b : Blk) : Heap := { n := h.n, bs := btSet h.bs (Nat.sub (Nat.sub h.n 1) i) b }
theorem hSet_eq (h : Heap) (i : Nat) (b : Blk) : hSet h i b = h.set i b := by unfold hSet Heap.set; rw [btSet_eq]; rfl
end Go.AX

namespace Go.AX
structure RecC where
 code : Ctx -> Code -> FS -> Option (Ex × FS)
 call : FuncId -> Array Value -> Bool -> FrameMode -> Heap -> Option (End × FrameMode × Heap)
 round : Nat -> Array Value -> Heap -> Option (End × Heap)
noncomputable def nOf (P : Program) (f : FuncId) : Nat := match P.funcs[f]? with | some fn => fn.ntmps | none => 0
structure Under (P : Program) (C : RecC) (R : Recs) : Prop where
 code : ∀ x c s e s', C.code x c s = some (e, s') -> R.code x c (s.st (nOf P x.fn)) = some (e, s'.st (nOf P x.fn))
 call : ∀ f args d u h r, C.call f args d u h = some r -> R.call f args d u h = some r
 round : ∀ l args h r, C.round l args h = some r -> R.round l args h = some r
noncomputable def oneC (s : FS) (r : Option Value) : Option (Did × FS) := match r with | some v => some (.val v, s) | none => none
noncomputable def valC (s : FS) (r : Option (Value × Heap)) : Option (Did × FS) := match r with | some (v, h) => some (.val v, { s with h }) | none => none
noncomputable def hhC (s : FS) (r : Option Heap) : Option (Did × FS) := match r with | some h => some (.val undef, { s with h }) | none => none
theorem zek {N : Nat} {s s' : FS} {d : Did} {r r' : Option Value} (e : r = r') (h : oneC s r = some (d, s')) : oneF (s.st N) r' = some (d, s'.st N) := by
 subst e; cases r with
 | none => cases h
 | some v => cases h; rfl
theorem zpi {N : Nat} {s s' : FS} {d : Did} {r r' : Option (Value × Heap)} (e : r = r') (h : valC s r = some (d, s')) : valF (s.st N) r' = some (d, s'.st N) := by
 subst e; cases r with
 | none => cases h
 | some v => cases h; rfl
theorem of_hh {N : Nat} {s s' : FS} {d : Did} {r r' : Option Heap} (e : r = r') (h : hhC s r = some (d, s')) : hhF (s.st N) r' = some (d, s'.st N) := by
 subst e; cases r with
 | none => cases h
 | some v => cases h; rfl
noncomputable def zf5 (s : FS) (r : Option (End × FrameMode × Heap)) : Option (Did × FS) :=
 match r with
 | some (.ret v, _, h) => some (.val v, { s with h })
 | some (.panic c, _, h) => some (.panic c, { s with h })
 | none => none
noncomputable def actC (C : RecC) (x : Ctx) (s : FS) (r : Option (Out × Heap)) : Option (Did × FS) :=
 match r with
 | none => none
 | some (.val v, h) => some (.val v, { s with h })
 | some (.enter f args, h) => zf5 s (C.call f args false .run h)
 | some (.round l args, h) =>
  match C.round l args h with
  | some (.ret v, h) => some (.val v, { s with h })
  | some (.panic c, h) => some (.panic c, { s with h })
  | none => none
 | some (.defer d, h) => if x.round.isSome then none else some (.val undef, { s with h, df := d :: s.df })
 | some (.recover, h) =>
  if x.round.isSome then none
  else if x.dfr then some (.val (zaU s.up).1, { s with h, up := (zaU s.up).2 })
  else some (.val .nilIface, { s with h })
 | some (.panic v, h) => some (.panic [{ v, recovered := false }], { s with h })
theorem zhI {N : Nat} {s s' : FS} {d : Did} {r r' : Option (End × FrameMode × Heap)} (hr : ∀ a, r = some a -> r' = some a) (h : zf5 s r = some (d, s')) : zf4 (s.st N) r' = some (d, s'.st N) := by
 cases hc : r with
 | none => rw [hc] at h; cases h
 | some a =>
  rw [hr a hc]; rw [hc] at h
  obtain ⟨e, u, h1⟩ := a
  cases e <;> (cases h; rfl)
theorem zqf {P : Program} {C : RecC} {R : Recs} (hU : Under P C R) {N : Nat} {x : Ctx} {s s' : FS} {d : Did} {r : Option (Out × Heap)} (h : actC C x s r = some (d, s')) : actF R x (s.st N) r = some (d, s'.st N) := by
 cases r with
 | none => cases h
 | some p =>
  obtain ⟨q, h1⟩ := p
  cases q with
  | val v => cases h; rfl
  | enter f args => exact zhI (hU.call _ _ _ _ _) h
  | round l args =>
   simp only [actC] at h
   cases hc : C.round l args h1 with
   | none => rw [hc] at h; cases h
   | some a =>
    simp only [actF, hU.round _ _ _ _ hc]
    rw [hc] at h
    obtain ⟨e, h2⟩ := a
    cases e <;> (cases h; rfl)
  | defer dd =>
   simp only [actC] at h; simp only [actF]
   split at h
   ·cases h
   ·rename_i hx; rw [if_neg hx]; cases h; rfl
  | recover =>
   simp only [actC] at h; simp only [actF]
   split at h
   ·cases h
   ·rename_i hx; rw [if_neg hx]
    split at h
    ·rename_i hd; rw [if_pos hd]; cases h; rfl
    ·rename_i hd; rw [if_neg hd]; cases h; rfl
  | panic v => cases h; rfl
noncomputable def zhV (P : Program) (N : Nat) (C : RecC) (x : Ctx) (s : FS) (o : Oper) : Option (Did × FS) :=
 match zae P (zay N s.t) s.h o with
 | some (v, h) => some (.val v, { s with h })
 | none => bif zaf o then none else actC C x s (zaZ P (zay N s.t) s.h o)
theorem zkv {P : Program} {C : RecC} {R : Recs} (hU : Under P C R) {N : Nat} {x : Ctx} {s s' : FS} {d : Did} {o : Oper} (h : zhV P N C x s o = some (d, s')) : zeH P R x (s.st N) o = some (d, s'.st N) := by
 unfold zhV at h; unfold zeH
 show (match zae P (zay N s.t) s.h o with | some (v, h) => some (Did.val v, { s.st N with h }) | none => if zaf o then none else actF R x (s.st N) (zaZ P (zay N s.t) s.h o)) = _
 cases hs : zae P (zay N s.t) s.h o with
 | some p => rw [hs] at h; cases h; rfl
 | none =>
  rw [hs] at h; simp only [] at h
  cases hi : zaf o with
  | true => rw [hi] at h; cases h
  | false => rw [hi] at h; exact zqf hU h
noncomputable def zfG (op : BinOp) : Bx (Int -> Int -> Option Value) :=
 match op with
 | .add => ⟨fun a b => bif zdj (Int.add a b) then some (.int .i64 (Int.add a b)) else none⟩
 | .sub => ⟨fun a b => bif zdj (Int.add a (Int.neg b)) then some (.int .i64 (Int.add a (Int.neg b))) else none⟩
 | .mul => ⟨fun a b => bif zdj (Int.mul a b) then some (.int .i64 (Int.mul a b)) else none⟩
 | .quo => ⟨fun a b => bif eqF b (.ofNat 0) then none else bif zdj (Int.tdiv a b) then some (.int .i64 (Int.tdiv a b)) else none⟩
 | .rem => ⟨fun a b => bif eqF b (.ofNat 0) then none else some (.int .i64 (Int.tmod a b))⟩
 | .eql => ⟨fun a b => some (.bool (eqF a b))⟩
 | .neq => ⟨fun a b => some (.bool (not (eqF a b)))⟩
 | .lss => ⟨fun a b => some (.bool (ltF a b))⟩
 | .leq => ⟨fun a b => some (.bool (not (ltF b a)))⟩
 | .gtr => ⟨fun a b => some (.bool (ltF b a))⟩
 | .geq => ⟨fun a b => some (.bool (not (ltF a b)))⟩
 | _ => ⟨fun _ _ => none⟩
theorem znP {op : BinOp} {a b : Int} {v : Value} (h : (zfG op).f a b = some v) : zaQ op a b = some v := by
 cases op <;> simp only [zfG] at h <;> try (cases h; done)
 ·cases hf : zdj (Int.add a b) with
  | false => rw [hf] at h; cases h
  | true => rw [hf] at h; cases h; simp only [zaQ]; rw [show a + b = Int.add a b from rfl, zcE _ hf]
 ·cases hf : zdj (Int.add a (Int.neg b)) with
  | false => rw [hf] at h; cases h
  | true => rw [hf] at h; cases h; simp only [zaQ]; rw [show a - b = Int.add a (Int.neg b) from rfl, zcE _ hf]
 ·cases hf : zdj (Int.mul a b) with
  | false => rw [hf] at h; cases h
  | true => rw [hf] at h; cases h; simp only [zaQ]; rw [show a * b = Int.mul a b from rfl, zcE _ hf]
 ·rw [ze5] at h
  cases hz : (b == Int.ofNat 0) with
  | true => rw [hz] at h; cases h
  | false =>
   rw [hz] at h; simp only [cond_false] at h
   have : ¬ b = 0 := by simpa using hz
   cases hf : zdj (Int.tdiv a b) with
   | false => rw [hf] at h; cases h
   | true => rw [hf] at h; cases h; simp only [zaQ, if_neg this, zcE _ hf]
 ·rw [ze5] at h
  cases hz : (b == Int.ofNat 0) with
  | true => rw [hz] at h; cases h
  | false =>
   rw [hz] at h; cases h
   have : ¬ b = 0 := by simpa using hz
   simp only [zaQ, if_neg this]
 ·cases h; simp only [zaQ, ze5]
 ·cases h; simp only [zaQ, ze5]; rfl
 ·cases h; simp only [zaQ, zfF]
 ·cases h; simp only [zaQ, zfF]; congr 2; rw [Bool.eq_iff_iff]; simp
 ·cases h; simp only [zaQ, zfF]
 ·cases h; simp only [zaQ, zfF]; congr 2; rw [Bool.eq_iff_iff]; simp
noncomputable def i64Of (v : Value) : Option Int := match v with | .int k a => bif i64 k then some a else none | _ => none
theorem ze0 {v : Value} {a : Int} (h : i64Of v = some a) : v = .int .i64 a := by
 cases v with
 | int k n => cases k <;> simp_all [i64Of, i64]
 | _ => cases h
noncomputable def binV (op : BinOp) : Bx (Value -> Value -> Option Value) :=
 ⟨fun x y => match i64Of x with | none => none | some a => match i64Of y with | none => none | some b => (zfG op).f a b⟩
theorem zn9 {P : Program} {tm : Array Value} {o : Oper} {op : BinOp} {t yt : TypeId} {x y : Operand} {v : Value} (ho : o.op = .binOp op t x y yt) (h : (binV op).f (ev tm x) (ev tm y) = some v) : binF P tm o op t x y = some v := by
 simp only [binV] at h
 cases hx : i64Of (ev tm x) with
 | none => rw [hx] at h; cases h
 | some a =>
  rw [hx] at h; simp only [] at h
  cases hy : i64Of (ev tm y) with
  | none => rw [hy] at h; cases h
  | some b =>
   rw [hy] at h; simp only [] at h
   have hp := zg0 (P := P) ho (ze0 hx) (ze0 hy) (znP h)
   unfold binF
   cases hf : zel op (evF tm x) (evF tm y) with
   | some w =>
    rw [zbh] at hf
    rw [zfJ (P := P) ho hf] at hp
    exact hp
   | none => simp only [hp]
noncomputable def binC (P : Program) (N : Nat) (o : Oper) (op : BinOp) (t : TypeId) (a b : Operand) (s : FS) : Option Value :=
 match (binV op).f ((evC N a).f s.t) ((evC N b).f s.t) with
 | some v => some v
 | none => binF P (zay N s.t) o op t a b
noncomputable def unV (op : UnOp) : Bx (Value -> Option Value) :=
 match op with
 | .not => ⟨fun v => match v with | .bool b => some (.bool (not b)) | _ => none⟩
 | .neg => ⟨fun v => match i64Of v with | some n => bif zdj (Int.add (.ofNat 0) (Int.neg n)) then some (.int .i64 (Int.add (.ofNat 0) (Int.neg n))) else none | none => none⟩
 | _ => ⟨fun _ => none⟩
theorem zol {P : Program} {tm : Array Value} {o : Oper} {op : UnOp} {t : TypeId} {x : Operand} {v : Value} (ho : o.op = .unOp op t x) (h : (unV op).f (ev tm x) = some v) : zav P tm o = some v := by
 cases op with
 | not =>
  simp only [unV] at h
  split at h
  ·rename_i b hb
   cases h
   have hp : (zaR o && o.op.operands.toList.all fun x => plain deep (ev tm x)) = true := by
    simp [zaR, ho, Op.operands, hb, plain, deep]
   unfold zav
   rw [if_pos hp]
   have he : pe P (execOp (ev tm) o) = some (.value (.bool (!b))) := by
    unfold execOp; rw [ho]; simp only [hb]; rfl
   rw [he]; rfl
  ·cases h
 | neg =>
  simp only [unV] at h
  split at h
  ·rename_i n hn
   have hb := ze0 hn
   cases hf : zdj (Int.add (.ofNat 0) (Int.neg n)) with
   | false => rw [hf] at h; cases h
   | true =>
    rw [hf] at h; cases h
    have hp : (zaR o && o.op.operands.toList.all fun x => plain deep (ev tm x)) = true := by
     simp [zaR, ho, Op.operands, hb, plain, deep]
    unfold zav
    rw [if_pos hp]
    have he : pe P (execOp (ev tm) o) = some (.value (.int .i64 (IntKind.wrap .i64 (0 - n)))) := by
     unfold execOp; rw [ho]; simp only [hb]; rfl
    rw [he, show (0 : Int) - n = Int.add (.ofNat 0) (Int.neg n) from rfl, zcE _ hf]; rfl
  ·cases h
 | _ => cases h
noncomputable def unC (P : Program) (N : Nat) (o : Oper) (op : UnOp) (a : Operand) (s : FS) : Option Value :=
 match (unV op).f ((evC N a).f s.t) with
 | some v => some v
 | none => zav P (zay N s.t) o
noncomputable def takeF : Nat -> List Value -> List Value := @Nat.rec (fun _ => List Value -> List Value) (fun _ => []) (fun _ ih l => @List.rec Value (fun _ => List Value) [] (fun a as _ => a :: ih as) l)
theorem zlZ : ∀ n l, takeF n l = l.take n := by
 intro n
 induction n with
 | zero => intro l; rfl
 | succ n ih => intro l; cases l with
  | nil => rfl
  | cons a l => show a :: takeF n l = _; rw [ih]; rfl
noncomputable def dropF : Nat -> List Value -> List Value := @Nat.rec (fun _ => List Value -> List Value) (fun l => l) (fun _ ih l => @List.rec Value (fun _ => List Value) [] (fun _ as _ => ih as) l)
theorem zmG : ∀ n l, dropF n l = l.drop n := by
 intro n
 induction n with
 | zero => intro l; rfl
 | succ n ih => intro l; cases l with
  | nil => rfl
  | cons a l => exact ih l
noncomputable def lenL : List Value -> Nat := @List.rec Value (fun _ => Nat) 0 (fun _ _ n => Nat.succ n)
theorem zcJ (l : List Value) : lenL l = l.length := by
 induction l with
 | nil => rfl
 | cons a l ih => exact congrArg Nat.succ ih
noncomputable def zkT (P : Program) (t : TypeId) : Bx (List Value -> Nat -> Option Value) :=
 match aggB P t with
 | some true => match zax P t with
  | some n => ⟨fun cs off => bif Nat.ble (Nat.add off n) (lenL cs) then some (.agg ⟨takeF n (dropF off cs)⟩) else none⟩
  | none => ⟨fun _ _ => none⟩
 | some false => match zax P t with
  | some _ => ⟨fun cs off => optF cs off⟩
  | none => ⟨fun _ _ => none⟩
 | none => ⟨fun _ _ => none⟩
theorem zmh (P : Program) (t : TypeId) (cs : List Value) (off : Nat) : (zkT P t).f cs off = zpa P t cs off := by
  unfold zkT zpa
  cases aggB P t with
  | none => rfl
  | some b =>
    cases zax P t with
    | none => cases b <;> rfl
    | some n => cases b
                · rfl
                · simp only [zcJ, zlZ, zmG]; rfl
noncomputable def zhj (v : Value) : Option (Nat × Nat) := match v with | .pointer (some ⟨b, o, none⟩) => some (b, o) | _ => none
noncomputable def cellsOf (r : Option Blk) : Option (List Value) := match r with | some (.cells c _ _) => some c | _ => none
noncomputable def partAt (P : Program) (t : TypeId) (o : Nat) (r : Option (List Value)) : Option Value := match r with | some c => (zkT P t).f c o | none => none
noncomputable def zeR (P : Program) (t : TypeId) (h : Heap) (v : Value) : Option Value := match zhj v with | some p => partAt P t p.2 (cellsOf (hGet h p.1)) | none => none
theorem zh5 (P : Program) (t : TypeId) (h : Heap) (v : Value) : zeR P t h v = zoX P h t v := by
 unfold zeR zoX
 cases v with
 | pointer a =>
  rcases a with _ | ⟨b, o, _ | s⟩
  ·rfl
  ·simp only [zhj, zir]
   cases h.get? b with
   | none => rfl
   | some k => cases k <;> first | rfl | exact zmh ..
  ·rfl
 | _ => rfl
noncomputable def zgf (c : List Value) (off : Nat) (new : List Value) : List Value := zeC (takeF off c) (zeC new (dropF (Nat.add off (lenL new)) c))
theorem zhx (c : List Value) (off : Nat) (new : List Value) : zgf c off new = splice c off new := by
 unfold zgf splice
 simp only [zef, zlZ, zmG, zcJ, List.append_assoc]; rfl
noncomputable def oneF' (v : Value) : Bool := match v with | .agg _ => false | .tuple _ => false | _ => true
theorem oneF'_eq (v : Value) : oneF' v = oneB v := by cases v <;> rfl
noncomputable def zkc : List Value -> Bool := @List.rec Value (fun _ => Bool) true (fun v _ ih => bif oneF' v then ih else false)
theorem zg1 (l : List Value) : zkc l = l.all oneB := by
 induction l with
 | nil => rfl
 | cons v l ih => show (bif oneF' v then zkc l else false) = _; rw [oneF'_eq, ih, List.all_cons]; cases oneB v <;> rfl
noncomputable def zdu (v : Value) : List Value := match v with | .agg cs => cs.toList | v => [v]
theorem zgU (v : Value) : zdu v = v.cells.toList := by cases v <;> rfl
noncomputable def zht (P : Program) (t : TypeId) (h : Heap) (new : List Value) (b o : Nat) : Option Heap :=
 match hGet h b, zax P t with
 | some (.cells c e true), some n => bif Nat.beq (lenL new) n && Nat.ble (Nat.add o n) (lenL c) && zkc new then some (hSet h b (.cells (zgf c o new) e true)) else none
 | _, _ => none
noncomputable def ziQ (P : Program) (t : TypeId) (h : Heap) (v a : Value) : Option Heap := match zhj a with | some p => zht P t h (zdu v) p.1 p.2 | none => none
theorem zoh (P : Program) (t : TypeId) (h : Heap) (v a : Value) : ziQ P t h v a = zc6 P h t v a := by
 unfold ziQ zc6
 cases a with
 | pointer a =>
  rcases a with _ | ⟨b, o, _ | s⟩
  ·rfl
  ·simp only [zhj, zht, zir, zgU, zcJ, zg1, zhx, hSet_eq]
   cases h.get? b with
   | none => rfl
   | some k =>
    cases k with
    | cells c e own =>
     cases own with
     | false => cases zax P t <;> rfl
     | true =>
      cases zax P t with
      | none => rfl
      | some n =>
       simp only [cond_eq_ite, Bool.and_eq_true, Nat.ble_eq, Nat.beq_eq, Array.length_toList, and_assoc]
       rfl
    | _ => cases zax P t <;> rfl
  ·rfl
 | _ => rfl
noncomputable def zdS (k : Int) (len : Nat) : Option Nat := match k with | .ofNat m => bif Nat.blt m len then some m else none | .negSucc _ => none
theorem zjO {k : Int} {len m : Nat} (h : zdS k len = some m) : (0 <= k /\ k < len) /\ k.toNat = m := by
 cases k with
 | ofNat j =>
  simp only [zdS] at h
  cases hb : Nat.blt j len with
  | true => rw [hb] at h; cases h; have := zgZ hb; exact ⟨⟨by simp, by simp only [Int.ofNat_eq_natCast]; omega⟩, rfl⟩
  | false => rw [hb] at h; cases h
 | negSucc j => cases h
theorem zjP {k : Int} {len : Nat} (h : zdS k len = none) : ¬ (0 <= k /\ k < len) := by
 cases k with
 | ofNat j =>
  simp only [zdS] at h
  cases hb : Nat.blt j len with
  | true => rw [hb] at h; cases h
  | false => have := zlF hb; simp only [Int.ofNat_eq_natCast]; omega
 | negSucc j => omega
noncomputable def idxAt (b o n : Nat) (r : Option Nat) : Option Value := match r with | some m => some (.pointer (some ⟨b, Nat.add o (Nat.mul m n), none⟩)) | none => none
noncomputable def znO (v : Value) : Option Int := match v with | .int _ k => some k | _ => none
noncomputable def rowOf (v : Value) : Option (Nat × Nat × Nat) := match v with | .slice (some ⟨b, o, none⟩) n _ => some (b, o, n) | _ => none
noncomputable def zjN (P : Program) (t : TypeId) : Bx (Value -> Value -> Option Value) :=
 match P.underlying t with
 | some (.array len e) => match zax P e with
  | some n => ⟨fun x i => match znO i with | some k => (match zhj x with | some p => idxAt p.1 p.2 n (zdS k len) | none => none) | none => none⟩
  | none => ⟨fun _ _ => none⟩
 | some (.slice e) => match zax P e with
  | some n => ⟨fun x i => match znO i with | some k => (match rowOf x with | some p => idxAt p.1 p.2.1 n (zdS k p.2.2) | none => none) | none => none⟩
  | none => ⟨fun _ _ => none⟩
 | _ => ⟨fun _ _ => none⟩
theorem zmw (b o n : Nat) (k : Int) (len : Nat) : idxAt b o n (zdS k len) = if 0 <= k /\ k < len then some (.pointer (some ⟨b, o + k.toNat * n, none⟩)) else none := by
 cases hr : zdS k len with
 | none => rw [if_neg (zjP hr)]; rfl
 | some m => obtain ⟨h1, h2⟩ := zjO hr; rw [if_pos h1, h2]; rfl
theorem zpD (P : Program) (t : TypeId) (x i : Value) : (zjN P t).f x i = zbT P t x i := by
 unfold zjN zbT
 cases i with
 | int kk k =>
  simp only []
  cases hu : P.underlying t with
  | none => rfl
  | some d =>
   cases d with
   | array len e =>
    cases x with
    | pointer a => rcases a with _ | ⟨b, o, _ | s⟩ <;> cases hs : zax P e <;> first | rfl | simp only [znO, zhj, zmw, hs]
    | _ => simp only [znO, zhj]; cases zax P e <;> rfl
   | slice e =>
    cases x with
    | slice a len cap => rcases a with _ | ⟨b, o, _ | s⟩ <;> cases hs : zax P e <;> first | rfl | simp only [znO, rowOf, zmw, hs]
    | _ => simp only [znO, rowOf]; cases zax P e <;> rfl
   | _ => rfl
 | _ =>
  simp only []
  cases P.underlying t with
  | none => rfl
  | some d => cases d with
   | array len e => simp only []; cases zax P e <;> rfl
   | slice e => simp only []; cases zax P e <;> rfl
   | _ => rfl
noncomputable def ze4 (P : Program) (t : TypeId) (f : Nat) : Bx (Value -> Option Value) :=
 match zbN P t with
 | some fs => match fs[f]? with
  | some fd => match zax P fd.type with
   | some (_ + 1) => ⟨fun x => match zhj x with | some p => some (.pointer (some ⟨p.1, Nat.add p.2 fd.offset, none⟩)) | none => none⟩
   | _ => ⟨fun _ => none⟩
  | none => ⟨fun _ => none⟩
 | none => ⟨fun _ => none⟩
theorem zls (P : Program) (t : TypeId) (f : Nat) (x : Value) : (ze4 P t f).f x = zcb P t x f := by
 unfold ze4 zcb
 cases zbN P t with
 | none => rfl
 | some fs =>
  cases x with
  | pointer a =>
   rcases a with _ | ⟨b, o, _ | s⟩ <;> (cases hf : fs[f]? with
    | none => first | rfl | simp only [hf]
    | some fd => rcases hs : zax P fd.type with _ | _ | n <;> first | rfl | (simp only [hf, hs]; rfl) | simp only [hf, hs])
  | _ =>
   simp only [zhj]
   cases fs[f]? with
   | none => rfl
   | some fd => simp only []; rcases zax P fd.type with _ | _ | n <;> rfl
noncomputable def zjX (P : Program) (t : TypeId) (f : Nat) : Bx (Value -> Option Value) :=
 match zbN P t with
 | some fs => match fs[f]? with
  | some fd => ⟨fun x => match x with | .agg cs => (zkT P fd.type).f cs.toList fd.offset | _ => none⟩
  | none => ⟨fun _ => none⟩
 | none => ⟨fun _ => none⟩
theorem zpL (P : Program) (t : TypeId) (f : Nat) (x : Value) : (zjX P t f).f x = zfI P t x f := by
 unfold zjX zfI
 cases zbN P t with
 | none => rfl
 | some fs =>
  simp only []
  cases hf : fs[f]? with
  | none => simp only []; split <;> simp_all
  | some fd =>
   simp only []
   split
   ·simp only [hf, zmh, zmg]
   ·split <;> simp_all
noncomputable def extC (t : Value) (i : Nat) : Option Value := match t with | .tuple vs => optF vs.toList i | _ => none
theorem extC_eq (t : Value) (i : Nat) : extC t i = extV t i := by
 unfold extC extV; split <;> simp [zgv]
noncomputable def zee (P : Program) (t : TypeId) (h : Heap) (c : List Value) : Option (Value × Heap) :=
 match zax P t with
 | some n => bif Nat.beq (lenL c) n && zkc c then some (.pointer (some ⟨h.n, 0, none⟩), hPush h (.cells c t true)) else none
 | none => none
theorem zgY (P : Program) (t : TypeId) (h : Heap) (v : Value) : zee P t h (zdu v) = boxB P h t v := by
 unfold zee boxB
 cases zax P t with
 | none => rfl
 | some n =>
  simp only [zgU, zcJ, zg1, zmy, newB, cond_eq_ite, Array.length_toList, Bool.and_eq_true, Nat.beq_eq]
end Go.AX

namespace Go.AX
theorem zln (off : Nat) : ∀ (l : List Value) (i : Nat) (c : Array Value), off + i + l.length <= c.size ->
  ((l.zipIdx i).foldl (fun cs (p : Value × Nat) => cs.setIfInBounds (off + p.2) p.1) c).toList = splice c.toList (off + i) l := by
 intro l
 induction l with
 | nil => intro i c h; simp [splice]
 | cons v l ih =>
  intro i c h
  simp only [List.length_cons] at h
  simp only [List.zipIdx_cons, List.foldl_cons]
  rw [ih (i + 1) _ (by simp; omega)]
  simp only [splice, Array.toList_setIfInBounds, List.length_cons]
  apply List.ext_getElem?
  intro j
  have hc : c.toList.length = c.size := rfl
  simp only [List.getElem?_append, List.length_append, List.length_take, List.length_set, List.getElem?_take, List.getElem?_drop, List.getElem?_set, hc, List.length_cons]
  by_cases h1 : j < off + i
  ·simp only [show j < min (off + (i + 1)) c.size by omega, show j < off + (i + 1) by omega, show j < min (off + i) c.size by omega, if_true, h1, show ¬ off + i = j by omega, if_false, show j < min (off + (i + 1)) c.size + l.length by omega, show j < min (off + i) c.size + (l.length + 1) by omega]
  ·by_cases h2 : j = off + i
   ·subst h2
    simp only [show off + i < min (off + (i + 1)) c.size by omega, show off + i < off + (i + 1) by omega, show ¬ off + i < min (off + i) c.size by omega, if_true, if_false, show off + i < c.size by omega, show off + i < min (off + (i + 1)) c.size + l.length by omega, show off + i < min (off + i) c.size + (l.length + 1) by omega]
    rw [show off + i - min (off + i) c.size = 0 by omega]; rfl
   ·by_cases h3 : j < off + i + 1 + l.length
    ·simp only [show ¬ j < min (off + (i + 1)) c.size by omega, show ¬ j < min (off + i) c.size by omega, if_false, show j < min (off + (i + 1)) c.size + l.length by omega, show j < min (off + i) c.size + (l.length + 1) by omega, if_true]
     rw [show j - min (off + i) c.size = (j - min (off + (i + 1)) c.size) + 1 by omega, List.getElem?_cons_succ]
    ·simp only [show ¬ j < min (off + (i + 1)) c.size + l.length by omega, show ¬ j < min (off + i) c.size + (l.length + 1) by omega, if_false]
     rw [if_neg (by omega)]
     congr 1
     omega
noncomputable def zlp (place : Nat -> Option (Nat × Nat)) : List (Nat × Value) -> List Value -> Option (List Value) :=
 @List.rec (Nat × Value) (fun _ => List Value -> Option (List Value)) (fun c => some c)
  (fun p _ ih c => match place p.1 with
   | some q => bif Nat.beq (lenL (zdu p.2)) q.2 && Nat.ble (Nat.add q.1 (lenL (zdu p.2))) (lenL c) then ih (zgf c q.1 (zdu p.2)) else none
   | none => none)
theorem zis (place : Nat -> Option (Nat × Nat)) (ps : List (Nat × Value)) : ∀ c : Array Value, (zlp place ps c.toList).map List.toArray = Instr.fill place c ps := by
 induction ps with
 | nil => intro c; rfl
 | cons p ps ih =>
  intro c
  obtain ⟨i, v⟩ := p
  show Option.map List.toArray (match place i with
   | some q => bif Nat.beq (lenL (zdu v)) q.2 && Nat.ble (Nat.add q.1 (lenL (zdu v))) (lenL c.toList) then zlp place ps (zgf c.toList q.1 (zdu v)) else none
   | none => none) = Instr.fill place c ((i, v) :: ps)
  unfold Instr.fill
  cases place i with
  | none => rfl
  | some q =>
   obtain ⟨off, size⟩ := q
   simp only [zgU, zcJ, zhx, cond_eq_ite, Bool.and_eq_true, Nat.beq_eq, Nat.ble_eq, Array.length_toList, Bool.or_eq_true, decide_eq_true_eq]
   by_cases hc : v.cells.size = size /\ off.add v.cells.size <= c.size
   ·rw [if_pos hc, if_neg (by simp only [ne_eq, not_or, Decidable.not_not]; exact ⟨hc.1, by have := hc.2; have e : off.add v.cells.size = off + v.cells.size := rfl; omega⟩)]
    rw [<- ih]
    have := zln off v.cells.toList 0 c (by have := hc.2; have e : off.add v.cells.size = off + v.cells.size := rfl; simp only [Array.length_toList]; omega)
    simp only [Nat.add_zero] at this
    have e2 : (Array.foldl (fun cs x => match x with | (c, j) => cs.setIfInBounds (off + j) c) c v.cells.zipIdx) = ((v.cells.toList.zipIdx 0).foldl (fun cs (p : Value × Nat) => cs.setIfInBounds (off + p.2) p.1) c) := by
     rw [<- Array.foldl_toList, Array.toList_zipIdx]
    rw [e2, this]
   ·rw [if_neg hc, if_pos]
    ·rfl
    ·by_cases h1 : v.cells.size = size
     ·right; have e : off.add v.cells.size = off + v.cells.size := rfl
      have : ¬ off.add v.cells.size <= c.size := fun q => hc ⟨h1, q⟩
      omega
     ·left; exact h1
noncomputable def aggOf (r : Option (List Value)) : Option Value := match r with | some c => some (.agg ⟨c⟩) | none => none
theorem zmP (r : Option (List Value)) : aggOf r = (r.map List.toArray).map .agg := by cases r <;> rfl
noncomputable def zpJ (P : Program) (t : TypeId) : Bx (List (Nat × Value) -> Option Value) :=
 match zbg P t with
 | some z => match P.underlying t with
  | some (.struct fs) => match fs.toList.mapM (fun f => (zax P f.type).map fun s => (f.offset, s)) with
   | some places => ⟨fun parts => aggOf (zlp (fun i => places[i]?) parts z.cells.toList)⟩
   | none => ⟨fun _ => none⟩
  | some (.array _ e) => match zax P e with
   | some s => ⟨fun parts => aggOf (zlp (fun i => some (Nat.mul i s, s)) parts z.cells.toList)⟩
   | none => ⟨fun _ => none⟩
  | _ => ⟨fun _ => none⟩
 | none => ⟨fun _ => none⟩
theorem fillC_eq (P : Program) (t : TypeId) (parts : List (Nat × Value)) : (zpJ P t).f parts = zdU P t parts := by
 unfold zpJ zdU
 cases zbg P t with
 | none => rfl
 | some z =>
  cases P.underlying t with
  | none => rfl
  | some d =>
   cases d with
   | struct fs =>
    simp only []
    cases fs.toList.mapM (fun f => (zax P f.type).map fun s => (f.offset, s)) with
    | none => rfl
    | some places => simp only [zmP, zis]
   | array n e =>
    simp only []
    cases zax P e with
    | none => rfl
    | some s => simp only [zmP, zis]; rfl
   | _ => rfl
noncomputable def zgs (N : Nat) : List (Nat × Operand) -> Vt -> List (Nat × Value) := @List.rec (Nat × Operand) (fun _ => Vt -> List (Nat × Value)) (fun _ => []) (fun p _ ih t => (p.1, (evC N p.2).f t) :: ih t)
theorem zjk (N : Nat) (ps : List (Nat × Operand)) (t : Vt) : zgs N ps t = ps.map fun (i, x) => (i, ev (zay N t) x) := by
 induction ps with
 | nil => rfl
 | cons p ps ih => show (p.1, (evC N p.2).f t) :: zgs N ps t = _; rw [ih, zbw]; rfl
noncomputable def zhq (N : Nat) : List Operand -> Vt -> List Value := @List.rec Operand (fun _ => Vt -> List Value) (fun _ => []) (fun x _ ih t => (evC N x).f t :: ih t)
theorem argsC_eq (N : Nat) (xs : List Operand) (t : Vt) : zhq N xs t = xs.map (ev (zay N t)) := by
 induction xs with
 | nil => rfl
 | cons x xs ih => show (evC N x).f t :: zhq N xs t = _; rw [ih, zbw]; rfl
theorem ziH (N : Nat) (a : Array Operand) (t : Vt) : (⟨zhq N a.toList t⟩ : Array Value) = a.map (ev (zay N t)) := by
 apply Array.ext'; simp [argsC_eq]
noncomputable def zlU (z : List Value) (n : Nat) : Nat -> List Value := @Nat.rec (fun _ => List Value) [] (fun k ih => (match optF z (Nat.mod (Nat.sub n (Nat.succ k)) (lenL z)) with | some v => v | none => default) :: ih)
theorem zof (z : Array Value) (n : Nat) : ∀ k, k <= n -> zlU z.toList n k = ((List.range' (n - k) k).map (z[· % z.size]!)) := by
 intro k
 induction k with
 | zero => intro _; rfl
 | succ k ih =>
  intro h
  show (match optF z.toList (Nat.mod (Nat.sub n (Nat.succ k)) (lenL z.toList)) with | some v => v | none => default) :: zlU z.toList n k = _
  rw [ih (by omega), List.range'_succ, List.map_cons, zgv, zcJ]
  congr 1
  ·rw [show Nat.mod (Nat.sub n (Nat.succ k)) z.toList.length = (n - (k + 1)) % z.size from rfl, Array.getElem?_toList, Array.getElem!_eq_getD, Array.getD_eq_getD_getElem?]
   cases z[(n - (k + 1)) % z.size]? <;> rfl
  ·rw [show n - (k + 1) + 1 = n - k by omega]
theorem zkn (z : Array Value) (n : Nat) : zlU z.toList n n = (zbp z n).toList := by
 rw [zof z n n (Nat.le_refl _)]; simp [zbp, List.range_eq_range']
noncomputable def zl4 (h : Heap) (e : TypeId) (n : Nat) (c : List Value) : Option (Value × Heap) := some (.slice (some ⟨h.n, 0, none⟩) n n, hPush h (.cells c e true))
noncomputable def zc0 (P : Program) (t : TypeId) (len : Nat) : Bx (Heap -> List (Nat × Value) -> Option (Value × Heap)) :=
 match P.underlying t with
 | some (.slice e) => match zax P e with
  | some s => match zbg P e with
   | some z => bif Nat.ble (Nat.mul len s) 16777216 && Nat.beq (lenL z.cells.toList) s && Nat.ble len 16777216 then
     ⟨fun h parts => match zlp (fun i => some (Nat.mul i s, s)) parts (zlU z.cells.toList (Nat.mul len s) (Nat.mul len s)) with
      | some c => bif zkc c && Nat.beq (lenL c) (Nat.mul len s) then zl4 h e len c else none
      | none => none⟩
    else ⟨fun _ _ => none⟩
   | none => ⟨fun _ _ => none⟩
  | none => ⟨fun _ _ => none⟩
 | _ => ⟨fun _ _ => none⟩
theorem zhp (P : Program) (t : TypeId) (len : Nat) (h : Heap) (parts : List (Nat × Value)) : (zc0 P t len).f h parts = zaI P h t len parts := by
 unfold zc0 zaI
 cases P.underlying t with
 | none => rfl
 | some d =>
  cases d with
  | slice e =>
   simp only []
   cases zax P e with
   | none => rfl
   | some s =>
    cases zbg P e with
    | none => rfl
    | some z =>
     simp only [cond_eq_ite, Bool.and_eq_true, Nat.ble_eq, Nat.beq_eq, zcJ, Array.length_toList]
     have e1 : Nat.mul len s = len * s := rfl
     rw [e1]
     by_cases hc : len * s <= 16777216 /\ z.cells.size = s /\ len <= 16777216
     ·rw [if_pos hc, if_pos ⟨⟨hc.1, hc.2.1⟩, hc.2.2⟩]
      rw [zkn, <- zis]
      show (match zlp (fun i => some (i * s, s)) parts (zbp z.cells (len * s)).toList with | some c => _ | none => none) = _
      cases zlp (fun i => some (i * s, s)) parts (zbp z.cells (len * s)).toList with
      | none => rfl
      | some c =>
       simp only [Option.map_some, zg1, zl4, zmy]
       cases c.all oneB with
       | false => rfl
       | true =>
        by_cases hl : c.length = len * s
        ·simp [hl]
        ·simp [hl]
     ·rw [if_neg hc, if_neg (fun q => hc ⟨q.1.1, q.1.2, q.2⟩)]
  | _ => rfl
noncomputable def lenC (P : Program) (t : TypeId) : Bx (Value -> Option Value) :=
 match P.underlying t with
 | some (.slice _) => ⟨fun v => match v with | .slice _ n _ => some (.int .i64 (.ofNat n)) | _ => none⟩
 | _ => ⟨fun _ => none⟩
noncomputable def lenO (P : Program) (N : Nat) (o : Oper) (t : TypeId) (v : Value) (s : FS) : Option Value :=
 match (lenC P t).f v with
 | some r => some r
 | none => lenF P (zay N s.t) s.h o t v
theorem lenO_eq (P : Program) (N : Nat) (o : Oper) (t : TypeId) (v : Value) (s : FS) : lenO P N o t v s = lenF P (zay N s.t) s.h o t v := by
 unfold lenO lenC
 cases hu : P.underlying t with
 | none => rfl
 | some d =>
  cases d with
  | slice e =>
   cases v with
   | slice a n c => unfold lenF; rw [hu]; rfl
   | _ => rfl
  | _ => rfl
noncomputable def zo6 (c a b : Value) : Option Value := match c with | .bool t => some (bif t then a else b) | _ => none
noncomputable def zp5 (P : Program) (N : Nat) (o : Oper) (c : Call) : Bx (RecC -> Ctx -> FS -> Option (Did × FS)) :=
 match c.callee with
 | .builtin .len => match c.argTypes[0]?, c.args[0]? with
  | some t, some a => ⟨fun _ _ s => oneC s (lenO P N o t ((evC N a).f s.t) s)⟩
  | _, _ => ⟨fun _ _ _ => none⟩
 | .builtin .append => match c.args[0]?, c.args[1]? with
  | some a, some b => ⟨fun _ _ s => valC s (zbi P s.h c.argTypes ((evC N a).f s.t) ((evC N b).f s.t))⟩
  | _, _ => ⟨fun _ _ _ => none⟩
 | .value (.func f) => match P.funcs[f]? with
  | none => ⟨fun _ _ _ => none⟩
  | some fn => bif fn.name == "runtime.NumGoroutine" then ⟨fun _ _ _ => none⟩
   else bif fn.body.isSome then ⟨fun C _ s => zf5 s (C.call f ⟨zhq N c.args.toList s.t⟩ false .run s.h)⟩
   else ⟨fun C x s => actC C x s ((zbO P f ⟨zhq N c.args.toList s.t⟩).map fun r => (r, s.h))⟩
 | .value f => ⟨fun C x s => actC C x s ((zaN P ((evC N f).f s.t) ⟨zhq N c.args.toList s.t⟩).map fun r => (r, s.h))⟩
 | _ => ⟨fun C x s => zhV P N C x s o⟩
noncomputable def opC (P : Program) (N : Nat) (o : Oper) : Bx (RecC -> Ctx -> FS -> Option (Did × FS)) :=
 match o.op with
 | .move a => ⟨fun _ _ s => some (.val ((evC N a).f s.t), s)⟩
 | .assign a => ⟨fun _ _ s => some (.val ((evC N a).f s.t), s)⟩
 | .pick c a b => ⟨fun _ _ s => oneC s (zo6 ((evC N c).f s.t) ((evC N a).f s.t) ((evC N b).f s.t))⟩
 | .load t a => ⟨fun _ _ s => oneC s (zeR P t s.h ((evC N a).f s.t))⟩
 | .store t a v => ⟨fun _ _ s => hhC s (ziQ P t s.h ((evC N v).f s.t) ((evC N a).f s.t))⟩
 | .binOp op t a b _ => ⟨fun _ _ s => oneC s (binC P N o op t a b s)⟩
 | .unOp op _ a => ⟨fun _ _ s => oneC s (unC P N o op a s)⟩
 | .indexAddr t a i => ⟨fun _ _ s => oneC s ((zjN P t).f ((evC N a).f s.t) ((evC N i).f s.t))⟩
 | .fieldAddr t a f => ⟨fun _ _ s => oneC s ((ze4 P t f).f ((evC N a).f s.t))⟩
 | .field t a f => ⟨fun _ _ s => oneC s ((zjX P t f).f ((evC N a).f s.t))⟩
 | .extract t i => ⟨fun _ _ s => oneC s (extC ((evC N t).f s.t) i)⟩
 | .index t a i => ⟨fun _ _ s => oneC s (zdR P (zay N s.t) o t ((evC N a).f s.t) ((evC N i).f s.t))⟩
 | .convert a b v => ⟨fun _ _ s => valC s (zbv P (zay N s.t) s.h o a b ((evC N v).f s.t))⟩
 | .alloc e => match zbg P e with
  | some z => ⟨fun _ _ s => valC s (zee P e s.h (zdu z))⟩
  | none => ⟨fun _ _ _ => none⟩
 | .box e v => ⟨fun _ _ s => valC s (zee P e s.h (zdu ((evC N v).f s.t)))⟩
 | .build t ps => ⟨fun _ _ s => oneC s ((zpJ P t).f (zgs N ps.toList s.t))⟩
 | .buildSlice t n ps => ⟨fun _ _ s => valC s ((zc0 P t n).f s.h (zgs N ps.toList s.t))⟩
 | .call c => zp5 P N o c
 | _ => ⟨fun C x s => zhV P N C x s o⟩
theorem zph {P : Program} {C : RecC} {R : Recs} (hU : Under P C R) {N : Nat} {x : Ctx} {s s' : FS} {d : Did} {o : Oper} (h : (opC P N o).f C x s = some (d, s')) : zbC P R x (s.st N) o = some (d, s'.st N) := by
 have slow : (fun C x s => zhV P N C x s o) C x s = some (d, s') -> zbC P R x (s.st N) o = some (d, s'.st N) := fun h => by rw [zed]; exact zkv hU h
 have simp' : ∀ r : Option (Value × Heap), zaf o = true -> zae P (zay N s.t) s.h o = r -> valC s r = some (d, s') -> zbC P R x (s.st N) o = some (d, s'.st N) := by
  intro r hs h1 h2
  rw [zed, zcB hs]
  exact zpi h1.symm h2
 have onee : ∀ r : Option Value, oneC s r = some (d, s') -> valC s (r.map fun v => (v, s.h)) = some (d, s') := by
  intro r h; cases r with
  | none => cases h
  | some v => cases h; rfl
 unfold opC at h
 cases ho : o.op with
 | move a => rw [ho] at h; cases h; simp only [zbC, ho]; rw [show evF (s.st N).tm a = (evC N a).f s.t by rw [zbh, zbw]; rfl]; rfl
 | assign a => rw [ho] at h; cases h; simp only [zbC, ho]; rw [show evF (s.st N).tm a = (evC N a).f s.t by rw [zbh, zbw]; rfl]; rfl
 | pick c a b =>
  rw [ho] at h; simp only [zbw] at h; simp only [zbC, ho, zbh]
  exact zek (by unfold zo6 pickV; rfl) h
 | load t a =>
  rw [ho] at h; simp only [zbw] at h; simp only [zbC, ho, zbh]
  exact zek (zh5 ..) h
 | store t a v =>
  rw [ho] at h; simp only [zbw] at h; simp only [zbC, ho, zbh]
  exact of_hh (zoh ..) h
 | binOp op t a b yt =>
  rw [ho] at h; simp only [zbC, ho]
  refine zek ?_ h
  unfold binC
  simp only [zbw]
  cases hv : (binV op).f (ev (zay N s.t) a) (ev (zay N s.t) b) with
  | none => rfl
  | some v => exact (zn9 ho hv).symm
 | unOp op t a =>
  rw [ho] at h; simp only [zbC, ho]
  refine zek ?_ h
  unfold unC
  simp only [zbw]
  cases hv : (unV op).f (ev (zay N s.t) a) with
  | none => rfl
  | some v => exact (zol ho hv).symm
 | indexAddr t a i =>
  rw [ho] at h; simp only [zbw] at h; simp only [zbC, ho, zbh]
  exact zek (zpD ..) h
 | fieldAddr t a f =>
  rw [ho] at h; simp only [zbw] at h; simp only [zbC, ho, zbh]
  exact zek (zls ..) h
 | field t a f =>
  rw [ho] at h; simp only [zbw] at h; simp only [zbC, ho, zbh]
  exact zek (zpL ..) h
 | extract t i =>
  rw [ho] at h; simp only [zbw] at h; simp only [zbC, ho, zbh]
  exact zek (extC_eq ..) h
 | index t a i =>
  rw [ho] at h; simp only [zbw] at h; simp only [zbC, ho, zbh]
  exact zek rfl h
 | convert a b v =>
  rw [ho] at h; simp only [zbw] at h; simp only [zbC, ho, zbh]
  exact zpi rfl h
 | alloc e =>
  rw [ho] at h; simp only [] at h
  cases hz : zbg P e with
  | none => rw [hz] at h; cases h
  | some z =>
   rw [hz] at h; simp only [zgY] at h
   exact simp' _ (by simp [zaf, ho]) (by simp only [zae, ho, hz]) h
 | box e v =>
  rw [ho] at h; simp only [zgY, zbw] at h
  exact simp' _ (by simp [zaf, ho]) (by simp only [zae, ho]) h
 | build t ps =>
  rw [ho] at h; simp only [fillC_eq, zjk] at h
  exact simp' _ (by simp [zaf, ho]) (by simp only [zae, ho]) (onee _ h)
 | buildSlice t n ps =>
  rw [ho] at h; simp only [zhp, zjk] at h
  exact simp' _ (by simp [zaf, ho]) (by simp only [zae, ho]) h
 | call c =>
  rw [ho] at h
  obtain ⟨callee, args, argTypes⟩ := c
  simp only [zbC, ho, zgX]
  unfold zp5 at h
  cases callee with
  | value f =>
   cases f with
   | func f =>
    simp only [] at h ⊢
    unfold funF
    cases hf : P.funcs[f]? with
    | none => rw [hf] at h; cases h
    | some fn =>
     rw [hf] at h; simp only [] at h ⊢
     cases hn : (fn.name == "runtime.NumGoroutine") with
     | true => rw [hn] at h; cases h
     | false =>
      rw [hn] at h; simp only [cond_false] at h ⊢
      cases hb : fn.body.isSome with
      | true =>
       rw [hb] at h; simp only [cond_true, ziH] at h ⊢
       rw [zf6]
       exact zhI (hU.call _ _ _ _ _) h
      | false =>
       rw [hb] at h; simp only [cond_false, ziH] at h ⊢
       rw [zf6]
       exact zqf hU h
   | _ =>
    simp only [ziH, zbw] at h ⊢
    rw [zf6, zbh]
    exact zqf hU h
  | invoke r name => exact zkv hU h
  | builtin b =>
   cases b with
   | len =>
    simp only [] at h ⊢
    unfold lenV
    cases h0 : argTypes[0]? with
    | none => rw [h0] at h; cases h
    | some t =>
     rw [h0] at h
     cases h1 : args[0]? with
     | none => rw [h1] at h; cases h
     | some a =>
      rw [h1] at h; simp only [lenO_eq, zbw] at h
      simp only [Option.map_some, zbh]
      exact zek rfl h
   | append =>
    simp only [] at h ⊢
    unfold appF
    cases h0 : args[0]? with
    | none => rw [h0] at h; cases h
    | some a =>
     rw [h0] at h
     cases h1 : args[1]? with
     | none => rw [h1] at h; cases h
     | some b =>
      rw [h1] at h; simp only [zbw] at h
      simp only [zbh]
      exact zpi rfl h
   | _ => exact zkv hU h
 | _ => rw [ho] at h; exact slow h
end Go.AX

namespace Go.AX
noncomputable def zmQ (p : Bx (Vt -> Value -> Vt)) (r : Option (Did × FS)) (ih : FS -> Option (Ex × FS)) : Option (Ex × FS) :=
 match r with
 | some (.val v, s) => ih { s with t := p.f s.t v }
 | some (.panic c, s) => some (.panic c, s)
 | none => none
noncomputable def okC (P : Program) (N : Nat) (o : Oper) : Bx (RecC -> Ctx -> FS -> Option (Did × FS)) := bif zah P o then opC P N o else ⟨fun _ _ _ => none⟩
theorem zjw {P : Program} {C : RecC} {R : Recs} (hU : Under P C R) {N : Nat} {x : Ctx} {s s' : FS} {d : Did} {o : Oper} (h : (okC P N o).f C x s = some (d, s')) : doOp P R x (s.st N) o = some (d, s'.st N) := by
 unfold okC at h
 rw [<- ziz]; unfold znX
 cases hk : zah P o with
 | false => rw [hk] at h; cases h
 | true => rw [hk] at h; exact zph hU h
noncomputable def boolV (v : Value) : Option Bool := match v with | .bool b => some b | _ => none
noncomputable def zlW (N : Nat) (ops : Array Oper) (j : Nat) : Bx (Vt -> Option Bool) :=
 match ops[j]? with
 | some o => match o.dst with
  | some t => bif Nat.blt t N then ⟨fun vt => boolV ((gC t).f vt)⟩ else ⟨fun _ => none⟩
  | none => ⟨fun _ => none⟩
 | none => ⟨fun _ => none⟩
theorem zog (N : Nat) (ops : Array Oper) (j : Nat) (t : Vt) : (zlW N ops j).f t = yielded ops (zay N t) j := by
 rw [<- zga]
 unfold zlW zlV
 cases ops[j]? with
 | none => rfl
 | some o =>
  simp only []
  cases o.dst with
  | none => rfl
  | some d =>
   simp only [zgv, Array.getElem?_toList, zdI]
   cases hb : Nat.blt d N with
   | false => rw [if_neg (zlF hb)]; rfl
   | true => rw [if_pos (zgZ hb)]; simp only [cond_true]; cases (gC d).f t <;> rfl
noncomputable def zcf (N : Nat) (ops : Array Oper) (o : Oper) : Bx (Vt -> Bool) :=
 match o.guard with
 | none => ⟨fun _ => true⟩
 | some (j, true) => ⟨fun t => match (zlW N ops j).f t with | some b => b | none => false⟩
 | some (j, false) => ⟨fun t => match (zlW N ops j).f t with | some b => not b | none => false⟩
theorem zfS (N : Nat) (ops : Array Oper) (o : Oper) (t : Vt) : (zcf N ops o).f t = zaW ops (zay N t) o := by
 rw [<- zhP]
 unfold zcf zkp
 cases hg : o.guard with
 | none => rfl
 | some p =>
  obtain ⟨j, w⟩ := p
  simp only [zga]
  cases w <;> (simp only [zog]; cases yielded ops (zay N t) j <;> rfl)
noncomputable def stepC (P : Program) (N : Nat) (ops : Array Oper) (o : Oper) : Bx ((FS -> Option (Ex × FS)) -> RecC -> Ctx -> FS -> Option (Ex × FS)) :=
 match o.guard with
 | none => ⟨fun ih C x s => zmQ (putC N o.dst) ((okC P N o).f C x s) ih⟩
 | some _ => ⟨fun ih C x s => bif (zcf N ops o).f s.t then zmQ (putC N o.dst) ((okC P N o).f C x s) ih else ih { s with t := (putC N o.dst).f s.t undef }⟩
noncomputable def seqC (P : Program) (N : Nat) (ops : Array Oper) : List Oper -> RecC -> Ctx -> FS -> Option (Ex × FS) :=
 @List.rec Oper (fun _ => RecC -> Ctx -> FS -> Option (Ex × FS)) (fun _ _ s => some (.normal, s)) (fun o _ ih C x s => (stepC P N ops o).f (fun s => ih C x s) C x s)
theorem zqe {P : Program} {N : Nat} {R : Recs} {x : Ctx} {o : Oper} {s : FS} {r : Option (Did × FS)} {k : FS -> Option (Ex × FS)} {k' : St -> Option (Ex × St)} {e : Ex} {s' : FS}
  (hr : ∀ d s1, r = some (d, s1) -> doOp P R x (s.st N) o = some (d, s1.st N)) (hk : ∀ s1, k s1 = some (e, s') -> k' (s1.st N) = some (e, s'.st N)) (h : zmQ (putC N o.dst) r k = some (e, s')) :
  (match doOp P R x (s.st N) o with | some (.val v, s) => k' { s with tm := put s.tm o.dst v } | some (.panic c, s) => some (.panic c, s) | none => none) = some (e, s'.st N) := by
 cases hc : r with
 | none => rw [hc] at h; cases h
 | some p =>
  obtain ⟨d, s1⟩ := p
  rw [hr d s1 hc]; rw [hc] at h
  cases d with
  | val v =>
   have := hk _ h
   simp only [FS.st, zbW] at this ⊢
   exact this
  | panic c => cases h; rfl
theorem seqC_ok {P : Program} {C : RecC} {R : Recs} (hU : Under P C R) {N : Nat} {x : Ctx} (ops : Array Oper) : ∀ (n i : Nat), i + n = ops.size -> ∀ s e s', seqC P N ops (ops.toList.drop i) C x s = some (e, s') -> zbm P R x ops (List.range' i n) (s.st N) = some (e, s'.st N) := by
 intro n
 induction n with
 | zero =>
  intro i hi s e s' h
  rw [List.drop_eq_nil_of_le (by simp; omega)] at h
  cases h; rfl
 | succ n ih =>
  intro i hi s e s' h
  have hlt : i < ops.size := by omega
  have hd : ops.toList.drop i = ops[i] :: ops.toList.drop (i + 1) := by
   rw [List.drop_eq_getElem_cons (by simpa using hlt)]; simp
  rw [hd] at h
  have h : (stepC P N ops ops[i]).f (fun s => seqC P N ops (ops.toList.drop (i + 1)) C x s) C x s = some (e, s') := h
  rw [List.range'_succ]
  simp only [zbm, Array.getElem?_eq_getElem hlt]
  show (if zaW ops (zay N s.t) ops[i] then _ else _) = _
  unfold stepC at h
  have key : (bif (zcf N ops ops[i]).f s.t then zmQ (putC N ops[i].dst) ((okC P N ops[i]).f C x s) (fun s => seqC P N ops (ops.toList.drop (i + 1)) C x s) else seqC P N ops (ops.toList.drop (i + 1)) C x { s with t := (putC N ops[i].dst).f s.t undef }) = some (e, s') := by
   cases hg : ops[i].guard with
   | none => rw [hg] at h; rw [show (zcf N ops ops[i]).f s.t = true by unfold zcf; rw [hg]]; exact h
   | some p => rw [hg] at h; exact h
  rw [zfS] at key
  cases hw : zaW ops (zay N s.t) ops[i] with
  | false =>
   rw [hw] at key
   have := ih (i + 1) (by omega) _ _ _ key
   simp only [FS.st, zbW] at this
   exact this
  | true =>
   rw [hw] at key
   simp only [if_true]
   exact zqe (fun d s1 hr => zjw hU hr) (fun s1 hk => ih (i + 1) (by omega) _ _ _ hk) key
structure LookC where
 o : Oper
 i : Nat
 t : Vt
 v : Value
 n : Nat
structure OpenC where
 s : FS
 hs : List Heap
 looks : List LookC
 news : List (Nat × Nat × Blk)
noncomputable def LookC.look (ops : Array Oper) (N : Nat) (l : LookC) : Look := { o := l.o, tm := zay N l.t, v := l.v, n := l.n, lo := zck ops ((preds ops.toList).getD l.i []), hi := zaV ops (preds ops.toList) l.i }
noncomputable def OpenC.op (ops : Array Oper) (N : Nat) (z : OpenC) : Open := { s := z.s.st N, hs := z.hs, looks := z.looks.map (LookC.look ops N), news := z.news }
theorem zqa (a b : Nat) : (a == b) = Nat.beq a b := by rw [Bool.eq_iff_iff]; simp [Nat.beq_eq]
def zml : RecC := ⟨fun _ _ _ => none, fun _ _ _ _ _ => none, fun _ _ _ => none⟩
def noRec : Recs := ⟨fun _ _ _ => none, fun _ _ _ _ _ => none, fun _ _ _ => none⟩
theorem zgx (P : Program) : Under P zml noRec := ⟨fun _ _ _ _ _ h => (by cases h), fun _ _ _ _ _ _ h => (by cases h), fun _ _ _ _ h => (by cases h)⟩
noncomputable def simC (P : Program) (N : Nat) (o : Oper) (t : Vt) (h : Heap) : Option (Value × Heap) :=
 match (opC P N o).f zml ⟨0, none, false⟩ ⟨t, [], .run, h⟩ with
 | some (.val v, s) => some (v, s.h)
 | _ => none
theorem zkG {P : Program} {N : Nat} {o : Oper} {t : Vt} {h : Heap} {r : Value × Heap} (hs : zaf o = true) (e : simC P N o t h = some r) : zae P (zay N t) h o = some r := by
 unfold simC at e
 cases hc : (opC P N o).f zml ⟨0, none, false⟩ ⟨t, [], .run, h⟩ with
 | none => rw [hc] at e; cases e
 | some p =>
  obtain ⟨d, s⟩ := p
  have := zph (zgx P) hc
  rw [zed, zcB hs] at this
  rw [hc] at e
  cases d with
  | panic c => cases e
  | val v =>
   cases e
   have this : valF (FS.st N ⟨t, [], .run, h⟩) (zae P (zay N t) h o) = some (.val v, s.st N) := this
   cases hb : zae P (zay N t) h o with
   | none => rw [hb] at this; cases this
   | some q =>
    rw [hb] at this
    simp only [valF, zlj, Option.some.injEq, Prod.mk.injEq, Did.val.injEq] at this
    obtain ⟨h1, h2⟩ := this
    have h3 := congrArg St.h h2
    obtain ⟨q1, q2⟩ := q
    simp only at h1 h3
    rw [h1, h3]; rfl
noncomputable def zd6 (P : Program) (N : Nat) (z : OpenC) (i : Nat) (o : Oper) : Option OpenC :=
 match simC P N o z.s.t z.s.h with
 | none => none
 | some (v, h) =>
  bif Nat.beq h.n z.s.h.n then
   some { z with s := { z.s with t := (putC N o.dst).f z.s.t v }, looks := bif looks o then { o, i, t := z.s.t, v, n := z.s.h.n } :: z.looks else z.looks }
  else
   match hGet h z.s.h.n with
   | some b => some { z with s := { z.s with h, t := (putC N o.dst).f z.s.t v }, news := (i, z.s.h.n, b) :: z.news }
   | none => none
noncomputable def zf0 (P : Program) (N : Nat) (C : RecC) (x : Ctx) (ps : List (List Nat)) (z : OpenC) (i : Nat) (o : Oper) : Option OpenC :=
 match z.news with
 | [] => match (okC P N o).f C x z.s with
  | some (.val v, s) => some { z with s := { s with t := (putC N o.dst).f s.t v }, hs := s.h :: z.hs }
  | _ => none
 | _ :: _ => match (okC P N o).f C x { z.s with h := hide (unseen ps z.news i) z.s.h } with
  | some (.val v, s) =>
   bif (unseen ps z.news i).all (fun p => (s.h.get? p.2.1).isSome) then some { z with s := { s with t := (putC N o.dst).f s.t v, h := unhide (unseen ps z.news i) s.h }, hs := unhide (unseen ps z.news i) s.h :: z.hs } else none
  | _ => none
noncomputable def zcC (P : Program) (N : Nat) (ops : Array Oper) (i : Nat) (o : Oper) : Bx (RecC -> Ctx -> OpenC -> Option OpenC) :=
 bif zaf o then bif zah P o then
  match o.guard with
  | none => ⟨fun _ _ z => zd6 P N z i o⟩
  | some _ => ⟨fun _ _ z => bif (zcf N ops o).f z.s.t then zd6 P N z i o else some { z with s := { z.s with t := (putC N o.dst).f z.s.t undef } }⟩
  else ⟨fun _ _ z => bif (zcf N ops o).f z.s.t then none else some { z with s := { z.s with t := (putC N o.dst).f z.s.t undef } }⟩
 else ⟨fun C x z => bif (zcf N ops o).f z.s.t then zf0 P N C x (preds ops.toList) z i o else some { z with s := { z.s with t := (putC N o.dst).f z.s.t undef }, hs := z.s.h :: z.hs }⟩
theorem zjt {P : Program} {C : RecC} {R : Recs} (hU : Under P C R) {N : Nat} {x : Ctx} {ops : Array Oper} {i : Nat} {o : Oper} (ho : ops[i]? = some o) {z z' : OpenC} (h : (zcC P N ops i o).f C x z = some z') :
  zaC P R x ops (preds ops.toList) (z.op ops N) i = some (z'.op ops N) := by
 unfold zaC; simp only [ho]
 unfold zcC at h
 have hw : zaW ops (z.op ops N).s.tm o = (zcf N ops o).f z.s.t := (zfS ..).symm
 cases hs : zaf o with
 | true =>
  rw [hs] at h
  simp only [if_true, hw]
  cases hk : zah P o with
  | false =>
   rw [hk] at h; simp only [cond_true, cond_false] at h
   cases hq : (zcf N ops o).f z.s.t with
   | true => rw [hq] at h; cases h
   | false =>
    rw [hq] at h; cases h
    simp only [Bool.false_eq_true, if_false, OpenC.op, FS.st, zbW]
  | true =>
   rw [hk] at h; simp only [cond_true] at h
   have key : (bif (zcf N ops o).f z.s.t then zd6 P N z i o else some { z with s := { z.s with t := (putC N o.dst).f z.s.t undef } }) = some z' := by
    cases hg : o.guard with
    | none => rw [hg] at h; rw [show (zcf N ops o).f z.s.t = true by unfold zcf; rw [hg]]; exact h
    | some p => rw [hg] at h; exact h
   cases hq : (zcf N ops o).f z.s.t with
   | false =>
    rw [hq] at key; cases key
    simp only [Bool.false_eq_true, if_false, OpenC.op, FS.st, zbW]
   | true =>
    rw [hq] at key; simp only [cond_true] at key
    simp only [if_true]
    unfold zd6 at key; unfold zbo
    rw [hk]
    cases hc : simC P N o z.s.t z.s.h with
    | none => rw [hc] at key; cases key
    | some p =>
     obtain ⟨v, h1⟩ := p
     have hb := zkG hs hc
     rw [hc] at key; simp only [] at key
     show (match zae P (zay N z.s.t) z.s.h o with | none => none | some (v, h) => if (h.n == z.s.h.n) = true then _ else _) = _
     rw [hb]; simp only []
     have hbe := zqa h1.n z.s.h.n
     cases hn : Nat.beq h1.n z.s.h.n with
     | true =>
      rw [hn] at key; simp only [cond_true] at key
      rw [hbe, hn, if_pos rfl]
      cases hl : looks o with
      | true => rw [hl] at key; cases key; simp only [OpenC.op, FS.st, zbW, if_true]; rfl
      | false => rw [hl] at key; cases key; simp only [OpenC.op, FS.st, zbW, Bool.false_eq_true, if_false, cond_false]
     | false =>
      rw [hn] at key; simp only [cond_false, zir] at key
      rw [hbe, hn, if_neg (by simp)]
      show (match h1.get? z.s.h.n with | some b => _ | none => none) = _
      cases hg : h1.get? z.s.h.n with
      | none => rw [hg] at key; cases key
      | some b => rw [hg] at key; cases key; simp only [OpenC.op, FS.st, zbW]
 | false =>
  rw [hs] at h
  simp only [cond_false] at h
  simp only [Bool.false_eq_true, if_false, hw]
  cases hq : (zcf N ops o).f z.s.t with
  | false =>
   rw [hq] at h; cases h
   simp only [Bool.false_eq_true, if_false, OpenC.op, FS.st, zbW]
  | true =>
   rw [hq] at h; simp only [cond_true] at h
   simp only [if_true]
   unfold zf0 at h; unfold zcq
   obtain ⟨zs, hs, lk, nw⟩ := z
   simp only [OpenC.op] at *
   cases nw with
   | nil =>
    simp only [] at h
    have e1 : unseen (preds ops.toList) [] i = [] := rfl
    simp only [e1, hide, unhide, List.foldl_nil, List.all_nil, if_true]
    cases hc : (okC P N o).f C x zs with
    | none => rw [hc] at h; cases h
    | some p =>
     obtain ⟨d, s1⟩ := p
     have := zjw hU hc
     rw [hc] at h
     have e2 : ({ zs.st N with h := (zs.st N).h } : St) = zs.st N := rfl
     rw [e2, this]
     cases d with
     | panic c => cases h
     | val v => cases h; simp only [FS.st, zbW]
   | cons a nw =>
    simp only [] at h
    cases hc : (okC P N o).f C x { zs with h := hide (unseen (preds ops.toList) (a :: nw) i) zs.h } with
    | none => rw [hc] at h; cases h
    | some p =>
     obtain ⟨d, s1⟩ := p
     have := zjw hU hc
     rw [hc] at h
     have e2 : ({ zs.st N with h := hide (unseen (preds ops.toList) (a :: nw) i) (zs.st N).h } : St) = FS.st N { zs with h := hide (unseen (preds ops.toList) (a :: nw) i) zs.h } := rfl
     rw [e2, this]
     cases d with
     | panic c => cases h
     | val v =>
      simp only [] at h ⊢
      have e3 : (s1.st N).h = s1.h := rfl
      simp only [e3]
      cases ha : (unseen (preds ops.toList) (a :: nw) i).all (fun p => (s1.h.get? p.2.1).isSome) with
      | false => rw [ha] at h; cases h
      | true => rw [ha] at h; cases h; simp only [FS.st, zbW, if_true]
noncomputable def numbered : List Oper -> Nat -> List (Nat × Oper) := @List.rec Oper (fun _ => Nat -> List (Nat × Oper)) (fun _ => []) (fun o _ ih i => (i, o) :: ih (i + 1))
noncomputable def zd7 (P : Program) (N : Nat) (ops : Array Oper) : List (Nat × Oper) -> RecC -> Ctx -> OpenC -> Option OpenC :=
 @List.rec (Nat × Oper) (fun _ => RecC -> Ctx -> OpenC -> Option OpenC) (fun _ _ z => some z) (fun p _ ih C x z => match (zcC P N ops p.1 p.2).f C x z with | some z => ih C x z | none => none)
theorem zkW {P : Program} {C : RecC} {R : Recs} (hU : Under P C R) {N : Nat} {x : Ctx} (ops : Array Oper) : ∀ (n i : Nat), i + n = ops.size -> ∀ z z', zd7 P N ops (numbered (ops.toList.drop i) i) C x z = some z' -> (List.range' i n).foldlM (zaC P R x ops (preds ops.toList)) (z.op ops N) = some (z'.op ops N) := by
 intro n
 induction n with
 | zero =>
  intro i hi z z' h
  rw [List.drop_eq_nil_of_le (by simp; omega)] at h
  cases h; rfl
 | succ n ih =>
  intro i hi z z' h
  have hlt : i < ops.size := by omega
  have hd : ops.toList.drop i = ops[i] :: ops.toList.drop (i + 1) := by
   rw [List.drop_eq_getElem_cons (by simpa using hlt)]; simp
  rw [hd] at h
  have h : (match (zcC P N ops i ops[i]).f C x z with | some z => zd7 P N ops (numbered (ops.toList.drop (i + 1)) (i + 1)) C x z | none => none) = some z' := h
  rw [List.range'_succ, List.foldlM_cons]
  cases hc : (zcC P N ops i ops[i]).f C x z with
  | none => rw [hc] at h; cases h
  | some z1 =>
   rw [hc] at h
   rw [zjt hU (Array.getElem?_eq_getElem hlt) hc]
   exact ih (i + 1) (by omega) _ _ h
noncomputable def zcY (a b : Value) (n : Nat) : Bool := match i64Of a with | some x => (match i64Of b with | some y => eqF x y | none => same 20 a b && within 20 n b) | none => same 20 a b && within 20 n b
theorem zjf {a b : Value} {n : Nat} (h : zcY a b n = true) : (same 20 a b && within 20 n b) = true := by
 unfold zcY at h
 cases ha : i64Of a with
 | none => rw [ha] at h; exact h
 | some x =>
  rw [ha] at h; simp only [] at h
  cases hb : i64Of b with
  | none => rw [hb] at h; exact h
  | some y =>
   rw [hb] at h; simp only [ze5] at h
   rw [ze0 ha, ze0 hb]
   have : x = y := by simpa using h
   subst this
   simp [same, within]
noncomputable def zjB (P : Program) (N : Nat) (lo hi : Nat) (l : LookC) : Nat -> List Heap -> Bool := fun k hs => @List.rec Heap (fun _ => Nat -> Bool) (fun _ => true)
 (fun h _ ih k => bif (bif Nat.blt k lo then true else bif Nat.blt hi k then true else match (bif zaf l.o then simC P N l.o l.t h else none) with
   | some (v, h1) => zcY v l.v l.n && Nat.beq h1.n h.n
   | none => false) then ih (k + 1) else false) hs k
noncomputable def zjC (P : Program) (ops : Array Oper) (N : Nat) (hs : List Heap) (l : LookC) : Bool :=
 zjB P N (zck ops ((preds ops.toList).getD l.i [])) (zaV ops (preds ops.toList) l.i) l 0 hs.reverse
theorem zpm {P : Program} {N lo hi : Nat} {l : LookC} : ∀ (hs : List Heap) (k : Nat), zjB P N lo hi l k hs = true -> ∀ j h, hs[j]? = some h -> k + j < lo \/ hi < k + j \/ ∃ v h1, zae P (zay N l.t) h l.o = some (v, h1) /\ (same 20 v l.v && h1.n == h.n && within 20 l.n l.v) = true := by
 intro hs
 induction hs with
 | nil => intro k _ j h e; simp at e
 | cons h0 hs ih =>
  intro k hk j h e
  have hk : (bif (bif Nat.blt k lo then true else bif Nat.blt hi k then true else match (bif zaf l.o then simC P N l.o l.t h0 else none) with
   | some (v, h1) => zcY v l.v l.n && Nat.beq h1.n h0.n
   | none => false) then zjB P N lo hi l (k + 1) hs else false) = true := hk
  cases hc : (bif Nat.blt k lo then true else bif Nat.blt hi k then true else match (bif zaf l.o then simC P N l.o l.t h0 else none) with
   | some (v, h1) => zcY v l.v l.n && Nat.beq h1.n h0.n
   | none => false) with
  | false => rw [hc] at hk; cases hk
  | true =>
   rw [hc] at hk
   cases j with
   | succ j =>
    rcases ih (k + 1) hk j h (by simpa using e) with a | a | a
    ·left; omega
    ·right; left; omega
    ·right; right; exact a
   | zero =>
    simp only [List.getElem?_cons_zero, Option.some.injEq] at e
    subst e
    cases h1 : Nat.blt k lo with
    | true => left; have := zgZ h1; omega
    | false =>
     cases h2 : Nat.blt hi k with
     | true => right; left; have := zgZ h2; omega
     | false =>
      right; right
      rw [h1, h2] at hc; simp only [cond_false] at hc
      cases hs : zaf l.o with
      | false => rw [hs] at hc; cases hc
      | true =>
       rw [hs] at hc; simp only [cond_true] at hc
       cases hm : simC P N l.o l.t h0 with
       | none => rw [hm] at hc; cases hc
       | some p =>
        rw [hm] at hc
        exact ⟨p.1, p.2, zkG hs hm, by
         have hc : (zcY p.1 l.v l.n && Nat.beq p.2.n h0.n) = true := hc
         rw [Bool.and_eq_true] at hc
         have := zjf hc.1
         rw [Bool.and_eq_true] at this
         rw [zqa, hc.2, this.1, this.2]; rfl⟩
theorem lookC_ok {P : Program} {ops : Array Oper} {N : Nat} {hs : List Heap} {l : LookC} (h : zjC P ops N hs l = true) : zb3 P hs (l.look ops N) = true := by
 unfold zjC at h
 unfold zb3
 rw [List.all_eq_true]
 intro k hk
 have hk : k < hs.length := List.mem_range.1 hk
 have hget : hs.reverse[k]? = hs[hs.length - 1 - k]? := List.getElem?_reverse hk
 have hlt : hs.length - 1 - k < hs.length := by omega
 have hk2 : hs[hs.length - 1 - k]? = some hs[hs.length - 1 - k] := List.getElem?_eq_getElem hlt
 rw [hk2]
 rcases zpm _ _ h k _ (hget.trans hk2) with a | a | ⟨v, h1, a, b⟩
 ·simp only [Bool.or_eq_true]; left; left; rw [Nat.zero_add] at a; exact decide_eq_true a
 ·simp only [Bool.or_eq_true]; left; right; rw [Nat.zero_add] at a; exact decide_eq_true a
 ·simp only [Bool.or_eq_true]; right
  show (match zae P (zay N l.t) _ l.o with | some (v, h1) => _ | none => false) = true
  rw [a]; exact b
noncomputable def zcA (P : Program) (ops : Array Oper) (N : Nat) (hs : List Heap) : List LookC -> Bool := @List.rec LookC (fun _ => Bool) true (fun l _ ih => bif zjC P ops N hs l then ih else false)
theorem zg2 {P : Program} {ops : Array Oper} {N : Nat} {hs : List Heap} : ∀ ls, zcA P ops N hs ls = true -> (ls.map (LookC.look ops N)).all (zb3 P hs) = true := by
 intro ls
 induction ls with
 | nil => intro _; rfl
 | cons l ls ih =>
  intro h
  have h : (bif zjC P ops N hs l then zcA P ops N hs ls else false) = true := h
  cases hc : zjC P ops N hs l with
  | false => rw [hc] at h; cases h
  | true => rw [hc] at h; simp only [List.map_cons, List.all_cons, lookC_ok hc, Bool.true_and]; exact ih h
noncomputable def zfZ (P : Program) (ops : Array Oper) (N : Nat) (r : Option OpenC) : Option (Ex × FS) :=
 match r with
 | none => none
 | some z => match z.hs with
  | [] => some (.normal, z.s)
  | [_] => some (.normal, z.s)
  | _ => bif zcA P ops N z.hs z.looks then some (.normal, z.s) else none
noncomputable def zk1 (P : Program) (N : Nat) (ops : Array Oper) : Bx (RecC -> Ctx -> FS -> Option (Ex × FS)) :=
 bif zdp ops then ⟨fun C x s => zfZ P ops N (zd7 P N ops (numbered ops.toList 0) C x ⟨s, [s.h], [], []⟩)⟩ else ⟨fun _ _ _ => none⟩
theorem zmj {P : Program} {C : RecC} {R : Recs} (hU : Under P C R) {N : Nat} {x : Ctx} {ops : Array Oper} {s s' : FS} {e : Ex} (h : (zk1 P N ops).f C x s = some (e, s')) : zbG P R x ops (s.st N) = some (e, s'.st N) := by
 unfold zk1 at h; unfold zbG
 cases hk : zdp ops with
 | false => rw [hk] at h; cases h
 | true =>
  rw [hk] at h; simp only [cond_true] at h
  rw [if_pos rfl]
  unfold zfZ at h
  cases hc : zd7 P N ops (numbered ops.toList 0) C x ⟨s, [s.h], [], []⟩ with
  | none => rw [hc] at h; cases h
  | some z =>
   rw [hc] at h; simp only [] at h
   have hq := zkW hU ops ops.size 0 (by omega) ⟨s, [s.h], [], []⟩ z (by simpa using hc)
   rw [List.range_eq_range']
   have e0 : ({ s := s.st N, hs := [(s.st N).h], looks := [], news := [] } : Open) = OpenC.op ops N ⟨s, [s.h], [], []⟩ := rfl
   rw [e0, hq]
   have fin : (z.hs.length <= 1 \/ zcA P ops N z.hs z.looks = true) /\ (e, s') = (Ex.normal, z.s) := by
    revert h
    cases hz : z.hs with
    | nil => intro h; cases h; exact ⟨.inl (by simp), rfl⟩
    | cons a l =>
     cases l with
     | nil => intro h; cases h; exact ⟨.inl (by simp), rfl⟩
     | cons b l =>
      intro h; simp only [] at h
      cases ha : zcA P ops N (a :: b :: l) z.looks with
      | false => rw [ha] at h; cases h
      | true => rw [ha] at h; cases h; exact ⟨.inr rfl, rfl⟩
   obtain ⟨h1, h2⟩ := fin
   cases h2
   have hcond : (decide ((z.op ops N).hs.length <= 1) || (z.op ops N).looks.all (zb3 P (z.op ops N).hs)) = true := by
    rw [Bool.or_eq_true]
    rcases h1 with h1 | h1
    ·left; exact decide_eq_true h1
    ·right; exact zg2 _ h1
   show (if (decide ((z.op ops N).hs.length <= 1) || (z.op ops N).looks.all (zb3 P (z.op ops N).hs)) = true then some (Ex.normal, (z.op ops N).s) else none) = _
   rw [hcond]; rfl
end Go.AX

namespace Go.AX
noncomputable def condC (C : RecC) (x : Ctx) (v : Value) (a b : Code) (s : FS) : Option (Ex × FS) := match v with | .bool t => C.code x (bif t then a else b) s | _ => none
noncomputable def thenC (C : RecC) (x : Ctx) (b : Code) (r : Option (Ex × FS)) : Option (Ex × FS) := match r with | some (.normal, s) => C.code x b s | r => r
noncomputable def blockC (id : Nat) (r : Option (Ex × FS)) : Option (Ex × FS) := match r with | some (.exit i, s) => bif Nat.beq i id then some (.normal, s) else some (.exit i, s) | r => r
noncomputable def zoZ (P : Program) (N : Nat) (C : RecC) (x : Ctx) (s : FS) (f : Operand) (params : Array Tmp) (assign body : Code) : Option (Ex × FS) :=
 match zbI x (s.st N) params assign body with
 | none => none
 | some (l, mark, h) =>
  bif opOK P f then
  match zaN P ((evC N f).f s.t) #[.func (.yield l) #[] #[]] with
  | some (.enter g args) =>
   match C.call g args false .run h with
   | some (.ret _, _, h) =>
    match zbL h l with
    | some r =>
     bif r.state == .busy then none else
     match r.pending with
     | none => some (.normal, { s with df := mark ++ s.df, h := h.set l (.obj (.loop { r with state := .exhausted })) })
     | some c => C.code x c { s with df := mark ++ s.df, h := h.set l (.obj (.loop { r with state := .exhausted })) }
    | none => none
   | some (.panic c, _, h) => some (.panic c, { s with df := mark ++ s.df, h })
   | none => none
  | _ => none
  else none
theorem zoY {P : Program} {C : RecC} {R : Recs} (hU : Under P C R) {x : Ctx} {s s' : FS} {e : Ex} {f : Operand} {params : Array Tmp} {assign body : Code} (h : zoZ P (nOf P x.fn) C x s f params assign body = some (e, s')) :
  za6 P R x (s.st (nOf P x.fn)) f params assign body = some (e, s'.st (nOf P x.fn)) := by
 unfold zoZ at h; unfold za6
 cases he : zbI x (s.st (nOf P x.fn)) params assign body with
 | none => rw [he] at h; cases h
 | some p =>
  obtain ⟨l, mark, h1⟩ := p
  rw [he] at h; simp only [] at h ⊢
  cases hk : opOK P f with
  | false => rw [hk] at h; cases h
  | true =>
   rw [hk] at h; simp only [cond_true, zbw] at h
   simp only [Bool.not_true, Bool.false_eq_true, if_false]
   show (match zaN P (ev (zay (nOf P x.fn) s.t) f) #[.func (.yield l) #[] #[]] with | some (.enter g args) => _ | _ => none) = _
   cases hv : zaN P (ev (zay (nOf P x.fn) s.t) f) #[.func (.yield l) #[] #[]] with
   | none => rw [hv] at h; cases h
   | some out =>
    rw [hv] at h
    cases out with
    | enter g args =>
     simp only [] at h ⊢
     cases hc : C.call g args false .run h1 with
     | none => rw [hc] at h; cases h
     | some q =>
      rw [hU.call _ _ _ _ _ _ hc]
      rw [hc] at h
      obtain ⟨e1, u, h2⟩ := q
      cases e1 with
      | panic c => cases h; rfl
      | ret v =>
       simp only [] at h ⊢
       cases hl : zbL h2 l with
       | none => rw [hl] at h; cases h
       | some r =>
        rw [hl] at h; simp only [] at h ⊢
        cases hb : (r.state == .busy) with
        | true => rw [hb] at h; cases h
        | false =>
         rw [hb] at h; simp only [cond_false] at h
         simp only [Bool.false_eq_true, if_false]
         cases hp : r.pending with
         | none => rw [hp] at h; cases h; rfl
         | some c => rw [hp] at h; exact hU.code _ _ _ _ _ h
    | _ => cases h
noncomputable def zj3 (P : Program) (C : RecC) (x : Ctx) (c : Code) (s : FS) : Option (Ex × FS) :=
 match c with
 | .skip | .label _ => some (.normal, s)
 | .region _ ops draw => bif draw then (zk1 P (nOf P x.fn) ops).f C x s else seqC P (nOf P x.fn) ops ops.toList C x s
 | .seq a b => thenC C x b (C.code x a s)
 | .cond c a b => condC C x ((evC (nOf P x.fn) c).f s.t) a b s
 | .block id b => blockC id (C.code x b s)
 | .loop b => thenC C x (.loop b) (C.code x b s)
 | .scope b => C.code x b s
 | .exit id => some (.exit id, s)
 | .ret => some (.ret, s)
 | .rangeFunc f params assign body => zoZ P (nOf P x.fn) C x s f params assign body
 | .goto _ | .refuse _ => none
theorem zpU {P : Program} {C : RecC} {R : Recs} (hU : Under P C R) (x : Ctx) (c : Code) (s : FS) (e : Ex) (s' : FS) (h : zj3 P C x c s = some (e, s')) : za3 P R x c (s.st (nOf P x.fn)) = some (e, s'.st (nOf P x.fn)) := by
 have then_ok : ∀ a b, thenC C x b (C.code x a s) = some (e, s') -> (match R.code x a (s.st (nOf P x.fn)) with | some (.normal, s) => R.code x b s | r => r) = some (e, s'.st (nOf P x.fn)) := by
  intro a b h
  cases hc : C.code x a s with
  | none => rw [hc] at h; cases h
  | some p =>
   obtain ⟨e1, s1⟩ := p
   rw [hU.code _ _ _ _ _ hc]; rw [hc] at h
   cases e1 with
   | normal => exact hU.code _ _ _ _ _ h
   | _ => cases h; rfl
 cases c with
 | skip => cases h; rfl
 | label l => cases h; rfl
 | region id ops draw =>
  simp only [zj3] at h; simp only [za3]
  cases draw with
  | true => exact zmj hU h
  | false =>
   simp only [Bool.false_eq_true, if_false]
   rw [List.range_eq_range']
   exact seqC_ok hU ops ops.size 0 (by omega) _ _ _ h
 | seq a b => exact then_ok a b h
 | cond c a b =>
  simp only [zj3, zbw] at h; simp only [za3]
  show (match ev (zay (nOf P x.fn) s.t) c with | .bool t => R.code x (if t then a else b) (s.st (nOf P x.fn)) | _ => none) = _
  unfold condC at h
  cases hv : ev (zay (nOf P x.fn) s.t) c with
  | bool t => rw [hv] at h; simp only [cond_eq_ite] at h; exact hU.code _ _ _ _ _ h
  | _ => rw [hv] at h; cases h
 | block id b =>
  simp only [zj3] at h; simp only [za3]
  cases hc : C.code x b s with
  | none => rw [hc] at h; cases h
  | some p =>
   obtain ⟨e1, s1⟩ := p
   rw [hU.code _ _ _ _ _ hc]; rw [hc] at h
   cases e1 with
   | exit i =>
    simp only [blockC, cond_eq_ite, Nat.beq_eq] at h ⊢
    by_cases hi : i = id
    ·rw [if_pos hi] at h ⊢; cases h; rfl
    ·rw [if_neg hi] at h ⊢; cases h; rfl
   | _ => cases h; rfl
 | loop b => exact then_ok b (.loop b) h
 | scope b => exact hU.code _ _ _ _ _ h
 | exit id => cases h; rfl
 | ret => cases h; rfl
 | rangeFunc f params assign body => exact zoY hU h
 | goto l => cases h
 | refuse w => cases h
noncomputable def zcX (C : RecC) : Recs := ⟨fun _ _ _ => none, C.call, C.round⟩
theorem zfn {P : Program} {R R' : Recs} (hc : ∀ f args d u h r, R.call f args d u h = some r -> R'.call f args d u h = some r) {fn : Func} {tm : Array Value} : ∀ (ds : List Deferred) (u : FrameMode) (h : Heap) r, zaz P R fn tm ds u h = some r -> zaz P R' fn tm ds u h = some r := by
 intro ds
 induction ds with
 | nil => intro u h r e; cases u <;> simpa only [zaz] using e
 | cons d ds ih =>
  intro u h r e
  unfold zaz at e ⊢
  cases hu : zjH u with
  | true => rw [hu] at e; cases e
  | false =>
   rw [hu] at e
   simp only [Bool.false_eq_true, if_false] at e ⊢
   cases ht : d.target with
   | collected rr =>
    rw [ht] at e; simp only [] at e ⊢
    split at e
    ·rename_i hg; exact ih _ _ _ e
    ·cases e
   | fn f captured =>
    rw [ht] at e
    cases f with
    | func g =>
     simp only [] at e ⊢
     cases hf : zbO P g (d.args ++ captured) with
     | none => rw [hf] at e; cases e
     | some out =>
      rw [hf] at e
      cases out with
      | enter g args =>
       simp only [] at e ⊢
       cases hr : R.call g args true u h with
       | none => rw [hr] at e; cases e
       | some q =>
        rw [hc _ _ _ _ _ _ hr]; rw [hr] at e
        obtain ⟨e1, u1, h1⟩ := q
        cases e1 with
        | ret v => exact ih _ _ _ e
        | panic c => exact ih _ _ _ e
      | _ => cases e
    | _ => cases e
   | _ => rw [ht] at e; cases e
noncomputable def resL (P : Program) (N : Nat) : List ResultVar -> Vt -> Heap -> Option (List Value) :=
 @List.rec ResultVar (fun _ => Vt -> Heap -> Option (List Value)) (fun _ _ => some []) (fun r _ ih t h => match (match r with | .tmp a => some ((evC N (.tmp a)).f t) | .cell a ty => zeR P ty h ((evC N (.tmp a)).f t)) with
  | some v => match ih t h with | some vs => some (v :: vs) | none => none
  | none => none)
theorem resL_eq (P : Program) (N : Nat) (rs : List ResultVar) (t : Vt) (h : Heap) : resL P N rs t h = rs.mapM (zco P (zay N t) h) := by
 induction rs with
 | nil => rfl
 | cons r rs ih =>
  show (match (match r with | .tmp a => some ((evC N (.tmp a)).f t) | .cell a ty => zeR P ty h ((evC N (.tmp a)).f t)) with
   | some v => match resL P N rs t h with | some vs => some (v :: vs) | none => none
   | none => none) = _
  rw [List.mapM_cons, ih]
  have e : (match r with | .tmp a => some ((evC N (.tmp a)).f t) | .cell a ty => zeR P ty h ((evC N (.tmp a)).f t)) = zco P (zay N t) h r := by
   cases r with
   | tmp a => simp only [zbw]; rfl
   | cell a ty => simp only [zbw, zh5, zh4]; rfl
  rw [e]
  cases zco P (zay N t) h r with
  | none => rfl
  | some v => cases List.mapM (zco P (zay N t) h) rs <;> rfl
noncomputable def zf1 (r : Option (List Value)) : Option Value := match r with | some [v] => some v | some vs => some (.tuple ⟨vs⟩) | none => none
theorem zoV (P : Program) (N : Nat) (fn : Func) (t : Vt) (h : Heap) : zf1 (resL P N fn.results.toList t h) = zby P fn (zay N t) h := by
 unfold zby
 rw [resL_eq]
 cases fn.results.toList.mapM (zco P (zay N t) h) with
 | none => rfl
 | some vs => match vs with
  | [] => rfl
  | [v] => rfl
  | a :: b :: l => rfl
noncomputable def retC (u : FrameMode) (h : Heap) (r : Option Value) : Option (End × FrameMode × Heap) := match r with | some v => some (.ret v, u, h) | none => none
noncomputable def endC (u : FrameMode) (r : Option (End × Heap)) : Option (End × FrameMode × Heap) := match r with | some (e, h) => some (e, u, h) | none => none
noncomputable def zms (P : Program) (C : RecC) (fn : Func) (N : Nat) (s : FS) : Option (End × FrameMode × Heap) :=
 match s.df with
 | [] => retC s.up s.h (zf1 (resL P N fn.results.toList s.t s.h))
 | _ :: _ => endC s.up (zaz P (zcX C) fn (zay N s.t) s.df .returning s.h)
noncomputable def leftC (P : Program) (C : RecC) (fn : Func) (N : Nat) (r : Option (Ex × FS)) : Option (End × FrameMode × Heap) :=
 match r with
 | some (.normal, s) => zms P C fn N s
 | some (.ret, s) => zms P C fn N s
 | some (.panic ch, s) => endC s.up (zaz P (zcX C) fn (zay N s.t) s.df (.panicking ch) s.h)
 | _ => none
theorem zjF {P : Program} {C : RecC} {R : Recs} (hU : Under P C R) {fn : Func} {N : Nat} {s : FS} {r : End × FrameMode × Heap} (h : zms P C fn N s = some r) : (zaz P R fn (zay N s.t) s.df .returning s.h).map (fun p => (p.1, s.up, p.2)) = some r := by
 unfold zms at h
 cases hd : s.df with
 | nil =>
  rw [hd] at h; simp only [zoV] at h
  unfold zaz
  cases hr : zby P fn (zay N s.t) s.h with
  | none => rw [hr] at h; cases h
  | some v => rw [hr] at h; cases h; rfl
 | cons d ds =>
  rw [hd] at h; simp only [] at h
  cases hl : zaz P (zcX C) fn (zay N s.t) (d :: ds) .returning s.h with
  | none => rw [hl] at h; cases h
  | some p => rw [zfn (R := zcX C) (R' := R) hU.call _ _ _ _ hl]; rw [hl] at h; cases h; rfl
noncomputable def bodyC (P : Program) (f : FuncId) : Bx (RecC -> Array Value -> Bool -> FrameMode -> Heap -> Option (End × FrameMode × Heap)) :=
 match P.funcs[f]? with
 | none => ⟨fun _ _ _ _ _ => none⟩
 | some fn => match fn.body with
  | none => ⟨fun _ _ _ _ _ => none⟩
  | some c => ⟨fun C args dfr up h => bif Nat.ble (lenL args.toList) fn.ntmps then leftC P C fn (nOf P f) (C.code { fn := f, round := none, dfr } c ⟨zcH args.toList 0 .nil, [], up, h⟩) else none⟩
noncomputable def zp4 (P : Program) (K : Known) (C : RecC) (f : FuncId) (args : Array Value) (dfr : Bool) (up : FrameMode) (h : Heap) : Option (End × FrameMode × Heap) :=
 match (bif dfr then none else K f args h) with
 | some r => some (.ret r.1, up, zcp h r.2)
 | none => (bodyC P f).f C args dfr up h
theorem zp3 {P : Program} {K : Known} {C : RecC} {R : Recs} (hU : Under P C R) (f : FuncId) (args : Array Value) (dfr : Bool) (up : FrameMode) (h : Heap) (r : End × FrameMode × Heap) (e : zp4 P K C f args dfr up h = some r) : zcd P K R f args dfr up h = some r := by
 rw [<- zgW]
 unfold zp4 at e; unfold zhL
 cases hk : (bif dfr then none else K f args h) with
 | some q => rw [hk] at e; exact e
 | none =>
  rw [hk] at e; simp only [] at e ⊢
  unfold bodyC at e; unfold bodyF
  cases hf : P.funcs[f]? with
  | none => rw [hf] at e; cases e
  | some fn =>
   rw [hf] at e; simp only [] at e ⊢
   cases hb : fn.body with
   | none => rw [hb] at e; cases e
   | some c =>
    rw [hb] at e; simp only [zcJ] at e ⊢
    cases hl : Nat.ble args.toList.length fn.ntmps with
    | false => rw [hl] at e; cases e
    | true =>
     rw [hl] at e; simp only [cond_true] at e
     have hN : nOf P f = fn.ntmps := by unfold nOf; rw [hf]
     have htm : (⟨zeC args.toList (undefs (fn.ntmps - args.size))⟩ : Array Value) = zay (nOf P f) (zcH args.toList 0 .nil) := by
      rw [zcU _ _ (by rw [hN]; exact Nat.le_of_ble_eq_true hl), hN]
      apply Array.ext'; simp [zef, zgb]
     rw [htm]
     cases hc : C.code { fn := f, round := none, dfr } c ⟨zcH args.toList 0 .nil, [], up, h⟩ with
     | none => rw [hc] at e; cases e
     | some p =>
      obtain ⟨ex, s1⟩ := p
      have := hU.code _ _ _ _ _ hc
      simp only [FS.st] at this
      rw [this]; rw [hc] at e
      unfold leftF
      cases ex with
      | normal => exact zjF hU e
      | ret => exact zjF hU e
      | exit i => cases e
      | panic ch =>
       simp only [leftC] at e
       cases hl : zaz P (zcX C) fn (zay (nOf P f) s1.t) s1.df (.panicking ch) s1.h with
       | none => rw [hl] at e; cases e
       | some p => rw [hl] at e; simp only [zfn (R := zcX C) (R' := R) hU.call _ _ _ _ hl]; cases e; rfl
noncomputable def zhZ (N : Nat) : List (Tmp × Value) -> Vt -> Vt := @List.rec (Tmp × Value) (fun _ => Vt -> Vt) (fun t => t) (fun p _ ih t => ih ((putC N (some p.1)).f t p.2))
theorem zl6 (N : Nat) (l : List (Tmp × Value)) : ∀ t, zay N (zhZ N l t) = l.foldl (fun tm p => tm.setIfInBounds p.1 p.2) (zay N t) := by
 induction l with
 | nil => intro t; rfl
 | cons p l ih => intro t; show zay N (zhZ N l ((putC N (some p.1)).f t p.2)) = _; rw [ih, zbW]; rfl
noncomputable def roundEnd (l : Nat) (r : Option (Ex × FS)) (ok : Bool) : Option (End × Heap) :=
 match r with
 | some (.normal, s) => zbe l none s.h
 | some (.ret, s) => zbe l (some .ret) s.h
 | some (.exit id, s) => zbe l (some (.exit id)) s.h
 | some (.panic c, s) => if s.df.isEmpty && ok then some (.panic c, s.h) else none
 | none => none
noncomputable def zoR (P : Program) (C : RecC) (l : Nat) (args : Array Value) (h : Heap) : Option (End × Heap) :=
 match zbL h l with
 | none => none
 | some r0 =>
  bif Nat.beq (lenL args.toList) r0.params.size then
  bif Nat.beq (lenL r0.tmps.toList) (nOf P r0.fn) then
  match C.code { fn := r0.fn, round := some l, dfr := false } r0.assign ⟨zhZ (nOf P r0.fn) (r0.params.toList.zip args.toList) (zcH r0.tmps.toList 0 .nil), [], .run, h⟩ with
  | some (.normal, s) =>
   match zbL s.h l with
   | some r1 => bif r1.state == .ready then roundEnd l (C.code { fn := r0.fn, round := some l, dfr := false } r0.body { s with h := s.h.set l (.obj (.loop { r1 with state := .busy })) }) (P.funcs[r0.fn]?).isSome else none
   | none => none
  | _ => none
  else none
  else none
theorem zoQ {P : Program} {C : RecC} {R : Recs} (hU : Under P C R) (l : Nat) (args : Array Value) (h : Heap) (r : End × Heap) (e : zoR P C l args h = some r) : zch P R l args h = some r := by
 unfold zoR at e; unfold zch
 cases hl : zbL h l with
 | none => rw [hl] at e; cases e
 | some r0 =>
  rw [hl] at e; simp only [zcJ] at e ⊢
  cases h1 : Nat.beq args.toList.length r0.params.size with
  | false => rw [h1] at e; cases e
  | true =>
   rw [h1] at e; simp only [cond_true] at e
   have h1' : args.size = r0.params.size := Nat.eq_of_beq_eq_true h1
   rw [if_neg (by rw [h1']; simp)]
   cases h2 : Nat.beq r0.tmps.toList.length (nOf P r0.fn) with
   | false => rw [h2] at e; cases e
   | true =>
    rw [h2] at e; simp only [cond_true] at e
    have h2' : r0.tmps.toList.length = nOf P r0.fn := Nat.eq_of_beq_eq_true h2
    have htm : (r0.params.zip args).foldl (fun tm (t, a) => tm.setIfInBounds t a) r0.tmps = zay (nOf P r0.fn) (zhZ (nOf P r0.fn) (r0.params.toList.zip args.toList) (zcH r0.tmps.toList 0 .nil)) := by
     rw [zl6, zcU _ _ (by omega), h2', Nat.sub_self]
     rw [<- Array.foldl_toList, Array.toList_zip]
     congr 1
    rw [htm]
    cases hc : C.code { fn := r0.fn, round := some l, dfr := false } r0.assign ⟨zhZ (nOf P r0.fn) (r0.params.toList.zip args.toList) (zcH r0.tmps.toList 0 .nil), [], .run, h⟩ with
    | none => rw [hc] at e; cases e
    | some p =>
     obtain ⟨ex, s⟩ := p
     have := hU.code _ _ _ _ _ hc
     simp only [FS.st] at this
     rw [this]; rw [hc] at e
     cases ex with
     | normal =>
      simp only [] at e ⊢
      cases hl1 : zbL s.h l with
      | none => rw [hl1] at e; cases e
      | some r1 =>
       rw [hl1] at e; simp only [] at e ⊢
       cases hb : (r1.state == .ready) with
       | false => rw [hb] at e; cases e
       | true =>
        rw [hb] at e; simp only [cond_true] at e
        simp only [if_true]
        cases hd : C.code { fn := r0.fn, round := some l, dfr := false } r0.body { s with h := s.h.set l (.obj (.loop { r1 with state := .busy })) } with
        | none => rw [hd] at e; cases e
        | some q =>
         obtain ⟨ex2, s2⟩ := q
         have := hU.code _ _ _ _ _ hd
         simp only [FS.st] at this
         rw [this]; rw [hd] at e
         cases ex2 <;> exact e
     | _ => cases e
noncomputable def runC (P : Program) (K : Known) : Nat -> RecC := @Nat.rec (fun _ => RecC) zml (fun _ C => { code := zj3 P C, call := zp4 P K C, round := zoR P C })
theorem runC_under (P : Program) (K : Known) : ∀ n, Under P (runC P K n) (run P K n) := by
 intro n
 induction n with
 | zero => exact zgx P
 | succ n ih =>
  exact ⟨fun x c s e s' h => zpU ih x c s e s' h, fun f args d u h r e => zp3 ih f args d u h r e, fun l args h r e => zoQ ih l args h r e⟩
end Go.AX

namespace Go.AX
structure RecK where
 call : FuncId -> Array Value -> Bool -> FrameMode -> Heap -> Option (End × FrameMode × Heap)
 round : Nat -> Array Value -> Heap -> Option (End × Heap)
structure Rest where
 df : List Deferred
 up : FrameMode
noncomputable def toC (C : RecK) : RecC := ⟨fun _ _ _ => none, C.call, C.round⟩
section
open Classical in
noncomputable def lim (P : Program) (K : Known) : Recs where
 code := fun _ _ _ => none
 call := fun f a d u h => if e : ∃ r m, (run P K m).call f a d u h = some r then some e.choose else none
 round := fun l a h => if e : ∃ r m, (run P K m).round l a h = some r then some e.choose else none
end
theorem zh2 {P : Program} {K : Known} {m n : Nat} {f : FuncId} {a : Array Value} {d : Bool} {u : FrameMode} {h : Heap} {r r' : End × FrameMode × Heap} (e : (run P K m).call f a d u h = some r) (e' : (run P K n).call f a d u h = some r') : r = r' := by
 have h1 := (zar P K (Nat.le_max_left m n)).call _ _ _ _ _ _ e
 have h2 := (zar P K (Nat.le_max_right m n)).call _ _ _ _ _ _ e'
 rw [h1] at h2; exact Option.some.inj h2
theorem zhe {P : Program} {K : Known} {m n : Nat} {l : Nat} {a : Array Value} {h : Heap} {r r' : End × Heap} (e : (run P K m).round l a h = some r) (e' : (run P K n).round l a h = some r') : r = r' := by
 have h1 := (zar P K (Nat.le_max_left m n)).round _ _ _ _ e
 have h2 := (zar P K (Nat.le_max_right m n)).round _ _ _ _ e'
 rw [h1] at h2; exact Option.some.inj h2
theorem zmq {P : Program} {K : Known} {m : Nat} {f : FuncId} {a : Array Value} {d : Bool} {u : FrameMode} {h : Heap} {r : End × FrameMode × Heap} (e : (run P K m).call f a d u h = some r) : (lim P K).call f a d u h = some r := by
 have ex : ∃ r m, (run P K m).call f a d u h = some r := ⟨r, m, e⟩
 simp only [lim, dif_pos ex]
 obtain ⟨m', h'⟩ := ex.choose_spec
 rw [zh2 h' e]
theorem zmM {P : Program} {K : Known} {f : FuncId} {a : Array Value} {d : Bool} {u : FrameMode} {h : Heap} {r : End × FrameMode × Heap} (e : (lim P K).call f a d u h = some r) : ∃ m, (run P K m).call f a d u h = some r := by
 simp only [lim] at e
 split at e
 ·rename_i ex; cases e; exact ex.choose_spec
 ·cases e
theorem zpq {P : Program} {K : Known} {m : Nat} {l : Nat} {a : Array Value} {h : Heap} {r : End × Heap} (e : (run P K m).round l a h = some r) : (lim P K).round l a h = some r := by
 have ex : ∃ r m, (run P K m).round l a h = some r := ⟨r, m, e⟩
 simp only [lim, dif_pos ex]
 obtain ⟨m', h'⟩ := ex.choose_spec
 rw [zhe h' e]
theorem zoN {P : Program} {K : Known} {l : Nat} {a : Array Value} {h : Heap} {r : End × Heap} (e : (lim P K).round l a h = some r) : ∃ m, (run P K m).round l a h = some r := by
 simp only [lim] at e
 split at e
 ·rename_i ex; cases e; exact ex.choose_spec
 ·cases e
theorem zmH {P : Program} {K : Known} {x : Ctx} {s : St} {o : Oper} {r : Did × St} (h : doOp P (lim P K) x s o = some r) : ∃ m, doOp P (run P K m) x s o = some r := by
 unfold doOp at h ⊢
 cases hk : zah P o with
 | false => rw [hk] at h; exact absurd h (by simp)
 | true =>
  rw [hk] at h
  simp only [Bool.not_true, Bool.false_eq_true, if_false] at h ⊢
  cases hs : zae P s.tm s.h o with
  | some p => rw [hs] at h; exact ⟨0, h⟩
  | none =>
   rw [hs] at h; simp only [] at h ⊢
   cases hi : zaf o with
   | true => rw [hi] at h; exact absurd h (by simp)
   | false =>
    rw [hi] at h
    simp only [Bool.false_eq_true, if_false] at h ⊢
    cases he : zaZ P s.tm s.h o with
    | none => rw [he] at h; cases h
    | some p =>
     obtain ⟨q, h1⟩ := p
     rw [he] at h
     cases q with
     | enter f args =>
      simp only [] at h ⊢
      cases hc : (lim P K).call f args false .run h1 with
      | none => rw [hc] at h; cases h
      | some a =>
       obtain ⟨m, hm⟩ := zmM hc
       exact ⟨m, by rw [hm]; rw [hc] at h; exact h⟩
     | round l args =>
      simp only [] at h ⊢
      cases hc : (lim P K).round l args h1 with
      | none => rw [hc] at h; cases h
      | some a =>
       obtain ⟨m, hm⟩ := zoN hc
       exact ⟨m, by rw [hm]; rw [hc] at h; exact h⟩
     | _ => exact ⟨0, h⟩
theorem zjq {P : Program} {K : Known} {x : Ctx} {ops : Array Oper} {ps : List (List Nat)} {z z' : Open} {i : Nat} (h : zaC P (lim P K) x ops ps z i = some z') : ∃ m, zaC P (run P K m) x ops ps z i = some z' := by
 unfold zaC at h ⊢
 cases ho : ops[i]? with
 | none => rw [ho] at h; cases h
 | some o =>
  rw [ho] at h; simp only [] at h ⊢
  cases hs : zaf o with
  | true => rw [hs] at h; exact ⟨0, h⟩
  | false =>
   rw [hs] at h; simp only [Bool.false_eq_true, if_false] at h ⊢
   cases hw : zaW ops z.s.tm o with
   | false => rw [hw] at h; exact ⟨0, h⟩
   | true =>
    rw [hw] at h; simp only [if_true] at h ⊢
    unfold zcq at h ⊢
    cases hd : doOp P (lim P K) x { z.s with h := hide (unseen ps z.news i) z.s.h } o with
    | none => rw [hd] at h; cases h
    | some p =>
     obtain ⟨m, hm⟩ := zmH hd
     exact ⟨m, by rw [hm]; rw [hd] at h; exact h⟩
theorem zjT {P : Program} {K : Known} {x : Ctx} {ops : Array Oper} {ps : List (List Nat)} : ∀ (l : List Nat) (z z' : Open), l.foldlM (zaC P (lim P K) x ops ps) z = some z' -> ∃ m, l.foldlM (zaC P (run P K m) x ops ps) z = some z' := by
 intro l
 induction l with
 | nil => intro z z' h; exact ⟨0, h⟩
 | cons i l ih =>
  intro z z' h
  rw [List.foldlM_cons] at h
  cases hc : zaC P (lim P K) x ops ps z i with
  | none => rw [hc] at h; cases h
  | some z1 =>
   rw [hc] at h
   obtain ⟨m1, h1⟩ := zjq hc
   obtain ⟨m2, h2⟩ := ih z1 z' h
   refine ⟨max m1 m2, ?_⟩
   rw [List.foldlM_cons, zci (zar P K (Nat.le_max_left m1 m2)) h1]
   exact zeA (fun _ _ _ e => zci (zar P K (Nat.le_max_right m1 m2)) e) _ _ _ h2
theorem zkZ {P : Program} {K : Known} {x : Ctx} {ops : Array Oper} {s : St} {r : Ex × St} (h : zbG P (lim P K) x ops s = some r) : ∃ m, zbG P (run P K m) x ops s = some r := by
 unfold zbG at h ⊢
 cases hk : zdp ops with
 | false => rw [hk] at h; exact absurd h (by simp)
 | true =>
  rw [hk] at h; simp only [if_true] at h ⊢
  cases hc : (List.range ops.size).foldlM (zaC P (lim P K) x ops (preds ops.toList)) { s, hs := [s.h], looks := [], news := [] } with
  | none => rw [hc] at h; cases h
  | some z =>
   obtain ⟨m, hm⟩ := zjT _ _ _ hc
   exact ⟨m, by rw [hm]; rw [hc] at h; exact h⟩
theorem znL {P : Program} {K : Known} {fn : Func} {tm : Array Value} : ∀ (ds : List Deferred) (u : FrameMode) (h : Heap) r, zaz P (lim P K) fn tm ds u h = some r -> ∃ m, zaz P (run P K m) fn tm ds u h = some r := by
 intro ds
 induction ds with
 | nil => intro u h r e; exact ⟨0, by cases u <;> simpa only [zaz] using e⟩
 | cons d ds ih =>
  intro u h r e
  unfold zaz at e ⊢
  cases hu : zjH u with
  | true => rw [hu] at e; cases e
  | false =>
   rw [hu] at e
   simp only [Bool.false_eq_true, if_false] at e ⊢
   cases ht : d.target with
   | collected rr =>
    rw [ht] at e; simp only [] at e ⊢
    split at e
    ·rename_i hg; exact ih _ _ _ e
    ·cases e
   | fn f captured =>
    rw [ht] at e
    cases f with
    | func g =>
     simp only [] at e ⊢
     cases hf : zbO P g (d.args ++ captured) with
     | none => rw [hf] at e; cases e
     | some out =>
      rw [hf] at e
      cases out with
      | enter g args =>
       simp only [] at e ⊢
       cases hr : (lim P K).call g args true u h with
       | none => rw [hr] at e; cases e
       | some q =>
        rw [hr] at e
        obtain ⟨m1, h1⟩ := zmM hr
        obtain ⟨e1, u1, h2⟩ := q
        cases e1 with
        | ret v =>
         obtain ⟨m2, h3⟩ := ih _ _ _ e
         refine ⟨max m1 m2, ?_⟩
         rw [(zar P K (Nat.le_max_left m1 m2)).call _ _ _ _ _ _ h1]
         exact zcs (zar P K (Nat.le_max_right m1 m2)) _ _ _ _ h3
        | panic c =>
         obtain ⟨m2, h3⟩ := ih _ _ _ e
         refine ⟨max m1 m2, ?_⟩
         rw [(zar P K (Nat.le_max_left m1 m2)).call _ _ _ _ _ _ h1]
         exact zcs (zar P K (Nat.le_max_right m1 m2)) _ _ _ _ h3
      | _ => cases e
    | _ => cases e
   | _ => rw [ht] at e; cases e
structure OkK (P : Program) (K : Known) (C : RecK) : Prop where
 call : ∀ f a d u h r, C.call f a d u h = some r -> ∃ m, (run P K m).call f a d u h = some r
 round : ∀ l a h r, C.round l a h = some r -> ∃ m, (run P K m).round l a h = some r
theorem OkK.under {P : Program} {K : Known} {C : RecK} (hC : OkK P K C) : Under P (toC C) (lim P K) :=
 ⟨fun _ _ _ _ _ h => (by cases h), fun _ _ _ _ _ _ h => (by obtain ⟨m, hm⟩ := hC.call _ _ _ _ _ _ h; exact zmq hm), fun _ _ _ _ h => (by obtain ⟨m, hm⟩ := hC.round _ _ _ _ h; exact zpq hm)⟩
section
variable {β : Type}
noncomputable def zbZ (r : Option Value) (k : Value -> Option β) : Option β := @Option.rec Value (fun _ => Option β) none k r
noncomputable def znG (r : Option (Value × Heap)) (k : Value × Heap -> Option β) : Option β := @Option.rec (Value × Heap) (fun _ => Option β) none k r
noncomputable def heapK (r : Option Heap) (k : Heap -> Option β) : Option β := @Option.rec Heap (fun _ => Option β) none k r
noncomputable def finK (p : Bx (Vt -> Value -> Vt)) (res : Option (Did × FS)) (kn : Vt -> Heap -> Rest -> Option β) (ke : Ex -> Vt -> Heap -> Rest -> Option β) : Option β :=
 match res with
 | some (.val v, s) => kn (p.f s.t v) s.h ⟨s.df, s.up⟩
 | some (.panic c, s) => ke (.panic c) s.t s.h ⟨s.df, s.up⟩
 | none => none
noncomputable def zmN (p : Bx (Vt -> Value -> Vt)) (t : Vt) (r : Rest) (res : Option (End × FrameMode × Heap)) (kn : Vt -> Heap -> Rest -> Option β) (ke : Ex -> Vt -> Heap -> Rest -> Option β) : Option β :=
 match res with
 | some (.ret v, _, h) => kn (p.f t v) h r
 | some (.panic c, _, h) => ke (.panic c) t h r
 | none => none
abbrev KOp (β : Type) := RecK -> Ctx -> Vt -> Heap -> Rest -> (Vt -> Heap -> Rest -> Option β) -> (Ex -> Vt -> Heap -> Rest -> Option β) -> Option β
noncomputable def genK (P : Program) (N : Nat) (o : Oper) (C : RecK) (x : Ctx) (t : Vt) (h : Heap) (r : Rest) (kn : Vt -> Heap -> Rest -> Option β) (ke : Ex -> Vt -> Heap -> Rest -> Option β) : Option β :=
 finK (putC N o.dst) ((opC P N o).f (toC C) x ⟨t, r.df, r.up, h⟩) kn ke
noncomputable def binK (P : Program) (N : Nat) (o : Oper) (op : BinOp) (ty : TypeId) (a b : Operand) (t : Vt) : Option Value :=
 match (binV op).f ((evC N a).f t) ((evC N b).f t) with
 | some v => some v
 | none => binF P (zay N t) o op ty a b
noncomputable def unK (P : Program) (N : Nat) (o : Oper) (op : UnOp) (a : Operand) (t : Vt) : Option Value :=
 match (unV op).f ((evC N a).f t) with
 | some v => some v
 | none => zav P (zay N t) o
noncomputable def lenK (P : Program) (N : Nat) (o : Oper) (ty : TypeId) (v : Value) (t : Vt) (h : Heap) : Option Value :=
 match (lenC P ty).f v with
 | some r => some r
 | none => lenF P (zay N t) h o ty v
noncomputable def ziF (P : Program) (N : Nat) (o : Oper) (c : Call) : Bx (KOp β) :=
 match c.callee with
 | .builtin .len => match c.argTypes[0]?, c.args[0]? with
  | some ty, some a => ⟨fun _ _ t h r kn _ => zbZ (lenK P N o ty ((evC N a).f t) t h) fun v => kn ((putC N o.dst).f t v) h r⟩
  | _, _ => ⟨fun _ _ _ _ _ _ _ => none⟩
 | .value (.func f) => match P.funcs[f]? with
  | none => ⟨fun _ _ _ _ _ _ _ => none⟩
  | some fn => bif fn.name == "runtime.NumGoroutine" then ⟨fun _ _ _ _ _ _ _ => none⟩
   else bif fn.body.isSome then ⟨fun C _ t h r kn ke => zmN (putC N o.dst) t r (C.call f ⟨zhq N c.args.toList t⟩ false .run h) kn ke⟩
   else ⟨genK P N o⟩
 | _ => ⟨genK P N o⟩
noncomputable def opK (P : Program) (N : Nat) (o : Oper) : Bx (KOp β) :=
 match o.op with
 | .move a => ⟨fun _ _ t h r kn _ => kn ((putC N o.dst).f t ((evC N a).f t)) h r⟩
 | .assign a => ⟨fun _ _ t h r kn _ => kn ((putC N o.dst).f t ((evC N a).f t)) h r⟩
 | .pick c a b => ⟨fun _ _ t h r kn _ => zbZ (zo6 ((evC N c).f t) ((evC N a).f t) ((evC N b).f t)) fun v => kn ((putC N o.dst).f t v) h r⟩
 | .load ty a => ⟨fun _ _ t h r kn _ => zbZ (zeR P ty h ((evC N a).f t)) fun v => kn ((putC N o.dst).f t v) h r⟩
 | .binOp op ty a b _ => ⟨fun _ _ t h r kn _ => zbZ (binK P N o op ty a b t) fun v => kn ((putC N o.dst).f t v) h r⟩
 | .unOp op _ a => ⟨fun _ _ t h r kn _ => zbZ (unK P N o op a t) fun v => kn ((putC N o.dst).f t v) h r⟩
 | .indexAddr ty a i => ⟨fun _ _ t h r kn _ => zbZ ((zjN P ty).f ((evC N a).f t) ((evC N i).f t)) fun v => kn ((putC N o.dst).f t v) h r⟩
 | .fieldAddr ty a f => ⟨fun _ _ t h r kn _ => zbZ ((ze4 P ty f).f ((evC N a).f t)) fun v => kn ((putC N o.dst).f t v) h r⟩
 | .field ty a f => ⟨fun _ _ t h r kn _ => zbZ ((zjX P ty f).f ((evC N a).f t)) fun v => kn ((putC N o.dst).f t v) h r⟩
 | .extract a i => ⟨fun _ _ t h r kn _ => zbZ (extC ((evC N a).f t) i) fun v => kn ((putC N o.dst).f t v) h r⟩
 | .build ty ps => ⟨fun _ _ t h r kn _ => zbZ ((zpJ P ty).f (zgs N ps.toList t)) fun v => kn ((putC N o.dst).f t v) h r⟩
 | .box e a => ⟨fun _ _ t h r kn _ => znG (zee P e h (zdu ((evC N a).f t))) fun p => kn ((putC N o.dst).f t p.1) p.2 r⟩
 | .buildSlice ty n ps => ⟨fun _ _ t h r kn _ => znG ((zc0 P ty n).f h (zgs N ps.toList t)) fun p => kn ((putC N o.dst).f t p.1) p.2 r⟩
 | .store ty a v => ⟨fun _ _ t h r kn _ => heapK (ziQ P ty h ((evC N v).f t) ((evC N a).f t)) fun h => kn ((putC N o.dst).f t undef) h r⟩
 | .call c => ziF P N o c
 | _ => ⟨genK P N o⟩
def DidK (P : Program) (N : Nat) (o : Oper) (C : RecK) (x : Ctx) (t : Vt) (h : Heap) (r : Rest) (kn : Vt -> Heap -> Rest -> Option β) (ke : Ex -> Vt -> Heap -> Rest -> Option β) (b : β) : Prop :=
 ∃ d s1, (opC P N o).f (toC C) x ⟨t, r.df, r.up, h⟩ = some (d, s1) /\ (match d with | .val v => kn ((putC N o.dst).f s1.t v) s1.h ⟨s1.df, s1.up⟩ | .panic c => ke (.panic c) s1.t s1.h ⟨s1.df, s1.up⟩) = some b
theorem zgH {P : Program} {N : Nat} {o : Oper} {C : RecK} {x : Ctx} {t : Vt} {h : Heap} {r : Rest} {kn : Vt -> Heap -> Rest -> Option β} {ke : Ex -> Vt -> Heap -> Rest -> Option β} {b : β} (e : genK P N o C x t h r kn ke = some b) : DidK P N o C x t h r kn ke b := by
 unfold genK at e
 cases hc : (opC P N o).f (toC C) x ⟨t, r.df, r.up, h⟩ with
 | none => rw [hc] at e; cases e
 | some p =>
  obtain ⟨d, s1⟩ := p
  rw [hc] at e
  exact ⟨d, s1, hc, by cases d <;> exact e⟩
theorem zde {P : Program} {N : Nat} {o : Oper} {C : RecK} {x : Ctx} {t : Vt} {h : Heap} {r : Rest} {kn : Vt -> Heap -> Rest -> Option β} {ke : Ex -> Vt -> Heap -> Rest -> Option β} {b : β} {v : Option Value}
  (hv : (opC P N o).f (toC C) x ⟨t, r.df, r.up, h⟩ = oneC ⟨t, r.df, r.up, h⟩ v) (e : zbZ v (fun v => kn ((putC N o.dst).f t v) h r) = some b) : DidK P N o C x t h r kn ke b := by
 cases v with
 | none => cases e
 | some v => exact ⟨.val v, _, hv, e⟩
theorem zpb {P : Program} {N : Nat} {o : Oper} {C : RecK} {x : Ctx} {t : Vt} {h : Heap} {r : Rest} {kn : Vt -> Heap -> Rest -> Option β} {ke : Ex -> Vt -> Heap -> Rest -> Option β} {b : β} {v : Option (Value × Heap)}
  (hv : (opC P N o).f (toC C) x ⟨t, r.df, r.up, h⟩ = valC ⟨t, r.df, r.up, h⟩ v) (e : znG v (fun p => kn ((putC N o.dst).f t p.1) p.2 r) = some b) : DidK P N o C x t h r kn ke b := by
 cases v with
 | none => cases e
 | some v => exact ⟨.val v.1, _, hv, e⟩
theorem heap_ok {P : Program} {N : Nat} {o : Oper} {C : RecK} {x : Ctx} {t : Vt} {h : Heap} {r : Rest} {kn : Vt -> Heap -> Rest -> Option β} {ke : Ex -> Vt -> Heap -> Rest -> Option β} {b : β} {v : Option Heap}
  (hv : (opC P N o).f (toC C) x ⟨t, r.df, r.up, h⟩ = hhC ⟨t, r.df, r.up, h⟩ v) (e : heapK v (fun h => kn ((putC N o.dst).f t undef) h r) = some b) : DidK P N o C x t h r kn ke b := by
 cases v with
 | none => cases e
 | some v => exact ⟨.val undef, _, hv, e⟩
theorem zpg {P : Program} {N : Nat} {o : Oper} {C : RecK} {x : Ctx} {t : Vt} {h : Heap} {r : Rest} {kn : Vt -> Heap -> Rest -> Option β} {ke : Ex -> Vt -> Heap -> Rest -> Option β} {b : β} (e : (opK P N o).f C x t h r kn ke = some b) : DidK P N o C x t h r kn ke b := by
 unfold opK at e
 cases ho : o.op with
 | move a => rw [ho] at e; exact ⟨.val _, _, by unfold opC; rw [ho], e⟩
 | assign a => rw [ho] at e; exact ⟨.val _, _, by unfold opC; rw [ho], e⟩
 | pick c a b => rw [ho] at e; exact zde (by unfold opC; rw [ho]) e
 | load ty a => rw [ho] at e; exact zde (by unfold opC; rw [ho]) e
 | binOp op ty a b yt => rw [ho] at e; exact zde (by unfold opC; rw [ho]; rfl) e
 | unOp op ty a => rw [ho] at e; exact zde (by unfold opC; rw [ho]; rfl) e
 | indexAddr ty a i => rw [ho] at e; exact zde (by unfold opC; rw [ho]) e
 | fieldAddr ty a f => rw [ho] at e; exact zde (by unfold opC; rw [ho]) e
 | field ty a f => rw [ho] at e; exact zde (by unfold opC; rw [ho]) e
 | extract a i => rw [ho] at e; exact zde (by unfold opC; rw [ho]) e
 | build ty ps => rw [ho] at e; exact zde (by unfold opC; rw [ho]) e
 | box el a => rw [ho] at e; exact zpb (by unfold opC; rw [ho]) e
 | buildSlice ty n ps => rw [ho] at e; exact zpb (by unfold opC; rw [ho]) e
 | store ty a v => rw [ho] at e; exact heap_ok (by unfold opC; rw [ho]) e
 | call c =>
  rw [ho] at e
  obtain ⟨callee, args, argTypes⟩ := c
  simp only [] at e
  unfold ziF at e
  cases callee with
  | value f =>
   cases f with
   | func f =>
    simp only [] at e
    cases hf : P.funcs[f]? with
    | none => rw [hf] at e; cases e
    | some fn =>
     rw [hf] at e; simp only [] at e
     cases hn : (fn.name == "runtime.NumGoroutine") with
     | true => rw [hn] at e; cases e
     | false =>
      rw [hn] at e; simp only [cond_false] at e
      cases hb : fn.body.isSome with
      | false => rw [hb] at e; exact zgH e
      | true =>
       rw [hb] at e; simp only [cond_true] at e
       have hop : (opC P N o).f (toC C) x ⟨t, r.df, r.up, h⟩ = zf5 ⟨t, r.df, r.up, h⟩ (C.call f ⟨zhq N args.toList t⟩ false .run h) := by
        unfold opC; rw [ho]; simp only []; unfold zp5; simp only [hf, hn, hb, cond_false, cond_true]; rfl
       cases hc : C.call f ⟨zhq N args.toList t⟩ false .run h with
       | none => rw [hc] at e; cases e
       | some q =>
        rw [hc] at e hop
        obtain ⟨e1, u, h1⟩ := q
        cases e1 with
        | ret v => exact ⟨.val v, _, hop, e⟩
        | panic c => exact ⟨.panic c, _, hop, e⟩
   | _ => exact zgH e
  | invoke rr name => exact zgH e
  | builtin bb =>
   cases bb with
   | len =>
    simp only [] at e
    cases h0 : argTypes[0]? with
    | none => rw [h0] at e; cases e
    | some ty =>
     rw [h0] at e
     cases h1 : args[0]? with
     | none => rw [h1] at e; cases e
     | some a =>
      rw [h1] at e
      exact zde (by unfold opC; rw [ho]; simp only []; unfold zp5; simp only [h0, h1]; rfl) e
   | _ => exact zgH e
 | _ => rw [ho] at e; exact zgH e
end
end Go.AX
