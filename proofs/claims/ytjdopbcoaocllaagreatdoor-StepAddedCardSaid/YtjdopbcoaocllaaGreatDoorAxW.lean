/- The same rules in shells; what stays of the memory; loops; lists in memory. -/
import Derived.Test.YtjdopbcoaocllaaGreatDoorAxV
namespace Go.AX
structure K1 (P : Program) (K : Known) (x : Ctx) (N : Nat) (Q : Ex → Env → Heap → Prop) (c : Code) (ks : List Kt) (E : Env) (h : Heap) : Prop where
  out : WK P K x N Q c ks E h
structure C1 (P : Program) (K : Known) (x : Ctx) (N : Nat) (Q : Ex → Env → Heap → Prop) (ks : List Kt) (e : Ex) (E : Env) (h : Heap) : Prop where
  out : Cont P K x N Q ks e E h
structure R1 (P : Program) (K : Known) (x : Ctx) (N : Nat) (ops : Array Oper) (F : Ex → Env → Heap → Prop) (i : Nat) (E : Env) (h : Heap) : Prop where
  out : WO P K x N ops F i E h
structure R2 (P : Program) (K : Known) (x : Ctx) (N : Nat) (ops : Array Oper) (F : Ex → Env → Heap → Prop) (i : Nat) (o : Oper) (E : Env) (h : Heap) : Prop where
  out : ops[i]? = some o → WO P K x N ops F i E h
structure S1 (P : Program) (K : Known) (x : Ctx) (N : Nat) (ops : Array Oper) (F : Ex → Env → Heap → Prop) (i : Nat) (E : Env) (h : Heap) (Hs : List Heap) (L : List Heap → Prop) (nw : List (Nat × Nat × Blk)) : Prop where
  out : OO P K x N ops F i E h Hs L nw
structure S2 (P : Program) (K : Known) (x : Ctx) (N : Nat) (ops : Array Oper) (F : Ex → Env → Heap → Prop) (i : Nat) (o : Oper) (E : Env) (h : Heap) (Hs : List Heap) (L : List Heap → Prop) (nw : List (Nat × Nat × Blk)) : Prop where
  out : ops[i]? = some o → OO P K x N ops F i E h Hs L nw
section
variable {P : Program} {K : Known} {x : Ctx} {N : Nat} {E : Env} {h : Heap} {Q : Ex → Env → Heap → Prop} {ks : List Kt}
theorem zah {a b : Code} (H : K1 P K x N Q a (.seq b :: ks) E h) : K1 P K x N Q (.seq a b) ks E h := ⟨W_seq H.out⟩
theorem zat (H : C1 P K x N Q ks .normal E h) : K1 P K x N Q .skip ks E h := ⟨W_skip H.out⟩
theorem za2 {id : Nat} (H : C1 P K x N Q ks (.exit id) E h) : K1 P K x N Q (.exit id) ks E h := ⟨W_exit H.out⟩
theorem zav (H : C1 P K x N Q ks .ret E h) : K1 P K x N Q .ret ks E h := ⟨W_ret H.out⟩
theorem zaE {c : Operand} {a b : Code} (hc : E.ev c = some (.bool true)) (H : K1 P K x N Q a ks E h) : K1 P K x N Q (.cond c a b) ks E h := ⟨W_if hc H.out⟩
theorem zaG {c : Operand} {a b : Code} (hc : E.ev c = some (.bool false)) (H : K1 P K x N Q b ks E h) : K1 P K x N Q (.cond c a b) ks E h := ⟨W_if hc H.out⟩
theorem zal {id : Nat} {b : Code} (H : K1 P K x N Q b (.block id :: ks) E h) : K1 P K x N Q (.block id b) ks E h := ⟨W_block H.out⟩
theorem K_loop {b : Code} (H : K1 P K x N Q b (.loop b :: ks) E h) : K1 P K x N Q (.loop b) ks E h := ⟨W_loop H.out⟩
theorem K_weak {c : Code} {E' : Env} (hs : ∀ p ∈ E', E.get p.1 = some p.2) (H : K1 P K x N Q c ks E' h) : K1 P K x N Q c ks E h := ⟨W_weak hs H.out⟩
theorem zad {id : Nat} {ops : Array Oper} (H : R1 P K x N ops (C1 P K x N Q ks) 0 E h) : K1 P K x N Q (.region id ops false) ks E h := ⟨W_region fun tm D U hE => by
  obtain ⟨n, ex, a, b, c, d, e, f⟩ := H.out tm D U hE
  exact ⟨n, ex, a, b, c, d, e, f.out⟩⟩
theorem zbp {id : Nat} {ops : Array Oper} (hok : openOK ops = true) (H : S1 P K x N ops (C1 P K x N Q ks) 0 E h [h] (fun _ => True) []) : K1 P K x N Q (.region id ops true) ks E h := ⟨W_open hok fun tm D U hE lk hlk => by
  obtain ⟨n, a, b, c, d, e, nw, f, g, i, j⟩ := H.out tm D U hE lk hlk
  exact ⟨n, a, b, c, d, e, nw, f, g, i, j.out⟩⟩
theorem zaw {e : Ex} (H : Q e E h) : C1 P K x N Q [] e E h := ⟨H⟩
theorem zaf {b : Code} (H : K1 P K x N Q b ks E h) : C1 P K x N Q (.seq b :: ks) .normal E h := ⟨H.out⟩
theorem C_loop {b : Code} (H : K1 P K x N Q (.loop b) ks E h) : C1 P K x N Q (.loop b :: ks) .normal E h := ⟨H.out⟩
theorem zap {id : Nat} (H : C1 P K x N Q ks .normal E h) : C1 P K x N Q (.block id :: ks) .normal E h := ⟨H.out⟩
theorem za3 {id : Nat} (H : C1 P K x N Q ks .normal E h) : C1 P K x N Q (.block id :: ks) (.exit id) E h := ⟨by simp only [Cont, if_true]; exact H.out⟩
theorem zaI {b : Code} {j : Nat} (H : C1 P K x N Q ks (.exit j) E h) : C1 P K x N Q (.seq b :: ks) (.exit j) E h := ⟨H.out⟩
theorem zaM {b : Code} {j : Nat} (H : C1 P K x N Q ks (.exit j) E h) : C1 P K x N Q (.loop b :: ks) (.exit j) E h := ⟨H.out⟩
theorem zbq {b : Code} (H : C1 P K x N Q ks .ret E h) : C1 P K x N Q (.seq b :: ks) .ret E h := ⟨H.out⟩
theorem zeZ {b : Code} (H : C1 P K x N Q ks .ret E h) : C1 P K x N Q (.loop b :: ks) .ret E h := ⟨H.out⟩
theorem ze0 {id : Nat} (H : C1 P K x N Q ks .ret E h) : C1 P K x N Q (.block id :: ks) .ret E h := ⟨H.out⟩
theorem body {f : FuncId} {args : Array Value} {fn : Func} {c : Code} {G : Value → Heap → Prop} (hf : P.funcs[f]? = some fn) (hb : fn.body = some c) (hk : K f args h = none) (hN : fn.ntmps = N) (ha : Nat.ble args.size N = true)
    (H : K1 P K { fn := f, round := none, dfr := false } N (fun e E' h1 => (e = .normal ∨ e = .ret) ∧ ∃ vs, resE P E' h1 fn.results.toList = some vs ∧ G (resV vs) h1) c [] (envFrom 0 args.toList) h) : CallW P K f args h G := CallW.of_body hf hb hk hN ha H.out
variable {ops : Array Oper} {F : Ex → Env → Heap → Prop} {i : Nat} {Hs : List Heap} {L : List Heap → Prop} {nw : List (Nat × Nat × Blk)}
variable {d : Nat} {ty : TypeId} {pos : String} {af : Array Edge} {g : Option (Nat × Bool)}
theorem zag (hi : i = ops.size) (H : F .normal E h) : R1 P K x N ops F i E h := ⟨O_end hi H⟩
theorem zbN (hi : i = ops.size) (hl : Hs.length ≤ 1 ∨ L Hs) (H : F .normal E h) : S1 P K x N ops F i E h Hs L nw := ⟨N_end hi hl H⟩
theorem O_at {o : Oper} (ho : ops[i]? = some o) (k : R2 P K x N ops F i o E h) : R1 P K x N ops F i E h := ⟨k.out ho⟩
theorem N_at {o : Oper} (ho : ops[i]? = some o) (k : S2 P K x N ops F i o E h Hs L nw) : S1 P K x N ops F i E h Hs L nw := ⟨k.out ho⟩
theorem zbj {o : Oper} (hg : gval ops E o.guard = some false) (hd : o.dst = some d) (hN : Nat.blt d N = true) (k : R1 P K x N ops F (i + 1) ((d, undef) :: E) h) : R2 P K x N ops F i o E h := ⟨fun ho => O_skip ho hd hN hg k.out⟩
theorem zlx {o : Oper} (hg : gval ops E o.guard = some false) (hd : o.dst = some d) (hN : Nat.blt d N = true) (hi : isSimple o = true) (k : S1 P K x N ops F (i + 1) ((d, undef) :: E) h Hs L nw) : S2 P K x N ops F i o E h Hs L nw := ⟨fun ho => N_skip ho hd hN hg hi k.out⟩
theorem M_skipA {o : Oper} (hg : gval ops E o.guard = some false) (hd : o.dst = some d) (hN : Nat.blt d N = true) (hi : isSimple o = false) (k : S1 P K x N ops F (i + 1) ((d, undef) :: E) h (h :: Hs) L nw) : S2 P K x N ops F i o E h Hs L nw := ⟨fun ho => N_skipA ho hd hN hg hi k.out⟩
theorem zae {a : Operand} {v : Value}  (hN : Nat.blt d N = true) (hg : gval ops E g = some true) (hk : opsOK P ⟨some d, .move a, ty, pos, af, g⟩ = true)
    (ha : E.ev a = some v) (k : R1 P K x N ops F (i + 1) ((d, v) :: E) h) : R2 P K x N ops F i ⟨some d, .move a, ty, pos, af, g⟩ E h := ⟨fun ho => O_move ho hN hg hk ha k.out⟩
theorem zac {a : Operand} {v : Value}  (hN : Nat.blt d N = true) (hg : gval ops E g = some true) (hk : opsOK P ⟨some d, .assign a, ty, pos, af, g⟩ = true)
    (ha : E.ev a = some v) (k : R1 P K x N ops F (i + 1) ((d, v) :: E) h) : R2 P K x N ops F i ⟨some d, .assign a, ty, pos, af, g⟩ E h := ⟨fun ho => O_assign ho hN hg hk ha k.out⟩
theorem zaJ {c a b : Operand} {t : Bool} {u v : Value}  (hN : Nat.blt d N = true) (hg : gval ops E g = some true) (hk : opsOK P ⟨some d, .pick c a b, ty, pos, af, g⟩ = true)
    (hc : E.ev c = some (.bool t)) (ha : E.ev a = some u) (hb : E.ev b = some v) (k : R1 P K x N ops F (i + 1) ((d, bif t then u else v) :: E) h) : R2 P K x N ops F i ⟨some d, .pick c a b, ty, pos, af, g⟩ E h := ⟨fun ho => O_pick ho hN hg hk hc ha hb k.out⟩
theorem zaV {t yt : TypeId} {a b : Operand} {m n : Int}  (hN : Nat.blt d N = true) (hg : gval ops E g = some true) (hk : opsOK P ⟨some d, .binOp .add t a b yt, ty, pos, af, g⟩ = true)
    (ha : E.ev a = some (.int .i64 m)) (hb : E.ev b = some (.int .i64 n)) (hf : fit (m + n)) (k : R1 P K x N ops F (i + 1) ((d, .int .i64 (m + n)) :: E) h) : R2 P K x N ops F i ⟨some d, .binOp .add t a b yt, ty, pos, af, g⟩ E h := ⟨fun ho => O_add ho hN hg hk ha hb hf k.out⟩
theorem zc8 {t yt : TypeId} {a b : Operand} {m n : Int}  (hN : Nat.blt d N = true) (hg : gval ops E g = some true) (hk : opsOK P ⟨some d, .binOp .sub t a b yt, ty, pos, af, g⟩ = true)
    (ha : E.ev a = some (.int .i64 m)) (hb : E.ev b = some (.int .i64 n)) (hf : fit (m - n)) (k : R1 P K x N ops F (i + 1) ((d, .int .i64 (m - n)) :: E) h) : R2 P K x N ops F i ⟨some d, .binOp .sub t a b yt, ty, pos, af, g⟩ E h := ⟨fun ho => O_sub ho hN hg hk ha hb hf k.out⟩
theorem zhN {t yt : TypeId} {a b : Operand} {m n : Int}  (hN : Nat.blt d N = true) (hg : gval ops E g = some true) (hk : opsOK P ⟨some d, .binOp .mul t a b yt, ty, pos, af, g⟩ = true)
    (ha : E.ev a = some (.int .i64 m)) (hb : E.ev b = some (.int .i64 n)) (hf : fit (m * n)) (k : R1 P K x N ops F (i + 1) ((d, .int .i64 (m * n)) :: E) h) : R2 P K x N ops F i ⟨some d, .binOp .mul t a b yt, ty, pos, af, g⟩ E h := ⟨fun ho => O_mul ho hN hg hk ha hb hf k.out⟩
theorem P_quo {t yt : TypeId} {a b : Operand} {m n : Int}  (hN : Nat.blt d N = true) (hg : gval ops E g = some true) (hk : opsOK P ⟨some d, .binOp .quo t a b yt, ty, pos, af, g⟩ = true)
    (ha : E.ev a = some (.int .i64 m)) (hb : E.ev b = some (.int .i64 n)) (hz : n ≠ 0) (hf : fit (m.tdiv n)) (k : R1 P K x N ops F (i + 1) ((d, .int .i64 (m.tdiv n)) :: E) h) : R2 P K x N ops F i ⟨some d, .binOp .quo t a b yt, ty, pos, af, g⟩ E h := ⟨fun ho => O_quo ho hN hg hk ha hb hz hf k.out⟩
theorem zjI {t yt : TypeId} {a b : Operand} {m n : Int}  (hN : Nat.blt d N = true) (hg : gval ops E g = some true) (hk : opsOK P ⟨some d, .binOp .rem t a b yt, ty, pos, af, g⟩ = true)
    (ha : E.ev a = some (.int .i64 m)) (hb : E.ev b = some (.int .i64 n)) (hz : n ≠ 0) (k : R1 P K x N ops F (i + 1) ((d, .int .i64 (m.tmod n)) :: E) h) : R2 P K x N ops F i ⟨some d, .binOp .rem t a b yt, ty, pos, af, g⟩ E h := ⟨fun ho => O_rem ho hN hg hk ha hb hz k.out⟩
theorem P_lss {t yt : TypeId} {a b : Operand} {m n : Int}  (hN : Nat.blt d N = true) (hg : gval ops E g = some true) (hk : opsOK P ⟨some d, .binOp .lss t a b yt, ty, pos, af, g⟩ = true)
    (ha : E.ev a = some (.int .i64 m)) (hb : E.ev b = some (.int .i64 n)) (kt : m < n → R1 P K x N ops F (i + 1) ((d, .bool true) :: E) h) (kf : ¬ m < n → R1 P K x N ops F (i + 1) ((d, .bool false) :: E) h) : R2 P K x N ops F i ⟨some d, .binOp .lss t a b yt, ty, pos, af, g⟩ E h := ⟨fun ho => O_lss ho hN hg hk ha hb (fun a0 => (kt a0).out) (fun a0 => (kf a0).out)⟩
theorem zjJ {t yt : TypeId} {a b : Operand} {m n : Int}  (hN : Nat.blt d N = true) (hg : gval ops E g = some true) (hk : opsOK P ⟨some d, .binOp .leq t a b yt, ty, pos, af, g⟩ = true)
    (ha : E.ev a = some (.int .i64 m)) (hb : E.ev b = some (.int .i64 n)) (kt : m ≤ n → R1 P K x N ops F (i + 1) ((d, .bool true) :: E) h) (kf : ¬ m ≤ n → R1 P K x N ops F (i + 1) ((d, .bool false) :: E) h) : R2 P K x N ops F i ⟨some d, .binOp .leq t a b yt, ty, pos, af, g⟩ E h := ⟨fun ho => O_leq ho hN hg hk ha hb (fun a0 => (kt a0).out) (fun a0 => (kf a0).out)⟩
theorem P_gtr {t yt : TypeId} {a b : Operand} {m n : Int}  (hN : Nat.blt d N = true) (hg : gval ops E g = some true) (hk : opsOK P ⟨some d, .binOp .gtr t a b yt, ty, pos, af, g⟩ = true)
    (ha : E.ev a = some (.int .i64 m)) (hb : E.ev b = some (.int .i64 n)) (kt : m > n → R1 P K x N ops F (i + 1) ((d, .bool true) :: E) h) (kf : ¬ m > n → R1 P K x N ops F (i + 1) ((d, .bool false) :: E) h) : R2 P K x N ops F i ⟨some d, .binOp .gtr t a b yt, ty, pos, af, g⟩ E h := ⟨fun ho => O_gtr ho hN hg hk ha hb (fun a0 => (kt a0).out) (fun a0 => (kf a0).out)⟩
theorem zls {t yt : TypeId} {a b : Operand} {m n : Int}  (hN : Nat.blt d N = true) (hg : gval ops E g = some true) (hk : opsOK P ⟨some d, .binOp .geq t a b yt, ty, pos, af, g⟩ = true)
    (ha : E.ev a = some (.int .i64 m)) (hb : E.ev b = some (.int .i64 n)) (kt : m ≥ n → R1 P K x N ops F (i + 1) ((d, .bool true) :: E) h) (kf : ¬ m ≥ n → R1 P K x N ops F (i + 1) ((d, .bool false) :: E) h) : R2 P K x N ops F i ⟨some d, .binOp .geq t a b yt, ty, pos, af, g⟩ E h := ⟨fun ho => O_geq ho hN hg hk ha hb (fun a0 => (kt a0).out) (fun a0 => (kf a0).out)⟩
theorem P_eql {t yt : TypeId} {a b : Operand} {m n : Int}  (hN : Nat.blt d N = true) (hg : gval ops E g = some true) (hk : opsOK P ⟨some d, .binOp .eql t a b yt, ty, pos, af, g⟩ = true)
    (ha : E.ev a = some (.int .i64 m)) (hb : E.ev b = some (.int .i64 n)) (kt : m = n → R1 P K x N ops F (i + 1) ((d, .bool true) :: E) h) (kf : ¬ m = n → R1 P K x N ops F (i + 1) ((d, .bool false) :: E) h) : R2 P K x N ops F i ⟨some d, .binOp .eql t a b yt, ty, pos, af, g⟩ E h := ⟨fun ho => O_eql ho hN hg hk ha hb (fun a0 => (kt a0).out) (fun a0 => (kf a0).out)⟩
theorem P_neq {t yt : TypeId} {a b : Operand} {m n : Int}  (hN : Nat.blt d N = true) (hg : gval ops E g = some true) (hk : opsOK P ⟨some d, .binOp .neq t a b yt, ty, pos, af, g⟩ = true)
    (ha : E.ev a = some (.int .i64 m)) (hb : E.ev b = some (.int .i64 n)) (kt : ¬ m = n → R1 P K x N ops F (i + 1) ((d, .bool true) :: E) h) (kf : m = n → R1 P K x N ops F (i + 1) ((d, .bool false) :: E) h) : R2 P K x N ops F i ⟨some d, .binOp .neq t a b yt, ty, pos, af, g⟩ E h := ⟨fun ho => O_neq ho hN hg hk ha hb (fun a0 => (kt a0).out) (fun a0 => (kf a0).out)⟩
theorem zbf {t : TypeId} {a : Operand} {b : Bool}  (hN : Nat.blt d N = true) (hg : gval ops E g = some true) (hk : opsOK P ⟨some d, .unOp .not t a, ty, pos, af, g⟩ = true)
    (ha : E.ev a = some (.bool b)) (k : R1 P K x N ops F (i + 1) ((d, .bool (!b)) :: E) h) : R2 P K x N ops F i ⟨some d, .unOp .not t a, ty, pos, af, g⟩ E h := ⟨fun ho => O_not ho hN hg hk ha k.out⟩
theorem zhO {t : TypeId} {a : Operand} {f : Nat} {fs : Array Field} {fd : Field} {n b o : Nat}  (hN : Nat.blt d N = true) (hg : gval ops E g = some true) (hk : opsOK P ⟨some d, .fieldAddr t a f, ty, pos, af, g⟩ = true)
    (ha : E.ev a = some (.pointer (some ⟨b, o, none⟩))) (hfs : fieldsOf P t = some fs) (hfd : fs[f]? = some fd) (hs : sizeB P fd.type = some (n + 1)) (k : R1 P K x N ops F (i + 1) ((d, .pointer (some ⟨b, o + fd.offset, none⟩)) :: E) h) : R2 P K x N ops F i ⟨some d, .fieldAddr t a f, ty, pos, af, g⟩ E h := ⟨fun ho => zhP ho hN hg hk ha hfs hfd hs k.out⟩
theorem zan {t : TypeId} {a : Operand} {b o : Nat} {c : List Value} {e : TypeId} {own : Bool} {v : Value}  (hN : Nat.blt d N = true) (hg : gval ops E g = some true) (hk : opsOK P ⟨some d, .load t a, ty, pos, af, g⟩ = true)
    (ha : E.ev a = some (.pointer (some ⟨b, o, none⟩))) (ht : one P t = true) (hb : h.get? b = some (.cells c e own)) (hv : c[o]? = some v) (k : R1 P K x N ops F (i + 1) ((d, v) :: E) h) : R2 P K x N ops F i ⟨some d, .load t a, ty, pos, af, g⟩ E h := ⟨fun ho => O_load1 ho hN hg hk ha ht hb hv k.out⟩
theorem zaF {t : TypeId} {a : Operand} {b o n : Nat} {c : List Value} {e : TypeId} {own : Bool} {vs : List Value}  (hN : Nat.blt d N = true) (hg : gval ops E g = some true) (hk : opsOK P ⟨some d, .load t a, ty, pos, af, g⟩ = true)
    (ha : E.ev a = some (.pointer (some ⟨b, o, none⟩))) (ht : aggN P t = some n) (hb : h.get? b = some (.cells c e own)) (hl : o + n ≤ c.length) (hv : (c.drop o).take n = vs) (k : R1 P K x N ops F (i + 1) ((d, .agg vs.toArray) :: E) h) : R2 P K x N ops F i ⟨some d, .load t a, ty, pos, af, g⟩ E h := ⟨fun ho => O_loadA ho hN hg hk ha ht hb hl hv k.out⟩
theorem P_idx {t e : TypeId} {a j : Operand} {b o len cap n : Nat} {ik : IntKind} {q : Int}  (hN : Nat.blt d N = true) (hg : gval ops E g = some true) (hk : opsOK P ⟨some d, .indexAddr t a j, ty, pos, af, g⟩ = true)
    (ha : E.ev a = some (.slice (some ⟨b, o, none⟩) len cap)) (hj : E.ev j = some (.int ik q)) (hu : P.underlying t = some (.slice e)) (hs : sizeB P e = some n) (h0 : 0 ≤ q) (h1 : q < len) (k : R1 P K x N ops F (i + 1) ((d, .pointer (some ⟨b, o + q.toNat * n, none⟩)) :: E) h) : R2 P K x N ops F i ⟨some d, .indexAddr t a j, ty, pos, af, g⟩ E h := ⟨fun ho => O_idx ho hN hg hk ha hj hu hs h0 h1 k.out⟩
theorem zaN {args : Array Operand} {ts : Array TypeId} {t e : TypeId} {a : Operand} {p : Option Addr} {n c : Nat}  (hN : Nat.blt d N = true) (hg : gval ops E g = some true) (hk : opsOK P ⟨some d, .call ⟨.builtin .len, args, ts⟩, ty, pos, af, g⟩ = true)
    (hts : ts[0]? = some t) (has : args[0]? = some a) (ha : E.ev a = some (.slice p n c)) (hu : P.underlying t = some (.slice e)) (k : R1 P K x N ops F (i + 1) ((d, .int .i64 n) :: E) h) : R2 P K x N ops F i ⟨some d, .call ⟨.builtin .len, args, ts⟩, ty, pos, af, g⟩ E h := ⟨fun ho => O_len ho hN hg hk hts has ha hu k.out⟩
theorem zba {a : Operand} {j : Nat} {vs : Array Value} {v : Value}  (hN : Nat.blt d N = true) (hg : gval ops E g = some true) (hk : opsOK P ⟨some d, .extract a j, ty, pos, af, g⟩ = true)
    (ha : E.ev a = some (.tuple vs)) (hv : vs[j]? = some v) (k : R1 P K x N ops F (i + 1) ((d, v) :: E) h) : R2 P K x N ops F i ⟨some d, .extract a j, ty, pos, af, g⟩ E h := ⟨fun ho => zlt ho hN hg hk ha hv k.out⟩
theorem za4 {t : TypeId} {a : Operand} {v : Value} {n : Nat}  (hN : Nat.blt d N = true) (hg : gval ops E g = some true) (hk : opsOK P ⟨some d, .box t a, ty, pos, af, g⟩ = true)
    (ha : E.ev a = some v) (hs : sizeB P t = some n) (hc : v.cells.size = n) (hone : v.cells.toList.all oneB = true) (k : R1 P K x N ops F (i + 1) ((d, .pointer (some ⟨h.n, 0, none⟩)) :: E) (h.push (.cells v.cells.toList t true))) : R2 P K x N ops F i ⟨some d, .box t a, ty, pos, af, g⟩ E h := ⟨fun ho => O_box ho hN hg hk ha hs hc hone k.out⟩
theorem zbi {t : TypeId} {z : Value} {n : Nat}  (hN : Nat.blt d N = true) (hg : gval ops E g = some true) (hk : opsOK P ⟨some d, .alloc t, ty, pos, af, g⟩ = true)
    (hz : zeroB P t = some z) (hs : sizeB P t = some n) (hc : z.cells.size = n) (hone : z.cells.toList.all oneB = true) (k : R1 P K x N ops F (i + 1) ((d, .pointer (some ⟨h.n, 0, none⟩)) :: E) (h.push (.cells z.cells.toList t true))) : R2 P K x N ops F i ⟨some d, .alloc t, ty, pos, af, g⟩ E h := ⟨fun ho => O_alloc ho hN hg hk hz hs hc hone k.out⟩
theorem zfA {t : TypeId} {a y : Operand} {b o n : Nat} {c : List Value} {e : TypeId} {v : Value}  (hg : gval ops E g = some true) (hk : opsOK P ⟨none, .store t a y, ty, pos, af, g⟩ = true)
    (ha : E.ev a = some (.pointer (some ⟨b, o, none⟩))) (hy : E.ev y = some v) (hb : h.get? b = some (.cells c e true)) (hs : sizeB P t = some n) (hc : v.cells.size = n) (hl : o + n ≤ c.length) (hone : v.cells.toList.all oneB = true)
    (k : R1 P K x N ops F (i + 1) E (h.set b (.cells (splice c o v.cells.toList) e true))) : R2 P K x N ops F i ⟨none, .store t a y, ty, pos, af, g⟩ E h := ⟨fun ho => O_store ho hg hk ha hy hb hs hc hl hone k.out⟩
theorem zaj {fo : Operand} {args : Array Operand} {ts : Array TypeId} {f : FuncId} {fi ca : Array Value} {vs : List Value} {G : Value → Heap → Prop}  (hN : Nat.blt d N = true) (hg : gval ops E g = some true) (hk : opsOK P ⟨some d, .call ⟨.value fo, args, ts⟩, ty, pos, af, g⟩ = true)
    (hf : E.ev fo = some (.func (.func f) fi ca)) (hargs : E.evs args.toList = some vs) (hen : enters P f = true) (hc : CallW P K f (fi ++ vs.toArray ++ ca) h G) (k : ∀ v h1, G v h1 → R1 P K x N ops F (i + 1) ((d, v) :: E) h1) : R2 P K x N ops F i ⟨some d, .call ⟨.value fo, args, ts⟩, ty, pos, af, g⟩ E h := ⟨fun ho => O_call ho hN hg hk hf hargs hen hc (fun a0 a1 a2 => (k a0 a1 a2).out)⟩
theorem zaz {a : Operand} {v : Value}  (hN : Nat.blt d N = true) (hg : gval ops E g = some true) (hk : opsOK P ⟨some d, .move a, ty, pos, af, g⟩ = true)
    (ha : E.ev a = some v) (k : S1 P K x N ops F (i + 1) ((d, v) :: E) h Hs L nw) : S2 P K x N ops F i ⟨some d, .move a, ty, pos, af, g⟩ E h Hs L nw := ⟨fun ho => N_move ho hN hg hk ha k.out⟩
theorem zaD {a : Operand} {v : Value}  (hN : Nat.blt d N = true) (hg : gval ops E g = some true) (hk : opsOK P ⟨some d, .assign a, ty, pos, af, g⟩ = true)
    (ha : E.ev a = some v) (k : S1 P K x N ops F (i + 1) ((d, v) :: E) h Hs L nw) : S2 P K x N ops F i ⟨some d, .assign a, ty, pos, af, g⟩ E h Hs L nw := ⟨fun ho => N_assign ho hN hg hk ha k.out⟩
theorem zgJ {c a b : Operand} {t : Bool} {u v : Value}  (hN : Nat.blt d N = true) (hg : gval ops E g = some true) (hk : opsOK P ⟨some d, .pick c a b, ty, pos, af, g⟩ = true)
    (hc : E.ev c = some (.bool t)) (ha : E.ev a = some u) (hb : E.ev b = some v) (k : S1 P K x N ops F (i + 1) ((d, bif t then u else v) :: E) h Hs L nw) : S2 P K x N ops F i ⟨some d, .pick c a b, ty, pos, af, g⟩ E h Hs L nw := ⟨fun ho => N_pick ho hN hg hk hc ha hb k.out⟩
theorem zeI {t yt : TypeId} {a b : Operand} {m n : Int}  (hN : Nat.blt d N = true) (hg : gval ops E g = some true) (hk : opsOK P ⟨some d, .binOp .sub t a b yt, ty, pos, af, g⟩ = true)
    (ha : E.ev a = some (.int .i64 m)) (hb : E.ev b = some (.int .i64 n)) (hf : fit (m - n)) (k : S1 P K x N ops F (i + 1) ((d, .int .i64 (m - n)) :: E) h Hs L nw) : S2 P K x N ops F i ⟨some d, .binOp .sub t a b yt, ty, pos, af, g⟩ E h Hs L nw := ⟨fun ho => N_sub ho hN hg hk ha hb hf k.out⟩
theorem M_mul {t yt : TypeId} {a b : Operand} {m n : Int}  (hN : Nat.blt d N = true) (hg : gval ops E g = some true) (hk : opsOK P ⟨some d, .binOp .mul t a b yt, ty, pos, af, g⟩ = true)
    (ha : E.ev a = some (.int .i64 m)) (hb : E.ev b = some (.int .i64 n)) (hf : fit (m * n)) (k : S1 P K x N ops F (i + 1) ((d, .int .i64 (m * n)) :: E) h Hs L nw) : S2 P K x N ops F i ⟨some d, .binOp .mul t a b yt, ty, pos, af, g⟩ E h Hs L nw := ⟨fun ho => N_mul ho hN hg hk ha hb hf k.out⟩
theorem M_lss {t yt : TypeId} {a b : Operand} {m n : Int}  (hN : Nat.blt d N = true) (hg : gval ops E g = some true) (hk : opsOK P ⟨some d, .binOp .lss t a b yt, ty, pos, af, g⟩ = true)
    (ha : E.ev a = some (.int .i64 m)) (hb : E.ev b = some (.int .i64 n)) (kt : m < n → S1 P K x N ops F (i + 1) ((d, .bool true) :: E) h Hs L nw) (kf : ¬ m < n → S1 P K x N ops F (i + 1) ((d, .bool false) :: E) h Hs L nw) : S2 P K x N ops F i ⟨some d, .binOp .lss t a b yt, ty, pos, af, g⟩ E h Hs L nw := ⟨fun ho => N_lss ho hN hg hk ha hb (fun a0 => (kt a0).out) (fun a0 => (kf a0).out)⟩
theorem M_leq {t yt : TypeId} {a b : Operand} {m n : Int}  (hN : Nat.blt d N = true) (hg : gval ops E g = some true) (hk : opsOK P ⟨some d, .binOp .leq t a b yt, ty, pos, af, g⟩ = true)
    (ha : E.ev a = some (.int .i64 m)) (hb : E.ev b = some (.int .i64 n)) (kt : m ≤ n → S1 P K x N ops F (i + 1) ((d, .bool true) :: E) h Hs L nw) (kf : ¬ m ≤ n → S1 P K x N ops F (i + 1) ((d, .bool false) :: E) h Hs L nw) : S2 P K x N ops F i ⟨some d, .binOp .leq t a b yt, ty, pos, af, g⟩ E h Hs L nw := ⟨fun ho => N_leq ho hN hg hk ha hb (fun a0 => (kt a0).out) (fun a0 => (kf a0).out)⟩
theorem M_gtr {t yt : TypeId} {a b : Operand} {m n : Int}  (hN : Nat.blt d N = true) (hg : gval ops E g = some true) (hk : opsOK P ⟨some d, .binOp .gtr t a b yt, ty, pos, af, g⟩ = true)
    (ha : E.ev a = some (.int .i64 m)) (hb : E.ev b = some (.int .i64 n)) (kt : m > n → S1 P K x N ops F (i + 1) ((d, .bool true) :: E) h Hs L nw) (kf : ¬ m > n → S1 P K x N ops F (i + 1) ((d, .bool false) :: E) h Hs L nw) : S2 P K x N ops F i ⟨some d, .binOp .gtr t a b yt, ty, pos, af, g⟩ E h Hs L nw := ⟨fun ho => N_gtr ho hN hg hk ha hb (fun a0 => (kt a0).out) (fun a0 => (kf a0).out)⟩
theorem M_eql {t yt : TypeId} {a b : Operand} {m n : Int}  (hN : Nat.blt d N = true) (hg : gval ops E g = some true) (hk : opsOK P ⟨some d, .binOp .eql t a b yt, ty, pos, af, g⟩ = true)
    (ha : E.ev a = some (.int .i64 m)) (hb : E.ev b = some (.int .i64 n)) (kt : m = n → S1 P K x N ops F (i + 1) ((d, .bool true) :: E) h Hs L nw) (kf : ¬ m = n → S1 P K x N ops F (i + 1) ((d, .bool false) :: E) h Hs L nw) : S2 P K x N ops F i ⟨some d, .binOp .eql t a b yt, ty, pos, af, g⟩ E h Hs L nw := ⟨fun ho => N_eql ho hN hg hk ha hb (fun a0 => (kt a0).out) (fun a0 => (kf a0).out)⟩
theorem M_neq {t yt : TypeId} {a b : Operand} {m n : Int}  (hN : Nat.blt d N = true) (hg : gval ops E g = some true) (hk : opsOK P ⟨some d, .binOp .neq t a b yt, ty, pos, af, g⟩ = true)
    (ha : E.ev a = some (.int .i64 m)) (hb : E.ev b = some (.int .i64 n)) (kt : ¬ m = n → S1 P K x N ops F (i + 1) ((d, .bool true) :: E) h Hs L nw) (kf : m = n → S1 P K x N ops F (i + 1) ((d, .bool false) :: E) h Hs L nw) : S2 P K x N ops F i ⟨some d, .binOp .neq t a b yt, ty, pos, af, g⟩ E h Hs L nw := ⟨fun ho => N_neq ho hN hg hk ha hb (fun a0 => (kt a0).out) (fun a0 => (kf a0).out)⟩
theorem zhR {t : TypeId} {a : Operand} {f : Nat} {fs : Array Field} {fd : Field} {n b o : Nat}  (hN : Nat.blt d N = true) (hg : gval ops E g = some true) (hk : opsOK P ⟨some d, .fieldAddr t a f, ty, pos, af, g⟩ = true)
    (ha : E.ev a = some (.pointer (some ⟨b, o, none⟩))) (hfs : fieldsOf P t = some fs) (hfd : fs[f]? = some fd) (hs : sizeB P fd.type = some (n + 1)) (k : S1 P K x N ops F (i + 1) ((d, .pointer (some ⟨b, o + fd.offset, none⟩)) :: E) h Hs L nw) : S2 P K x N ops F i ⟨some d, .fieldAddr t a f, ty, pos, af, g⟩ E h Hs L nw := ⟨fun ho => zhQ ho hN hg hk ha hfs hfd hs k.out⟩
theorem M_idx {t e : TypeId} {a j : Operand} {b o len cap n : Nat} {ik : IntKind} {q : Int}  (hN : Nat.blt d N = true) (hg : gval ops E g = some true) (hk : opsOK P ⟨some d, .indexAddr t a j, ty, pos, af, g⟩ = true)
    (ha : E.ev a = some (.slice (some ⟨b, o, none⟩) len cap)) (hj : E.ev j = some (.int ik q)) (hu : P.underlying t = some (.slice e)) (hs : sizeB P e = some n) (h0 : 0 ≤ q) (h1 : q < len) (k : S1 P K x N ops F (i + 1) ((d, .pointer (some ⟨b, o + q.toNat * n, none⟩)) :: E) h Hs L nw) : S2 P K x N ops F i ⟨some d, .indexAddr t a j, ty, pos, af, g⟩ E h Hs L nw := ⟨fun ho => N_idx ho hN hg hk ha hj hu hs h0 h1 k.out⟩
theorem zlC {a : Operand} {j : Nat} {vs : Array Value} {v : Value}  (hN : Nat.blt d N = true) (hg : gval ops E g = some true) (hk : opsOK P ⟨some d, .extract a j, ty, pos, af, g⟩ = true)
    (ha : E.ev a = some (.tuple vs)) (hv : vs[j]? = some v) (k : S1 P K x N ops F (i + 1) ((d, v) :: E) h Hs L nw) : S2 P K x N ops F i ⟨some d, .extract a j, ty, pos, af, g⟩ E h Hs L nw := ⟨fun ho => zlI ho hN hg hk ha hv k.out⟩
theorem zce {t : TypeId} {a : Operand} {b o : Nat} {c : List Value} {e : TypeId} {own : Bool} {v : Value}  (hN : Nat.blt d N = true) (hg : gval ops E g = some true) (hk : opsOK P ⟨some d, .load t a, ty, pos, af, g⟩ = true)
    (ha : E.ev a = some (.pointer (some ⟨b, o, none⟩))) (ht : one P t = true) (hb : h.get? b = some (.cells c e own)) (hv : c[o]? = some v) (hsm : same 20 v v = true) (hw : within 20 h.n v = true) (k : S1 P K x N ops F (i + 1) ((d, v) :: E) h Hs (fun hs => L hs ∧ Keeps hs b h) nw) : S2 P K x N ops F i ⟨some d, .load t a, ty, pos, af, g⟩ E h Hs L nw := ⟨fun ho => N_load1 ho hN hg hk ha ht hb hv hsm hw k.out⟩
theorem zcN {t : TypeId} {a : Operand} {b o n : Nat} {c : List Value} {e : TypeId} {own : Bool} {vs : List Value}  (hN : Nat.blt d N = true) (hg : gval ops E g = some true) (hk : opsOK P ⟨some d, .load t a, ty, pos, af, g⟩ = true)
    (ha : E.ev a = some (.pointer (some ⟨b, o, none⟩))) (ht : aggN P t = some n) (hb : h.get? b = some (.cells c e own)) (hl : o + n ≤ c.length) (hv : (c.drop o).take n = vs) (hsm : same 20 (.agg vs.toArray) (.agg vs.toArray) = true) (hw : within 20 h.n (.agg vs.toArray) = true) (k : S1 P K x N ops F (i + 1) ((d, .agg vs.toArray) :: E) h Hs (fun hs => L hs ∧ Keeps hs b h) nw) : S2 P K x N ops F i ⟨some d, .load t a, ty, pos, af, g⟩ E h Hs L nw := ⟨fun ho => N_loadA ho hN hg hk ha ht hb hl hv hsm hw k.out⟩
theorem zbU {t : TypeId} {a : Operand} {b o : Nat} {c : List Value} {e : TypeId} {own : Bool} {v : Value}  (hN : Nat.blt d N = true) (hg : gval ops E g = some true) (hk : opsOK P ⟨some d, .load t a, ty, pos, af, g⟩ = true)
    (ha : E.ev a = some (.pointer (some ⟨b, o, none⟩))) (ht : one P t = true) (hz : actsMost ops (preds ops.toList) i = 0) (hb : h.get? b = some (.cells c e own)) (hv : c[o]? = some v) (hsm : same 20 v v = true) (hw : within 20 h.n v = true) (k : S1 P K x N ops F (i + 1) ((d, v) :: E) h Hs (fun hs => L hs ∧ hs.getLast? = some h) nw) : S2 P K x N ops F i ⟨some d, .load t a, ty, pos, af, g⟩ E h Hs L nw := ⟨fun ho => N_load1E ho hN hg hk ha ht hz hb hv hsm hw k.out⟩
theorem ziL {t : TypeId} {a : Operand} {b o n : Nat} {c : List Value} {e : TypeId} {own : Bool} {vs : List Value}  (hN : Nat.blt d N = true) (hg : gval ops E g = some true) (hk : opsOK P ⟨some d, .load t a, ty, pos, af, g⟩ = true)
    (ha : E.ev a = some (.pointer (some ⟨b, o, none⟩))) (ht : aggN P t = some n) (hz : actsMost ops (preds ops.toList) i = 0) (hb : h.get? b = some (.cells c e own)) (hl : o + n ≤ c.length) (hv : (c.drop o).take n = vs) (hsm : same 20 (.agg vs.toArray) (.agg vs.toArray) = true) (hw : within 20 h.n (.agg vs.toArray) = true) (k : S1 P K x N ops F (i + 1) ((d, .agg vs.toArray) :: E) h Hs (fun hs => L hs ∧ hs.getLast? = some h) nw) : S2 P K x N ops F i ⟨some d, .load t a, ty, pos, af, g⟩ E h Hs L nw := ⟨fun ho => N_loadAE ho hN hg hk ha ht hz hb hl hv hsm hw k.out⟩
theorem zcf {args : Array Operand} {ts : Array TypeId} {t e : TypeId} {a : Operand} {p : Option Addr} {n c : Nat}  (hN : Nat.blt d N = true) (hg : gval ops E g = some true) (hk : opsOK P ⟨some d, .call ⟨.builtin .len, args, ts⟩, ty, pos, af, g⟩ = true)
    (hts : ts[0]? = some t) (has : args[0]? = some a) (ha : E.ev a = some (.slice p n c)) (hu : P.underlying t = some (.slice e)) (k : S1 P K x N ops F (i + 1) ((d, .int .i64 n) :: E) h Hs L nw) : S2 P K x N ops F i ⟨some d, .call ⟨.builtin .len, args, ts⟩, ty, pos, af, g⟩ E h Hs L nw := ⟨fun ho => N_len ho hN hg hk hts has ha hu k.out⟩
theorem za8 {fo : Operand} {args : Array Operand} {ts : Array TypeId} {f : FuncId} {fi ca : Array Value} {vs : List Value} {G : Value → Heap → Prop}  (hN : Nat.blt d N = true) (hg : gval ops E g = some true) (hk : opsOK P ⟨some d, .call ⟨.value fo, args, ts⟩, ty, pos, af, g⟩ = true)
    (hf : E.ev fo = some (.func (.func f) fi ca)) (hargs : E.evs args.toList = some vs) (hen : enters P f = true) (hnw : unseen (preds ops.toList) nw i = []) (hc : CallW P K f (fi ++ vs.toArray ++ ca) h G) (k : ∀ v h1, G v h1 → S1 P K x N ops F (i + 1) ((d, v) :: E) h1 (h1 :: Hs) L nw) : S2 P K x N ops F i ⟨some d, .call ⟨.value fo, args, ts⟩, ty, pos, af, g⟩ E h Hs L nw := ⟨fun ho => N_call ho hN hg hk hf hargs hen hnw hc (fun a0 a1 a2 => (k a0 a1 a2).out)⟩
theorem zlw {t : TypeId} {a y : Operand} {b o n : Nat} {c : List Value} {e : TypeId} {v : Value}  (hg : gval ops E g = some true) (hk : opsOK P ⟨none, .store t a y, ty, pos, af, g⟩ = true)
    (ha : E.ev a = some (.pointer (some ⟨b, o, none⟩))) (hy : E.ev y = some v) (hb : h.get? b = some (.cells c e true)) (hs' : sizeB P t = some n) (hc : v.cells.size = n) (hl : o + n ≤ c.length) (hone : v.cells.toList.all oneB = true) (hnw : unseen (preds ops.toList) nw i = [])
    (k : S1 P K x N ops F (i + 1) E (h.set b (.cells (splice c o v.cells.toList) e true)) (h.set b (.cells (splice c o v.cells.toList) e true) :: Hs) L nw) : S2 P K x N ops F i ⟨none, .store t a y, ty, pos, af, g⟩ E h Hs L nw := ⟨fun ho => N_store ho hg hk ha hy hb hs' hc hl hone hnw k.out⟩
end
end Go.AX

namespace Go.AX
structure Ext (h h1 : Heap) : Prop where
  n : h.n ≤ h1.n
  get' : ∀ b x, h.get? b = some x → h1.get? b = some x
theorem Ext.get {h h1 : Heap} {b : Nat} {x : Blk} (e : Ext h h1) (g : h.get? b = some x) : h1.get? b = some x := e.get' b x g
theorem Ext.refl (h : Heap) : Ext h h := ⟨Nat.le_refl _, fun _ _ g => g⟩
theorem Ext.trans {a b c : Heap} (h : Ext a b) (k : Ext b c) : Ext a c := ⟨Nat.le_trans h.n k.n, fun _ _ g => k.get (h.get g)⟩
theorem zaa {h : Heap} {b : Blk} : (h.push b).get? h.n = some b := by rw [Heap.get_push, if_pos rfl]
theorem zab {h : Heap} {b c : Blk} {i : Nat} (g : h.get? i = some b) : (h.push c).get? i = some b := by
  have := Heap.get_lt g
  rw [Heap.get_push, if_neg (by omega)]; exact g
theorem Ext.push {h h1 : Heap} (e : Ext h h1) (b : Blk) : Ext h (h1.push b) := ⟨Nat.le_succ_of_le e.n, fun _ _ g => zab (e.get g)⟩
theorem zbz {h : Heap} {b c : Blk} {i : Nat} (g : h.get? i = some b) : (h.set i c).get? i = some c := by rw [Heap.get_set g, if_pos rfl]
theorem zbD {h : Heap} {b c x : Blk} {i j : Nat} (g : h.get? i = some b) (hne : j ≠ i) (k : h.get? j = some x) : (h.set i c).get? j = some x := by rw [Heap.get_set g, if_neg hne]; exact k
structure ExtBut (b : Nat) (h h1 : Heap) : Prop where
  n : h.n ≤ h1.n
  get' : ∀ c x, c ≠ b → h.get? c = some x → h1.get? c = some x
theorem ExtBut.get {h h1 : Heap} {b c : Nat} {x : Blk} (e : ExtBut b h h1) (hne : c ≠ b) (g : h.get? c = some x) : h1.get? c = some x := e.get' c x hne g
theorem ExtBut.refl (b : Nat) (h : Heap) : ExtBut b h h := ⟨Nat.le_refl _, fun _ _ _ g => g⟩
theorem ExtBut.set {b : Nat} {h h1 : Heap} {x : Blk} (e : ExtBut b h h1) (g : h1.get? b = some x) (y : Blk) : ExtBut b h (h1.set b y) :=
  ⟨e.n, fun _ _ hne k => zbD g hne (e.get hne k)⟩
theorem Ext.but {h h1 : Heap} (e : Ext h h1) (b : Nat) : ExtBut b h h1 := ⟨e.n, fun _ _ _ g => e.get g⟩
theorem ExtBut.trans {b : Nat} {a c d : Heap} (h : ExtBut b a c) (k : ExtBut b c d) : ExtBut b a d := ⟨Nat.le_trans h.n k.n, fun _ _ hne g => k.get hne (h.get hne g)⟩
theorem Ext.set {h h1 : Heap} (e : Ext h h1) {b : Nat} (hb : h.n ≤ b) {x : Blk} (g : h1.get? b = some x) (y : Blk) : Ext h (h1.set b y) :=
  ⟨e.n, fun c z k => zbD g (fun q => by have := Heap.get_lt k; omega) (e.get k)⟩
theorem Ext.ofBut {b : Nat} {h h1 h2 : Heap} (e : Ext h h1) (k : ExtBut b h1 h2) (hb : h.n ≤ b) : Ext h h2 :=
  ⟨Nat.le_trans e.n k.n, fun c z g => k.get (fun q => by have := Heap.get_lt g; omega) (e.get g)⟩
def IfB (p : Prop) (h : Heap) (v : Value) (h1 : Heap) : Prop := (v = .bool true ∧ p ∧ Ext h h1) ∨ (v = .bool false ∧ ¬ p ∧ Ext h h1)
def IsV (u : Value) (h : Heap) (v : Value) (h1 : Heap) : Prop := v = u ∧ Ext h h1
def ints (l : List Int) : List Value := l.map fun n => .int .i64 n
structure Reads (h : Heap) (v : Value) (c : List Value) (n : Nat) : Prop where
  isIt : (n = 0 ∧ v = .slice none 0 0) ∨ ∃ b o cap all e own, v = .slice (some ⟨b, o, none⟩) n cap ∧ h.get? b = some (.cells all e own) ∧ (all.drop o).take c.length = c ∧ o + c.length ≤ all.length
section
variable {P : Program} {K : Known}
theorem CallW.to {f : FuncId} {args : Array Value} {h : Heap} {G G' : Value → Heap → Prop} (c : CallW P K f args h G) (k : ∀ v h1, G v h1 → G' v h1) : CallW P K f args h G' := c.mono k
end
end Go.AX

namespace Go.AX
def EnvSub (E : Env) : Env → Prop
  | [] => True
  | (t, v) :: l => E.get t = some v ∧ EnvSub E l
theorem EnvSub.all {E : Env} : ∀ {l : Env}, EnvSub E l → ∀ p ∈ l, E.get p.1 = some p.2 := by
  intro l
  induction l with
  | nil => intro _ p q; cases q
  | cons a l ih =>
    intro h p q
    rcases List.mem_cons.1 q with rfl | q
    · exact h.1
    · exact ih h.2 p q
section
variable {P : Program} {K : Known} {x : Ctx} {N : Nat} {E : Env} {h : Heap} {Q : Ex → Env → Heap → Prop} {ks : List Kt}
theorem zaT {α : Type} {b : Code} (env : α → Env) (J : α → Heap → Prop) (μ : α → Nat)
    (hstep : ∀ a h, J a h → (∀ a' h', μ a' < μ a → J a' h' → K1 P K x N Q (.loop b) ks (env a') h') → K1 P K x N Q b (.loop b :: ks) (env a) h)
    (a : α) (hJ : J a h) (hs : EnvSub E (env a)) : K1 P K x N Q (.loop b) ks E h := by
  refine K_weak hs.all ?_
  have key : ∀ m a h, μ a = m → J a h → K1 P K x N Q (.loop b) ks (env a) h := by
    intro m
    induction m using Nat.strongRecOn with
    | ind m ih => exact fun a h hm hJ => K_loop (hstep a h hJ fun a' h' hlt hJ' => ih (μ a') (by omega) a' h' rfl hJ')
  exact key _ a h rfl hJ
theorem zax {b : Code} {E' : Env} (H : K1 P K x N Q (.loop b) ks E' h) (hs : EnvSub E E') : C1 P K x N Q (.loop b :: ks) .normal E h := C_loop (K_weak hs.all H)
variable {ops : Array Oper} {F : Ex → Env → Heap → Prop} {i : Nat} {Hs : List Heap} {L : List Heap → Prop} {nw : List (Nat × Nat × Blk)}
variable {d : Nat} {ty : TypeId} {pos : String} {af : Array Edge} {g : Option (Nat × Bool)}
theorem P_min {args : Array Operand} {ts : Array TypeId} {a b : Operand} {m n : Int} (hN : Nat.blt d N = true) (hg : gval ops E g = some true) (hk : opsOK P ⟨some d, .call ⟨.builtin .min, args, ts⟩, ty, pos, af, g⟩ = true)
    (hargs : args.toList = [a, b]) (ha : E.ev a = some (.int .i64 m)) (hb : E.ev b = some (.int .i64 n)) (k : R1 P K x N ops F (i + 1) ((d, .int .i64 (min m n)) :: E) h) : R2 P K x N ops F i ⟨some d, .call ⟨.builtin .min, args, ts⟩, ty, pos, af, g⟩ E h :=
  ⟨fun ho => zaC ho rfl hN hg hk (fun tm hE => by
    show (plainOp P tm ⟨some d, .call ⟨.builtin .min, args, ts⟩, ty, pos, af, g⟩).map (fun v => (v, h)) = _
    rw [mm_op (mx := false) rfl hargs (hE.ev ha) (hE.ev hb)]
    simp only [mmV, cond_false, Option.map_some]
    congr 3
    rw [Int.min_def]; split <;> split <;> omega) k.out⟩
end
def Rd (h : Heap) (p : Option Addr) (c : List Value) : Prop := c = [] ∨ ∃ b e own, p = some ⟨b, 0, none⟩ ∧ h.get? b = some (.cells c e own)
theorem Rd.ext {h h1 : Heap} {p : Option Addr} {c : List Value} (r : Rd h p c) (e : Ext h h1) : Rd h1 p c := by
  rcases r with r | ⟨b, t, own, hp, hg⟩
  · exact .inl r
  · exact .inr ⟨b, t, own, hp, e.get hg⟩
theorem Rd.at {h : Heap} {p : Option Addr} {c : List Value} (r : Rd h p c) (hc : 0 < c.length) : ∃ b e own, p = some ⟨b, 0, none⟩ ∧ h.get? b = some (.cells c e own) := by
  rcases r with r | r
  · subst r; simp at hc
  · exact r
def spanCells : List (Int × Int) → List Value
  | [] => []
  | p :: l => .int .i64 p.1 :: .int .i64 p.2 :: spanCells l
theorem zai (l : List (Int × Int)) : (spanCells l).length = 2 * l.length := by
  induction l with
  | nil => rfl
  | cons p l ih => simp only [spanCells, List.length_cons, ih]; omega
theorem zau (l : List Int) : (ints l).length = l.length := by simp [ints]
theorem zar {l : List Int} {k : Nat} (h : k < l.length) : (ints l)[k]? = some (.int .i64 (l.getD k 0)) := by
  simp [ints, h]
theorem ziZ (l : List (Int × Int)) : ∀ k, (spanCells l).drop (k * 2) = spanCells (l.drop k) := by
  induction l with
  | nil => intro k; simp [spanCells]
  | cons p l ih =>
    intro k
    cases k with
    | zero => simp
    | succ k =>
      rw [show (k + 1) * 2 = k * 2 + 1 + 1 from by omega]
      simp only [spanCells, List.drop_succ_cons]
      exact ih k
theorem zaB {l : List (Int × Int)} {k : Nat} (h : k < l.length) : ((spanCells l).drop (k * 2)).take 2 = [.int .i64 (l.getD k (0, 0)).1, .int .i64 (l.getD k (0, 0)).2] := by
  rw [ziZ, List.drop_eq_getElem_cons h]
  simp [spanCells, h]
end Go.AX

namespace Go.AX
section
variable {P : Program} {K : Known} {x : Ctx} {N : Nat} {E : Env} {h : Heap} {ops : Array Oper} {F : Ex → Env → Heap → Prop} {i : Nat} {Hs : List Heap} {L : List Heap → Prop} {nw : List (Nat × Nat × Blk)}
variable {d : Nat} {ty : TypeId} {pos : String} {af : Array Edge} {g : Option (Nat × Bool)}
theorem zbh {t e : TypeId} {a j : Operand} {b len cap k : Nat} {ik : IntKind} {q : Int} (hN : Nat.blt d N = true) (hg : gval ops E g = some true) (hk : opsOK P ⟨some d, .indexAddr t a j, ty, pos, af, g⟩ = true)
    (ha : E.ev a = some (.slice (some ⟨b, 0, none⟩) len cap)) (hj : E.ev j = some (.int ik q)) (hu : P.underlying t = some (.slice e)) (hs : sizeB P e = some 1) (hq : q = (k : Nat)) (hl : k < len) (kk : R1 P K x N ops F (i + 1) ((d, .pointer (some ⟨b, k, none⟩)) :: E) h) : R2 P K x N ops F i ⟨some d, .indexAddr t a j, ty, pos, af, g⟩ E h :=
  P_idx hN hg hk ha hj hu hs (by omega) (by omega) (by rw [show 0 + q.toNat * 1 = k from by omega]; exact kk)
theorem zch {t e : TypeId} {a j : Operand} {b len cap k n : Nat} {ik : IntKind} {q : Int} (hN : Nat.blt d N = true) (hg : gval ops E g = some true) (hk : opsOK P ⟨some d, .indexAddr t a j, ty, pos, af, g⟩ = true)
    (ha : E.ev a = some (.slice (some ⟨b, 0, none⟩) len cap)) (hj : E.ev j = some (.int ik q)) (hu : P.underlying t = some (.slice e)) (hs : sizeB P e = some n) (hq : q = (k : Nat)) (hl : k < len) (kk : R1 P K x N ops F (i + 1) ((d, .pointer (some ⟨b, k * n, none⟩)) :: E) h) : R2 P K x N ops F i ⟨some d, .indexAddr t a j, ty, pos, af, g⟩ E h :=
  P_idx hN hg hk ha hj hu hs (by omega) (by omega) (by rw [show q.toNat = k from by omega, Nat.zero_add]; exact kk)
theorem zbV {t e : TypeId} {a j : Operand} {b len cap k : Nat} {ik : IntKind} {q : Int} (hN : Nat.blt d N = true) (hg : gval ops E g = some true) (hk : opsOK P ⟨some d, .indexAddr t a j, ty, pos, af, g⟩ = true)
    (ha : E.ev a = some (.slice (some ⟨b, 0, none⟩) len cap)) (hj : E.ev j = some (.int ik q)) (hu : P.underlying t = some (.slice e)) (hs : sizeB P e = some 1) (hq : q = (k : Nat)) (hl : k < len) (kk : S1 P K x N ops F (i + 1) ((d, .pointer (some ⟨b, k, none⟩)) :: E) h Hs L nw) : S2 P K x N ops F i ⟨some d, .indexAddr t a j, ty, pos, af, g⟩ E h Hs L nw :=
  M_idx hN hg hk ha hj hu hs (by omega) (by omega) (by rw [show 0 + q.toNat * 1 = k from by omega]; exact kk)
end
end Go.AX
namespace Go.AX
def tget : List (Nat × Nat) → Nat → Option Nat
  | [], _ => none
  | (a, n) :: l, t => bif Nat.beq a t then some n else tget l t
theorem zfG {f : Nat → Option Nat} {T : List (Nat × Nat)} (h : T.all (fun p => f p.1 == some p.2) = true) {t n : Nat} (e : tget T t = some n) : f t = some n := by
  induction T with
  | nil => cases e
  | cons p T ih =>
    obtain ⟨a, m⟩ := p
    simp only [List.all_cons, Bool.and_eq_true, beq_iff_eq] at h
    simp only [tget] at e
    cases hc : Nat.beq a t with
    | true =>
      rw [hc] at e
      have := Nat.eq_of_beq_eq_true hc
      subst this
      cases e
      exact h.1
    | false => rw [hc] at e; exact ih h.2 e
def tget2 : List ((Nat × Nat) × Nat) → Nat → Nat → Option Nat
  | [], _, _ => none
  | ((a, b), n) :: l, t, f => bif Nat.beq a t && Nat.beq b f then some n else tget2 l t f
theorem tab2_ok {f : Nat → Nat → Option Nat} {T : List ((Nat × Nat) × Nat)} (h : T.all (fun p => f p.1.1 p.1.2 == some p.2) = true) {t j n : Nat} (e : tget2 T t j = some n) : f t j = some n := by
  induction T with
  | nil => cases e
  | cons p T ih =>
    obtain ⟨⟨a, b⟩, m⟩ := p
    simp only [List.all_cons, Bool.and_eq_true, beq_iff_eq] at h
    simp only [tget2] at e
    cases hc : (Nat.beq a t && Nat.beq b j) with
    | true =>
      rw [hc] at e
      simp only [Bool.and_eq_true] at hc
      have h1 := Nat.eq_of_beq_eq_true hc.1
      have h2 := Nat.eq_of_beq_eq_true hc.2
      subst h1; subst h2
      cases e
      exact h.1
    | false => rw [hc] at e; exact ih h.2 e
def fieldOff (P : Program) (t : TypeId) (f : Nat) : Option Nat :=
  match fieldsOf P t with
  | some fs => match fs[f]? with
    | some fd => match sizeB P fd.type with
      | some (_ + 1) => some fd.offset
      | _ => none
    | none => none
  | none => none
theorem zc2 {P : Program} {t : TypeId} {f o : Nat} (h : fieldOff P t f = some o) : ∃ fs fd n, fieldsOf P t = some fs ∧ fs[f]? = some fd ∧ sizeB P fd.type = some (n + 1) ∧ fd.offset = o := by
  unfold fieldOff at h
  split at h
  · rename_i fs h1
    split at h
    · rename_i fd h2
      split at h
      · rename_i n h3; cases h; exact ⟨fs, fd, n, h1, h2, h3, rfl⟩
      · cases h
    · cases h
  · cases h
def elemOf (P : Program) (t : TypeId) : Option TypeId :=
  match P.underlying t with
  | some (.slice e) => some e
  | _ => none
theorem zhB {P : Program} {t e : TypeId} (h : elemOf P t = some e) : P.underlying t = some (.slice e) := by
  unfold elemOf at h
  split at h
  · rename_i e' h1; cases h; exact h1
  · cases h
section
variable {P : Program} {K : Known} {x : Ctx} {N : Nat} {E : Env} {h : Heap} {ops : Array Oper} {F : Ex → Env → Heap → Prop} {i : Nat} {Hs : List Heap} {L : List Heap → Prop} {nw : List (Nat × Nat × Blk)}
variable {d : Nat} {ty : TypeId} {pos : String} {af : Array Edge} {g : Option (Nat × Bool)}
theorem P_fa {t : TypeId} {a : Operand} {f b o q z : Nat} (hN : Nat.blt d N = true) (hg : gval ops E g = some true) (hk : opsOK P ⟨some d, .fieldAddr t a f, ty, pos, af, g⟩ = true)
    (ha : E.ev a = some (.pointer (some ⟨b, o, none⟩))) (hf : fieldOff P t f = some q) (hz : o + q = z) (k : R1 P K x N ops F (i + 1) ((d, .pointer (some ⟨b, z, none⟩)) :: E) h) : R2 P K x N ops F i ⟨some d, .fieldAddr t a f, ty, pos, af, g⟩ E h := by
  obtain ⟨fs, fd, n, h1, h2, h3, h4⟩ := zc2 hf
  exact zhO hN hg hk ha h1 h2 h3 (by rw [h4, hz]; exact k)
theorem M_fa {t : TypeId} {a : Operand} {f b o q z : Nat} (hN : Nat.blt d N = true) (hg : gval ops E g = some true) (hk : opsOK P ⟨some d, .fieldAddr t a f, ty, pos, af, g⟩ = true)
    (ha : E.ev a = some (.pointer (some ⟨b, o, none⟩))) (hf : fieldOff P t f = some q) (hz : o + q = z) (k : S1 P K x N ops F (i + 1) ((d, .pointer (some ⟨b, z, none⟩)) :: E) h Hs L nw) : S2 P K x N ops F i ⟨some d, .fieldAddr t a f, ty, pos, af, g⟩ E h Hs L nw := by
  obtain ⟨fs, fd, n, h1, h2, h3, h4⟩ := zc2 hf
  exact zhR hN hg hk ha h1 h2 h3 (by rw [h4, hz]; exact k)
end
end Go.AX

namespace Go.AX
section
variable {P : Program} {K : Known} {x : Ctx} {N : Nat} {E : Env} {h : Heap} {ops : Array Oper} {F : Ex → Env → Heap → Prop} {i : Nat} {Hs : List Heap} {L : List Heap → Prop} {nw : List (Nat × Nat × Blk)}
variable {d : Nat} {ty : TypeId} {pos : String} {af : Array Edge} {g : Option (Nat × Bool)}
theorem P_nilF {t yt e : TypeId} {a b : Operand} {p : Addr} {n c : Nat} (hN : Nat.blt d N = true) (hg : gval ops E g = some true) (hk : opsOK P ⟨some d, .binOp .eql t a b yt, ty, pos, af, g⟩ = true)
    (ha : E.ev a = some (.slice (some p) n c)) (hb : E.ev b = some (.slice none 0 0)) (hu : P.underlying t = some (.slice e)) (k : R1 P K x N ops F (i + 1) ((d, .bool false) :: E) h) : R2 P K x N ops F i ⟨some d, .binOp .eql t a b yt, ty, pos, af, g⟩ E h :=
  ⟨fun ho => zaC ho rfl hN hg hk (fun tm hE => by
    have hp : plainOp P tm ⟨some d, .binOp .eql t a b yt, ty, pos, af, g⟩ = none := by
      unfold plainOp
      rw [if_neg]
      simp [plainKind, Op.operands, hE.ev ha, plain, deep]
    show (match plainOp P tm ⟨some d, .binOp .eql t a b yt, ty, pos, af, g⟩ with | some v => some (v, h) | none => _) = _
    rw [hp]
    show ((nilEqB P t (ev tm a) (ev tm b)).map Value.bool).map (fun v => (v, h)) = _
    rw [hE.ev ha, hE.ev hb]
    simp only [nilEqB, hu, Option.map_some]) k.out⟩
theorem ziI {t : TypeId} {len : Nat} {ps : Array (Nat × Operand)} {vs : List (Nat × Value)} {v : Value} {h1 : Heap} (hN : Nat.blt d N = true) (hg : gval ops E g = some true) (hk : opsOK P ⟨some d, .buildSlice t len ps, ty, pos, af, g⟩ = true)
    (hps : ∀ tm, EnvOK N E tm → (ps.toList.map fun (i, x) => (i, ev tm x)) = vs) (hb : buildSliceB P h t len vs = some (v, h1)) (k : R1 P K x N ops F (i + 1) ((d, v) :: E) h1) : R2 P K x N ops F i ⟨some d, .buildSlice t len ps, ty, pos, af, g⟩ E h :=
  ⟨fun ho => zaC ho rfl hN hg hk (fun tm hE => by
    show buildSliceB P h t len (ps.toList.map fun (i, x) => (i, ev tm x)) = _
    rw [hps tm hE, hb]) k.out⟩
def cell1 (P : Program) (t : TypeId) : Option TypeId :=
  match P.underlying t with
  | some (.slice e) => match sizeB P e, bytesB P e, zeroB P e with
    | some 1, some by_, some z => bif Nat.ble by_ 64 && Nat.beq z.cells.size 1 && z.cells.toList.all oneB then some e else none
    | _, _, _ => none
  | _ => none
theorem zbI {t e : TypeId} (hc : cell1 P t = some e) : P.underlying t = some (.slice e) ∧ sizeB P e = some 1 ∧ ∃ by_ z, bytesB P e = some by_ ∧ zeroB P e = some z ∧ by_ ≤ 64 ∧ z.cells.size = 1 ∧ z.cells.toList.all oneB = true := by
  unfold cell1 at hc
  split at hc
  · rename_i e' hu
    split at hc
    · rename_i by_ z h1 h2 h3
      cases hb : (Nat.ble by_ 64 && Nat.beq z.cells.size 1 && z.cells.toList.all oneB) with
      | false => rw [hb] at hc; cases hc
      | true =>
        rw [hb] at hc
        cases hc
        simp only [Bool.and_eq_true] at hb
        exact ⟨hu, h1, by_, z, h2, h3, Nat.le_of_ble_eq_true hb.1.1, Nat.eq_of_beq_eq_true hb.1.2, hb.2⟩
    · cases hc
  · cases hc
theorem build0 {t e : TypeId} (hc : cell1 P t = some e) : buildSliceB P h t 0 [] = some (.slice (some ⟨h.n, 0, none⟩) 0 0, h.push (.cells [] e true)) := by
  obtain ⟨hu, hs, by_, z, _, hz, _, hz1, _⟩ := zbI hc
  unfold buildSliceB
  simp only [hu, hs, hz]
  rw [if_pos (by simp [hz1])]
  simp [Instr.fill, zerosB]
theorem build1 {t e : TypeId} {v : Value} (hc : cell1 P t = some e) (h1 : v.cells = #[v]) (ho : oneB v = true) : buildSliceB P h t 1 [(0, v)] = some (.slice (some ⟨h.n, 0, none⟩) 1 1, h.push (.cells [v] e true)) := by
  obtain ⟨hu, hs, by_, z, _, hz, _, hz1, _⟩ := zbI hc
  unfold buildSliceB
  simp only [hu, hs, hz]
  rw [if_pos (by simp [hz1])]
  simp [Instr.fill, zerosB, h1, ho]
theorem P_build0 {t e : TypeId} {ps : Array (Nat × Operand)} (hN : Nat.blt d N = true) (hg : gval ops E g = some true) (hk : opsOK P ⟨some d, .buildSlice t 0 ps, ty, pos, af, g⟩ = true) (hps : ps.toList = [])
    (hc : cell1 P t = some e) (k : R1 P K x N ops F (i + 1) ((d, .slice (some ⟨h.n, 0, none⟩) 0 0) :: E) (h.push (.cells [] e true))) : R2 P K x N ops F i ⟨some d, .buildSlice t 0 ps, ty, pos, af, g⟩ E h :=
  ziI hN hg hk (fun tm _ => by rw [hps]; exact List.map_nil) (build0 hc) k
theorem zbS {t e : TypeId} {ps : Array (Nat × Operand)} {a : Operand} {v : Value} (hN : Nat.blt d N = true) (hg : gval ops E g = some true) (hk : opsOK P ⟨some d, .buildSlice t 1 ps, ty, pos, af, g⟩ = true) (hps : ps.toList = [(0, a)])
    (ha : E.ev a = some v) (h1 : v.cells = #[v]) (hone : oneB v = true) (hc : cell1 P t = some e) (k : R1 P K x N ops F (i + 1) ((d, .slice (some ⟨h.n, 0, none⟩) 1 1) :: E) (h.push (.cells [v] e true))) : R2 P K x N ops F i ⟨some d, .buildSlice t 1 ps, ty, pos, af, g⟩ E h :=
  ziI hN hg hk (fun tm hE => by rw [hps]; simp only [List.map_cons, List.map_nil, hE.ev ha]) (build1 hc h1 hone) k
theorem zgz {args : Array Operand} {ts : Array TypeId} {a b : Operand} {u v r : Value} {h1 : Heap} {dd : Option Tmp} {R : Recs} (hk : opsOK P ⟨dd, .call ⟨.builtin .append, args, ts⟩, ty, pos, af, g⟩ = true) (hargs : args.toList = [a, b])
    (ha : E.ev a = some u) (hb : E.ev b = some v) (hap : appendB P h ts u v = some (r, h1)) (tm : Array Value) (D : List Deferred) (U : FrameMode) (hE : EnvOK N E tm) : doOp P R x ⟨tm, D, U, h⟩ ⟨dd, .call ⟨.builtin .append, args, ts⟩, ty, pos, af, g⟩ = some (.val r, ⟨tm, D, U, h1⟩) := by
  obtain ⟨l⟩ := args
  simp only at hargs
  subst hargs
  refine zei hk rfl rfl ?_
  show (appendB P h ts (ev tm a) (ev tm b)).map (fun p => (Out.val p.1, p.2)) = _
  rw [hE.ev ha, hE.ev hb, hap]; rfl
theorem zdb {args : Array Operand} {ts : Array TypeId} {a b : Operand} {u v r : Value} {h1 : Heap} (hN : Nat.blt d N = true) (hg : gval ops E g = some true) (hk : opsOK P ⟨some d, .call ⟨.builtin .append, args, ts⟩, ty, pos, af, g⟩ = true) (hargs : args.toList = [a, b])
    (ha : E.ev a = some u) (hb : E.ev b = some v) (hap : appendB P h ts u v = some (r, h1)) (k : R1 P K x N ops F (i + 1) ((d, r) :: E) h1) : R2 P K x N ops F i ⟨some d, .call ⟨.builtin .append, args, ts⟩, ty, pos, af, g⟩ E h :=
  ⟨fun ho => O_op (G := fun v' h' => v' = r ∧ h' = h1) ho rfl hN hg (fun tm D U hE => ⟨0, r, h1, zgz hk hargs ha hb hap tm D U hE, rfl, rfl⟩) (fun _ _ q => by obtain ⟨rfl, rfl⟩ := q; exact k.out)⟩
theorem zh2 {b m cap : Nat} {c : List Value} {e : TypeId} {own : Bool} (hb : h.get? b = some (.cells c e own)) (hm : c.length = m) : rowB h 1 m (.slice (some ⟨b, 0, none⟩) m cap) = some c := by
  subst hm
  unfold rowB
  simp only [Nat.lt_irrefl, if_false, Nat.mul_one, hb]
  split
  · rename_i h0; rw [List.length_eq_zero_iff.1 h0]
  · simp
theorem zlm {ts : Array TypeId} {t t' e e' : TypeId} {b m cap : Nat} {c : List Value} {e0 : TypeId} {own : Bool} (h0 : ts[0]? = some t) (h1 : ts[1]? = some t') (hc : cell1 P t = some e) (hc' : P.underlying t' = some (.slice e')) (hb : h.get? b = some (.cells c e0 own)) (hm : c.length = m) (hpos : 0 < m) (hle : m ≤ 1000000000) (hone : c.all oneB = true) :
    appendB P h ts (.slice none 0 0) (.slice (some ⟨b, 0, none⟩) m cap) = some (.slice (some ⟨h.n, 0, none⟩) m unk, h.push (.cells c e true)) := by
  obtain ⟨hu, hs, by_, z, hby, hz, h64, hz1, _⟩ := zbI hc
  unfold appendB
  simp only [h0, h1, hu, hc']
  unfold appendRow
  simp only [hs, hby, hz, lenB, zh2 hb hm]
  have hbd : (0 + m) * (by_ + 1) ≤ 70368744177664 := Nat.le_trans (Nat.mul_le_mul (by omega : 0 + m ≤ 1000000000) (by omega : by_ + 1 ≤ 65)) (by decide)
  rw [if_pos ⟨hz1, hone, hbd⟩, if_neg (by omega)]
  simp
theorem zll {ts : Array TypeId} {t t' e e' : TypeId} {b b' m n cap : Nat} {c c' : List Value} {e0 : TypeId} {own : Bool} (h0 : ts[0]? = some t) (h1 : ts[1]? = some t') (hc : cell1 P t = some e) (hc' : P.underlying t' = some (.slice e')) (hb : h.get? b = some (.cells c e0 own)) (hm : c.length = m) (hpos : 0 < m) (hle : n + m ≤ 1000000000) (hone : c.all oneB = true)
    (hx : h.get? b' = some (.cells c' e true)) (hn : c'.length = n) :
    appendB P h ts (.slice (some ⟨b', 0, none⟩) n unk) (.slice (some ⟨b, 0, none⟩) m cap) = some (.slice (some ⟨h.n, 0, none⟩) (n + m) unk, (h.set b' .dead).push (.cells (c' ++ c) e true)) := by
  obtain ⟨hu, hs, by_, z, hby, hz, h64, hz1, _⟩ := zbI hc
  unfold appendB
  simp only [h0, h1, hu, hc']
  unfold appendRow
  simp only [hs, hby, hz, lenB, zh2 hb hm]
  have hbd : (n + m) * (by_ + 1) ≤ 70368744177664 := Nat.le_trans (Nat.mul_le_mul hle (by omega : by_ + 1 ≤ 65)) (by decide)
  rw [if_pos ⟨hz1, hone, hbd⟩, if_neg (by omega), if_neg (by rintro ⟨q, _⟩; exact absurd q (by decide))]
  simp only [hx, if_true]
  rw [if_pos ⟨trivial, trivial, by omega⟩]
theorem app_full {ts : Array TypeId} {t t' e e' : TypeId} {b b' m n q cap : Nat} {c c' : List Value} {e0 e1 : TypeId} {own own' : Bool} (h0 : ts[0]? = some t) (h1 : ts[1]? = some t') (hc : cell1 P t = some e) (hc' : P.underlying t' = some (.slice e')) (hb : h.get? b = some (.cells c e0 own)) (hm : c.length = m) (hpos : 0 < m) (hle : n + m ≤ 1000000000) (hone : c.all oneB = true)
    (hx : h.get? b' = some (.cells c' e1 own')) (hn : c'.length = n) (hq : q < n + m) (hq' : q ≤ 1000000000) :
    appendB P h ts (.slice (some ⟨b', 0, none⟩) n q) (.slice (some ⟨b, 0, none⟩) m cap) = some (.slice (some ⟨h.n, 0, none⟩) (n + m) unk, h.push (.cells (c' ++ c) e true)) := by
  obtain ⟨hu, hs, by_, z, hby, hz, h64, hz1, _⟩ := zbI hc
  unfold appendB
  simp only [h0, h1, hu, hc']
  unfold appendRow
  simp only [hs, hby, hz, lenB, zh2 hb hm]
  have hbd : (n + m) * (by_ + 1) ≤ 70368744177664 := Nat.le_trans (Nat.mul_le_mul hle (by omega : by_ + 1 ≤ 65)) (by decide)
  rw [if_pos ⟨hz1, hone, hbd⟩, if_neg (by omega), if_neg (by unfold anyCap; omega), if_neg (by unfold unk; omega), if_neg (by omega), zh2 hx hn]
theorem P_makeI {t e : TypeId} {a b : Operand} {n : Int} (hN : Nat.blt d N = true) (hg : gval ops E g = some true) (hk : opsOK P ⟨some d, .makeSlice t a b, ty, pos, af, g⟩ = true)
    (ha : E.ev a = some (.int .i64 n)) (hb : E.ev b = some (.int .i64 n)) (hc : cell1 P t = some e) (hz : zeroB P e = some (.int .i64 0)) (h0 : 0 ≤ n) (h1 : n ≤ 1048576) (k : R1 P K x N ops F (i + 1) ((d, .slice (some ⟨h.n, 0, none⟩) n.toNat n.toNat) :: E) (h.push (.cells (ints (List.replicate n.toNat 0)) e true))) : R2 P K x N ops F i ⟨some d, .makeSlice t a b, ty, pos, af, g⟩ E h :=
  ⟨fun ho => zaC ho rfl hN hg hk (fun tm hE => by
    show makeSliceB P h t (ev tm a) (ev tm b) = _
    rw [hE.ev ha, hE.ev hb]
    obtain ⟨hu, hs, by_, z, hby, hz', h64, hz1, _⟩ := zbI hc
    rw [hz] at hz'
    cases hz'
    have e1 : (zerosB (Value.int .i64 0).cells (n.toNat * 1)).toList = ints (List.replicate n.toNat 0) := by
      simp only [zerosB, Nat.mul_one, Array.toList_map, ints]
      apply List.ext_getElem
      · simp
      · intro j q1 q2
        simp [Value.cells, Nat.mod_one]
    unfold makeSliceB
    simp only [hu, hs, hby, hz, e1]
    rw [if_pos ⟨h0, Int.le_refl n, h1, by omega, by simp [ints, oneB], rfl⟩]) k.out⟩
end
theorem ints_set {l : List Int} {k : Nat} {n : Int} (h : k < l.length) : splice (ints l) k (Value.int .i64 n).cells.toList = ints (l.set k n) := by
  simp only [splice, Value.cells, ints, List.length_cons, List.length_nil]
  rw [List.map_set, List.set_eq_take_append_cons_drop]
  rw [if_pos (by simpa using h)]
  simp
theorem ints_one (l : List Int) : (ints l).all oneB = true := by simp [ints, oneB]
theorem ints_app (a b : List Int) : ints a ++ ints b = ints (a ++ b) := by simp [ints]
end Go.AX
namespace Go.AX
theorem za5 (k : IntKind) (n : Int) : same 20 (.int k n) (.int k n) = true := by simp [same]
theorem zbc (a : Option Addr) (n c : Nat) : same 20 (.slice a n c) (.slice a n c) = true := by simp [same]
theorem zfD {b o n c m : Nat} (h : b < m) : within 20 m (.slice (some ⟨b, o, none⟩) n c) = true := by simp [within, h]
theorem zb1 {h : Heap} {b o n c : Nat} {x : Blk} (g : h.get? b = some x) : within 20 h.n (.slice (some ⟨b, o, none⟩) n c) = true := zfD (Heap.get_lt g)
end Go.AX
namespace Go.AX
theorem push_set {h : Heap} {x y : Blk} : (h.push x).set h.n y = h.push y := by
  unfold Heap.push Heap.set
  simp only [Nat.add_sub_cancel, Nat.sub_self]
  congr 1
  cases h.bs <;> rfl
section
variable {P : Program} {K : Known} {x : Ctx} {N : Nat} {E : Env} {h : Heap} {ops : Array Oper} {F : Ex → Env → Heap → Prop} {i : Nat} {Hs : List Heap} {L : List Heap → Prop} {nw : List (Nat × Nat × Blk)}
variable {ty : TypeId} {pos : String} {af : Array Edge} {g : Option (Nat × Bool)}
theorem zaX {t : TypeId} {a y : Operand} {n : Nat} {c : List Value} {e : TypeId} {v : Value} (hg : gval ops E g = some true) (hk : opsOK P ⟨none, .store t a y, ty, pos, af, g⟩ = true)
    (ha : E.ev a = some (.pointer (some ⟨h.n, 0, none⟩))) (hy : E.ev y = some v) (hs : sizeB P t = some n) (hc : v.cells.size = n) (hl : c.length = n) (hone : v.cells.toList.all oneB = true)
    (k : R1 P K x N ops F (i + 1) E (h.push (.cells v.cells.toList e true))) : R2 P K x N ops F i ⟨none, .store t a y, ty, pos, af, g⟩ E (h.push (.cells c e true)) := by
  refine zfA hg hk ha hy zaa hs hc (by omega) hone ?_
  have e1 : splice c 0 v.cells.toList = v.cells.toList := by
    have : v.cells.toList.length = c.length := by simp [hc, hl]
    simp [splice, this]
  rw [e1, push_set]; exact k
theorem ziJ {t : TypeId} {a y : Operand} {b j : Nat} {l : List Int} {e : TypeId} {n : Int} (hg : gval ops E g = some true) (hk : opsOK P ⟨none, .store t a y, ty, pos, af, g⟩ = true)
    (ha : E.ev a = some (.pointer (some ⟨b, j, none⟩))) (hy : E.ev y = some (.int .i64 n)) (hb : h.get? b = some (.cells (ints l) e true)) (hs : sizeB P t = some 1) (hl : j < l.length) (hnw : unseen (preds ops.toList) nw i = [])
    (k : ∀ h1, h1.get? b = some (.cells (ints (l.set j n)) e true) → ExtBut b h h1 → S1 P K x N ops F (i + 1) E h1 (h1 :: Hs) L nw) : S2 P K x N ops F i ⟨none, .store t a y, ty, pos, af, g⟩ E h Hs L nw := by
  refine zlw hg hk ha hy hb hs rfl (by rw [zau]; omega) rfl hnw ?_
  rw [ints_set hl]
  exact k _ (zbz hb) ((ExtBut.refl b h).set hb _)
end
end Go.AX
namespace Go.AX
def OutI (e : TypeId) (h0 h : Heap) (v : Value) (l : List Int) : Prop :=
  (l = [] ∧ v = .slice none 0 0) ∨ (l ≠ [] ∧ ∃ b, v = .slice (some ⟨b, 0, none⟩) l.length unk ∧ h.get? b = some (.cells (ints l) e true) ∧ h0.n ≤ b)
def IsL (l : List Int) (h : Heap) (v : Value) (h1 : Heap) : Prop := ∃ p cap, v = .slice p l.length cap ∧ Rd h1 p (ints l) ∧ Ext h h1
theorem OutI.nil (e : TypeId) (h0 h : Heap) : OutI e h0 h (.slice none 0 0) [] := .inl ⟨rfl, rfl⟩
theorem OutI.ext {e : TypeId} {h0 h h1 : Heap} {v : Value} {l : List Int} (o : OutI e h0 h v l) (x : Ext h h1) : OutI e h0 h1 v l := by
  rcases o with o | ⟨hl, b, h1, h2, h3⟩
  · exact .inl o
  · exact .inr ⟨hl, b, h1, x.get h2, h3⟩
theorem OutI.isL {e : TypeId} {h0 h : Heap} {v : Value} {l : List Int} (o : OutI e h0 h v l) (x : Ext h0 h) : IsL l h0 v h := by
  rcases o with ⟨rfl, rfl⟩ | ⟨hl, b, h1, h2, h3⟩
  · exact ⟨none, 0, rfl, .inl rfl, x⟩
  · exact ⟨some ⟨b, 0, none⟩, unk, h1, .inr ⟨b, e, true, rfl, h2⟩, x⟩
section
variable {P : Program} {K : Known} {x : Ctx} {N : Nat} {E : Env} {h : Heap} {ops : Array Oper} {F : Ex → Env → Heap → Prop} {i : Nat}
variable {d : Nat} {ty : TypeId} {pos : String} {af : Array Edge} {g : Option (Nat × Bool)}
theorem zet {args : Array Operand} {ts : Array TypeId} {t t' e e' : TypeId} {a b : Operand} {by_ cap : Nat} {e0 : TypeId} {own : Bool} {n : Int} {v : Value} {l : List Int} {h0 : Heap} (hN : Nat.blt d N = true) (hg : gval ops E g = some true) (hk : opsOK P ⟨some d, .call ⟨.builtin .append, args, ts⟩, ty, pos, af, g⟩ = true) (hargs : args.toList = [a, b])
    (ha : E.ev a = some v) (hb : E.ev b = some (.slice (some ⟨by_, 0, none⟩) 1 cap)) (h0' : ts[0]? = some t) (h1' : ts[1]? = some t') (hc : cell1 P t = some e) (hc' : P.underlying t' = some (.slice e'))
    (hy : h.get? by_ = some (.cells [.int .i64 n] e0 own)) (ho : OutI e h0 h v l) (hx : Ext h0 h) (hle : l.length ≤ 10000)
    (k : ∀ v' h1, OutI e h0 h1 v' (l ++ [n]) → Ext h0 h1 → R1 P K x N ops F (i + 1) ((d, v') :: E) h1) : R2 P K x N ops F i ⟨some d, .call ⟨.builtin .append, args, ts⟩, ty, pos, af, g⟩ E h := by
  rcases ho with ⟨rfl, rfl⟩ | ⟨hl, b', rfl, h2, h3⟩
  · refine zdb hN hg hk hargs ha hb (zlm h0' h1' hc hc' hy rfl (by omega) (by omega) rfl) (k _ _ (.inr ⟨by simp, h.n, rfl, zaa, hx.n⟩) (hx.push _))
  · refine zdb hN hg hk hargs ha hb (zll h0' h1' hc hc' hy rfl (by omega) (by omega) rfl h2 (zau _)) (k _ _ (.inr ⟨by simp, h.n, ?_, ?_, hx.n⟩) ?_)
    · simp
    · have : (h.set b' .dead).n = h.n := rfl
      rw [← this, show ints (l ++ [n]) = ints l ++ [Value.int .i64 n] from (ints_app l [n]).symm]
      exact zaa
    · exact (hx.set h3 h2 .dead).push _
end
end Go.AX
namespace Go.AX
theorem zq0 : (0 : Int) = ((0 : Nat) : Int) := rfl
theorem zq1 : (1 : Int) = ((1 : Nat) : Int) := rfl
theorem zq2 : (2 : Int) = ((2 : Nat) : Int) := rfl
theorem zq3 : (3 : Int) = ((3 : Nat) : Int) := rfl
end Go.AX
namespace Go.AX
section
variable {P : Program} {K : Known} {x : Ctx} {N : Nat} {E : Env} {h : Heap} {ops : Array Oper} {F : Ex → Env → Heap → Prop} {i : Nat}
variable {d : Nat} {ty : TypeId} {pos : String} {af : Array Edge} {g : Option (Nat × Bool)}
theorem P_buildV {t : TypeId} {ps : Array (Nat × Operand)} {vs : List (Nat × Value)} {v : Value} (hN : Nat.blt d N = true) (hg : gval ops E g = some true) (hk : opsOK P ⟨some d, .build t ps, ty, pos, af, g⟩ = true)
    (hps : ∀ tm, EnvOK N E tm → (ps.toList.map fun (i, x) => (i, ev tm x)) = vs) (hb : fillB P t vs = some v) (k : R1 P K x N ops F (i + 1) ((d, v) :: E) h) : R2 P K x N ops F i ⟨some d, .build t ps, ty, pos, af, g⟩ E h :=
  ⟨fun ho => zaC ho rfl hN hg hk (fun tm hE => by
    show (fillB P t (ps.toList.map fun (i, x) => (i, ev tm x))).map (fun v => (v, h)) = _
    rw [hps tm hE, hb]; rfl) k.out⟩
def Env.parts (E : Env) : List (Nat × Operand) → Option (List (Nat × Value))
  | [] => some []
  | (i, o) :: l => match E.ev o, Env.parts E l with
    | some v, some vs => some ((i, v) :: vs)
    | _, _ => none
theorem EnvOK.parts {N : Nat} {E : Env} {tm : Array Value} (h : EnvOK N E tm) : ∀ {l : List (Nat × Operand)} {vs : List (Nat × Value)}, E.parts l = some vs → (l.map fun (i, x) => (i, AX.ev tm x)) = vs := by
  intro l
  induction l with
  | nil => intro vs e; cases e; rfl
  | cons p l ih =>
    intro vs e
    obtain ⟨i, o⟩ := p
    simp only [Env.parts] at e
    split at e
    · rename_i v vs' h1 h2
      cases e
      rw [List.map_cons, ih h2]
      show (i, AX.ev tm o) :: vs' = _
      rw [h.ev h1]
    · cases e
theorem zdl {t : TypeId} {ps : Array (Nat × Operand)} {vs : List (Nat × Value)} {v : Value} (hN : Nat.blt d N = true) (hg : gval ops E g = some true) (hk : opsOK P ⟨some d, .build t ps, ty, pos, af, g⟩ = true)
    (hps : E.parts ps.toList = some vs) (hb : fillB P t vs = some v) (k : R1 P K x N ops F (i + 1) ((d, v) :: E) h) : R2 P K x N ops F i ⟨some d, .build t ps, ty, pos, af, g⟩ E h :=
  P_buildV hN hg hk (fun _ hE => hE.parts hps) hb k
end
end Go.AX
namespace Go.AX
section
variable {P : Program} {K : Known} {x : Ctx} {N : Nat} {E : Env} {h : Heap} {ops : Array Oper} {F : Ex → Env → Heap → Prop} {i : Nat} {Hs : List Heap} {L : List Heap → Prop} {nw : List (Nat × Nat × Blk)}
variable {d : Nat} {ty : TypeId} {pos : String} {af : Array Edge} {g : Option (Nat × Bool)}
theorem ziN {t e : TypeId} {ps : Array (Nat × Operand)} {a : Operand} {v : Value} (hN : Nat.blt d N = true) (hg : gval ops E g = some true) (hk : opsOK P ⟨some d, .buildSlice t 1 ps, ty, pos, af, g⟩ = true) (hps : ps.toList = [(0, a)])
    (ha : E.ev a = some v) (h1 : v.cells = #[v]) (hone : oneB v = true) (hc : cell1 P t = some e) (k : S1 P K x N ops F (i + 1) ((d, .slice (some ⟨h.n, 0, none⟩) 1 1) :: E) (h.push (.cells [v] e true)) Hs L ((i, h.n, .cells [v] e true) :: nw)) : S2 P K x N ops F i ⟨some d, .buildSlice t 1 ps, ty, pos, af, g⟩ E h Hs L nw :=
  ⟨fun ho => N_new ho rfl hN hg hk rfl (fun tm hE => by
    show buildSliceB P h t 1 (ps.toList.map fun (i, x) => (i, ev tm x)) = _
    rw [hps]; simp only [List.map_cons, List.map_nil, hE.ev ha]; exact build1 hc h1 hone) k.out⟩
theorem ziO {args : Array Operand} {ts : Array TypeId} {a b : Operand} {u v r : Value} {h1 : Heap} (hN : Nat.blt d N = true) (hg : gval ops E g = some true) (hk : opsOK P ⟨some d, .call ⟨.builtin .append, args, ts⟩, ty, pos, af, g⟩ = true) (hargs : args.toList = [a, b])
    (ha : E.ev a = some u) (hb : E.ev b = some v) (hap : appendB P h ts u v = some (r, h1)) (hnw : unseen (preds ops.toList) nw i = []) (k : S1 P K x N ops F (i + 1) ((d, r) :: E) h1 (h1 :: Hs) L nw) : S2 P K x N ops F i ⟨some d, .call ⟨.builtin .append, args, ts⟩, ty, pos, af, g⟩ E h Hs L nw :=
  ⟨fun ho => N_act (G := fun v' h' => v' = r ∧ h' = h1) ho rfl hN hg rfl hnw (fun tm D U hE => ⟨0, r, h1, zgz hk hargs ha hb hap tm D U hE, rfl, rfl⟩) (fun _ _ q => by obtain ⟨rfl, rfl⟩ := q; exact k.out)⟩
end
theorem zqs (k : Nat) : (k : Int) + 1 = ((k + 1 : Nat) : Int) := rfl
end Go.AX
