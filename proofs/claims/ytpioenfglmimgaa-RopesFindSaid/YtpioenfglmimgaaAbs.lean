import Derived.WalkKit
import Derived.Orders
import Derived.LoopN
import Derived.KernelRfl
namespace Go.Proofs.Abs
open Go
/-! A small evaluator over abstract memory: blocks have names, a slice that has grown has an unknown capacity. -/
inductive T (α : Type) where
  | leaf
  | node (l : T α) (v : Option α) (r : T α)

namespace T
variable {α : Type}
noncomputable def get (t : T α) : Nat → Option α :=
  T.rec (motive := fun _ => Nat → Option α) (fun _ => none)
    (fun _ v _ gl gr k => Nat.rec (motive := fun _ => Option α) v
      (fun j _ => Bool.rec (motive := fun _ => Option α) (gl (Nat.div j 2)) (gr (Nat.div j 2)) (Nat.beq (Nat.mod j 2) 1)) k) t
noncomputable def sing (s : T α → Nat → Option α → T α) (k : Nat) (v : Option α) : T α :=
  Nat.rec (motive := fun _ => T α) (.node .leaf v .leaf)
    (fun j _ => Bool.rec (motive := fun _ => T α) (.node (s .leaf (Nat.div j 2) v) none .leaf) (.node .leaf none (s .leaf (Nat.div j 2) v)) (Nat.beq (Nat.mod j 2) 1)) k
noncomputable def ins (s : T α → Nat → Option α → T α) (l : T α) (o : Option α) (r : T α) (k : Nat) (v : Option α) : T α :=
  Nat.rec (motive := fun _ => T α) (.node l v r)
    (fun j _ => Bool.rec (motive := fun _ => T α) (.node (s l (Nat.div j 2) v) o r) (.node l o (s r (Nat.div j 2) v)) (Nat.beq (Nat.mod j 2) 1)) k
noncomputable def set (f : Nat) : T α → Nat → Option α → T α :=
  Nat.rec (motive := fun _ => T α → Nat → Option α → T α) (fun t _ _ => t)
    (fun _ s t k v => T.rec (motive := fun _ => T α) (sing s k v) (fun l o r _ _ => ins s l o r k v) t) f
noncomputable def put (t : T α) (k : Nat) (v : Option α) : T α := set (Nat.succ k) t k v
end T

def big : Nat := 1099511627776

inductive AV where
  | lit (v : Value)
  | ptr (n off : Nat)
  | slice (n off len : Nat) (rest : Bool) (cap z : Nat)
  | fn (f : Fn) (cs : List AV)
  | iface (t : TypeId) (v : AV)
  | agg (cs : List AV)
  | tup (vs : List AV)

structure Blk where
  cells : T AV
  n : Nat
  elem : TypeId
  grow : Nat

structure Hp where
  m : T Blk
  c : Nat
  ro : Nat → Nat → Option AV

structure TI where
  desc : TypeDesc
  size : Nat
  bytes : Nat
  zero : Value
  cmp : Bool

structure Ctx where
  funs : T Func
  tys : T TI

abbrev Env := T AV
def uv : AV := .lit (.tuple #[])

noncomputable def ev (e : Env) : Operand → Option AV
  | .tmp t => e.get t
  | .const v => some (.lit v)
  | .func f => some (.lit (.func (.func f) #[] #[]))
  | .global _ => none

def consO (v : AV) : Option (List AV) → Option (List AV)
  | none => none
  | some vs => some (v :: vs)
def consOO (r : Option (List AV)) : Option AV → Option (List AV)
  | none => none
  | some v => consO v r
noncomputable def evs (e : Env) (l : List Operand) : Option (List AV) :=
  List.rec (motive := fun _ => Option (List AV)) (some []) (fun x _ r => consOO r (ev e x)) l

noncomputable def litCells (l : List Value) : List AV :=
  List.rec (motive := fun _ => List AV) [] (fun v _ r => .lit v :: r) l

/-- the cells of a value -/
noncomputable def cellsOf : AV → List AV
  | .agg cs => cs
  | .lit (.agg cs) => litCells cs.toList
  | v => [v]

noncomputable def setCells (t : T AV) (off : Nat) (l : List AV) : T AV :=
  List.rec (motive := fun _ => T AV → Nat → T AV) (fun t _ => t) (fun v _ r t off => r (t.put off (some v)) (Nat.succ off)) l t off

noncomputable def getCells (t : T AV) (off n : Nat) : Option (List AV) :=
  Nat.rec (motive := fun _ => Nat → Option (List AV)) (fun _ => some []) (fun _ r off => consOO (r (Nat.succ off)) (t.get off)) n off

/-- are the cells from off on known? -/
noncomputable def known (t : T AV) (off n : Nat) : Bool :=
  Nat.rec (motive := fun _ => Nat → Bool) (fun _ => true) (fun _ r off => Option.rec (motive := fun _ => Bool) false (fun _ => r (Nat.succ off)) (t.get off)) n off

noncomputable def newBlk (h : Hp) (cs : List AV) (elem : TypeId) (grow : Nat) : Hp :=
  ⟨h.m.put h.c (some ⟨setCells .leaf 0 cs, cs.length, elem, grow⟩), h.c + 1, h.ro⟩

/-- cells that came in: they are read alone -/
noncomputable def roCells (f : Nat → Option AV) (off n : Nat) : Option (List AV) :=
  Nat.rec (motive := fun _ => Nat → Option (List AV)) (fun _ => some []) (fun _ r off => consOO (r (Nat.succ off)) (f off)) n off

noncomputable def load (h : Hp) (n off size : Nat) : Option (List AV) :=
  Option.rec (motive := fun _ => Option (List AV)) (roCells (h.ro n) off size) (fun b => getCells b.cells off size) (h.m.get n)

def oneA : AV → Bool
  | .lit v => v.oneCell'
  | .agg _ => false
  | .tup _ => false
  | _ => true
noncomputable def onesA (l : List AV) : Bool :=
  List.rec (motive := fun _ => Bool) true (fun v _ r => Bool.rec (motive := fun _ => Bool) false r (oneA v)) l

noncomputable def store (h : Hp) (n off : Nat) (cs : List AV) : Option Hp :=
  Option.rec (motive := fun _ => Option Hp) none
    (fun b => cond (known b.cells off cs.length && onesA cs) (some ⟨h.m.put n (some ⟨setCells b.cells off cs, b.n, b.elem, b.grow⟩), h.c, h.ro⟩) none) (h.m.get n)

def isAggD : TypeDesc → Bool
  | .struct _ | .array _ _ => true
  | _ => false

noncomputable def repl (cs : List AV) (n : Nat) : List AV :=
  Nat.rec (motive := fun _ => List AV) [] (fun _ r => cs ++ r) n

/-- part i of a list of cells is replaced -/
noncomputable def over (vs : List AV) : List AV → List AV :=
  List.rec (motive := fun _ => List AV → List AV) (fun xs => xs) (fun v _ r xs => List.rec (motive := fun _ => List AV) [] (fun _ xs _ => v :: r xs) xs) vs
noncomputable def putAt (xs : List AV) (n : Nat) (vs : List AV) : List AV :=
  Nat.rec (motive := fun _ => List AV → List AV) (fun xs => over vs xs) (fun _ r xs => List.rec (motive := fun _ => List AV) [] (fun x xs _ => x :: r xs) xs) n xs

noncomputable def fillOne (k : List AV → Option (List AV)) (n : Nat) (cells : List AV) (cs : List AV) : Option (Nat × Nat) → Option (List AV)
  | none => none
  | some (off, size) => cond (Nat.beq cs.length size && Nat.ble (off + cs.length) n) (k (putAt cells off cs)) none
noncomputable def fillA (place : Nat → Option (Nat × Nat)) (n : Nat) (cells : List AV) (l : List (Nat × AV)) : Option (List AV) :=
  List.rec (motive := fun _ => List AV → Option (List AV)) (fun cells => some cells) (fun x _ r cells => fillOne r n cells (cellsOf x.2) (place x.1)) l cells

def consP (i : Nat) (r : Option (List (Nat × AV))) : Option AV → Option (List (Nat × AV))
  | none => none
  | some v => match r with
    | none => none
    | some vs => some ((i, v) :: vs)
noncomputable def evParts (e : Env) (l : List (Nat × Operand)) : Option (List (Nat × AV)) :=
  List.rec (motive := fun _ => Option (List (Nat × AV))) (some []) (fun x _ r => consP x.1 r (ev e x.2)) l

noncomputable def placeOf (C : Ctx) (fs : Array Field) (i : Nat) : Option (Nat × Nat) :=
  match fs[i]? with
  | none => none
  | some f => match C.tys.get f.type with
    | none => none
    | some ti => some (f.offset, ti.size)

def pureV : Sem Value → Option AV
  | .pure v => some (.lit v)
  | _ => none

def intOf? : AV → Option Int
  | .lit (.int _ n) => some n
  | _ => none

/-- an index as a natural number, if it is one at most max -/
def natOf? (v : AV) (max : Nat) : Option Nat :=
  match v with
  | .lit (.int _ (.ofNat n)) => cond (Nat.ble n max) (some n) none
  | _ => none

def isNil : AV → Bool
  | .lit (.pointer none) | .lit (.slice none _ _) | .lit .nilFunc | .lit .nilIface | .lit (.map none) => true
  | _ => false
def isRef : AV → Bool
  | .ptr .. | .slice .. | .fn .. | .iface .. => true
  | _ => false

def eqD : TypeDesc → AV → AV → Option Bool
  | .bool, .lit (.bool p), .lit (.bool q) => some (p == q)
  | .slice _, .lit (.slice none _ _), .lit (.slice none _ _) => some true
  | .slice _, .slice _ _ _ _ _ _, .lit (.slice none _ _) => some false
  | .slice _, .lit (.slice none _ _), .slice _ _ _ _ _ _ => some false
  | .pointer _, .lit (.pointer none), .lit (.pointer none) => some true
  | .pointer _, .ptr _ _, .lit (.pointer none) => some false
  | .pointer _, .lit (.pointer none), .ptr _ _ => some false
  | .func _ _ _, .lit .nilFunc, .lit .nilFunc => some true
  | .func _ _ _, .fn _ _, .lit .nilFunc => some false
  | .func _ _ _, .lit (.func _ _ _), .lit .nilFunc => some false
  | _, _, _ => none
def eqOp (op : BinOp) : Option Bool → Option AV
  | none => none
  | some b => match op with
    | .eql => some (.lit (.bool b))
    | .neq => some (.lit (.bool (!b)))
    | _ => none
def eqA (op : BinOp) (x y : AV) : Option TI → Option AV
  | none => none
  | some ti => eqOp op (eqD ti.desc x y)

def wrapF (k : IntKind) (r : Int) : Int :=
  match k with
  | .i64 => match r with
    | .ofNat n => cond (Nat.blt n 9223372036854775808) (.ofNat n) (IntKind.wrap .i64 (.ofNat n))
    | .negSucc n => cond (Nat.blt n 9223372036854775808) (.negSucc n) (IntKind.wrap .i64 (.negSucc n))
  | k => k.wrap r

def addF : Int → Int → Int
  | .ofNat a, .ofNat b => .ofNat (Nat.add a b)
  | a, b => a + b
def subF : Int → Int → Int
  | .ofNat a, .ofNat b => cond (Nat.ble b a) (.ofNat (Nat.sub a b)) (.negSucc (Nat.sub (Nat.sub b a) 1))
  | a, b => a - b
def ltF : Int → Int → Bool
  | .ofNat a, .ofNat b => Nat.blt a b
  | .ofNat _, .negSucc _ => false
  | .negSucc _, .ofNat _ => true
  | .negSucc a, .negSucc b => Nat.blt b a
def eqF : Int → Int → Bool
  | .ofNat a, .ofNat b => Nat.beq a b
  | .ofNat _, .negSucc _ => false
  | .negSucc _, .ofNat _ => false
  | .negSucc a, .negSucc b => Nat.beq a b

def intA (op : BinOp) (t : TypeId) (k : IntKind) (a : Int) (k' : IntKind) (b : Int) : Option AV :=
  match op, k, k' with
  | .add, .i64, .i64 => some (.lit (.int .i64 (wrapF .i64 (addF a b))))
  | .sub, .i64, .i64 => some (.lit (.int .i64 (wrapF .i64 (subF a b))))
  | .lss, .i64, .i64 => some (.lit (.bool (ltF a b)))
  | .geq, .i64, .i64 => some (.lit (.bool (!(ltF a b))))
  | .gtr, .i64, .i64 => some (.lit (.bool (ltF b a)))
  | .leq, .i64, .i64 => some (.lit (.bool (!(ltF b a))))
  | .eql, .i64, .i64 => some (.lit (.bool (eqF a b)))
  | .neq, .i64, .i64 => some (.lit (.bool (!(eqF a b))))
  | op, k, k' => pureV (binOp op t (.int k a) (.int k' b))

def litA (op : BinOp) (t : TypeId) (e : Option AV) : Value → Value → Option AV
  | .int k m, .int k' n => intA op t k m k' n
  | .string a, .string b => pureV (binOp op t (.string a) (.string b))
  | .float k a, .float k' b => pureV (binOp op t (.float k a) (.float k' b))
  | .complex k a b, .complex k' c d => pureV (binOp op t (.complex k a b) (.complex k' c d))
  | _, _ => e
noncomputable def convA (C : Ctx) (dst : TypeId) (x : AV) : Option AV :=
  match C.tys.get dst, x with
  | some ti, .lit (.int _ n) => match ti.desc with
    | .int k => some (.lit (.int k (k.wrap n)))
    | .float k => pureV (Conv.intToFloat k n)
    | _ => none
  | some ti, .lit (.float s b) => match ti.desc with
    | .int k => pureV (Conv.floatToInt s b k)
    | .float k => pureV (Conv.floatToFloat s b k)
    | _ => none
  | _, _ => none

def boundsA (len cap : Nat) (lo hi mx : Option AV) : Option (Nat × Nat × Nat) :=
  match mx with
  | some v => match natOf? v cap with
    | none => none
    | some m => match hi with
      | none => none
      | some v => match natOf? v m with
        | none => none
        | some h => match lo with
          | none => some (0, h, m)
          | some v => match natOf? v h with
            | none => none
            | some l => some (l, h, m)
  | none => match hi with
    | none => match lo with
      | none => some (0, len, cap)
      | some v => match natOf? v len with
        | none => none
        | some l => some (l, len, cap)
    | some v => match natOf? v cap with
      | none => none
      | some h => match lo with
        | none => some (0, h, cap)
        | some v => match natOf? v h with
          | none => none
          | some l => some (l, h, cap)

noncomputable def evo (e : Env) : Option Operand → Option (Option AV)
  | none => some none
  | some x => match ev e x with
    | none => none
    | some v => some (some v)

noncomputable def sliceA (C : Ctx) (h : Hp) (t : TypeId) (x : AV) (lo hi mx : Option AV) : Option (AV × Hp) :=
  match C.tys.get t with
  | none => none
  | some ti => match ti.desc with
    | .array n e => match C.tys.get e, x with
      | some te, .ptr b off => match boundsA n n lo hi mx with
        | some (l, r, m) => some (.slice b (cond (Nat.beq m l) off (off + l * te.size)) (r - l) false (m - l) 0, h)
        | none => none
      | _, _ => none
    | .slice e => match C.tys.get e with
      | none => none
      | some te => match x with
        | .lit (.slice none 0 0) => match boundsA 0 0 lo hi mx with
          | some _ => some (x, h)
          | none => none
        | .slice b off len false cap _ => match boundsA len cap lo hi mx with
          | some (l, r, m) => some (.slice b (cond (Nat.beq m l) off (off + l * te.size)) (r - l) false (m - l) 0, h)
          | none => none
        | .slice b off len true o z => match boundsA len len lo hi mx with
          | none => none
          | some (l, r, m) => match mx with
            | some _ => cond (Nat.beq m 0 && !(Nat.beq z off)) none (some (.slice b (cond (Nat.beq m l) off (off + l * te.size)) (r - l) false (m - l) 0, h))
            | none => some (.slice b (off + l * te.size) (r - l) true (o + l) (cond (Nat.beq l 0) z off), h)
        | _ => none
    | .string => match x, mx with
      | .lit (.string s), none => match boundsA s.size s.size lo hi none with
        | some (l, r, _) => some (.lit (.string (s.extract l r)), h)
        | none => none
      | _, _ => none
    | _ => none

noncomputable def indexAddrA (C : Ctx) (t : TypeId) (x i : AV) : Option AV :=
  match C.tys.get t with
  | none => none
  | some ti => match ti.desc, i with
    | .array n e, .lit (.int _ (.ofNat k)) => match C.tys.get e, x with
      | some te, .ptr b off => cond (Nat.blt k n) (some (.ptr b (off + k * te.size))) none
      | _, _ => none
    | .slice e, .lit (.int _ (.ofNat k)) => match C.tys.get e, x with
      | some te, .slice b off len _ _ _ => cond (Nat.blt k len) (some (.ptr b (off + k * te.size))) none
      | _, _ => none
    | _, _ => none

noncomputable def fieldAddrA (C : Ctx) (t : TypeId) (x : AV) (f : Nat) : Option AV :=
  match C.tys.get t with
  | none => none
  | some ti => match ti.desc, x with
    | .struct fs, .ptr b off => match fs[f]? with
      | none => none
      | some fd => match C.tys.get fd.type with
        | some tf => cond (Nat.blt 0 tf.size) (some (.ptr b (off + fd.offset))) none
        | none => none
    | _, _ => none

noncomputable def partA (C : Ctx) (t : TypeId) (cs : List AV) (off : Nat) : Option AV :=
  match C.tys.get t with
  | none => none
  | some ti => cond (isAggD ti.desc) (cond (Nat.ble (off + ti.size) cs.length) (some (.agg ((cs.drop off).take ti.size))) none) cs[off]?

/-! Structs are compared by their fields. -/
noncomputable def aggO : AV → Option (List AV)
  | .agg cs => some cs
  | .lit (.agg cs) => some (litCells cs.toList)
  | _ => none
def eqB : TypeDesc → AV → AV → Option Bool
  | .int _, .lit (.int k a), .lit (.int k' b) => cond (k == k') (some (eqF a b)) none
  | .string, .lit (.string a), .lit (.string b) => some (a.data.toList == b.data.toList)
  | d, a, b => eqD d a b
def eqTwo (step : TypeId → AV → AV → Option Bool) (t : TypeId) : Option AV → Option AV → Option Bool
  | some a, some b => step t a b
  | _, _ => none
def eqNext (r : Option Bool) : Option Bool → Option Bool
  | some true => r
  | some false => some false
  | none => none
noncomputable def eqFs (step : TypeId → AV → AV → Option Bool) (C : Ctx) (xs ys : List AV) (l : List Field) : Option Bool :=
  List.rec (motive := fun _ => Option Bool) (some true) (fun f _ r => cond (f.name == "_") none (eqNext r (eqTwo step f.type (partA C f.type xs f.offset) (partA C f.type ys f.offset)))) l
noncomputable def eqS (step : TypeId → AV → AV → Option Bool) (C : Ctx) (fs : List Field) (cmp : Bool) : Option (List AV) → Option (List AV) → Option Bool
  | some xs, some ys => cond cmp (eqFs step C xs ys fs) none
  | _, _ => none
noncomputable def eqT (step : TypeId → AV → AV → Option Bool) (C : Ctx) (a b : AV) : Option TI → Option Bool
  | some ti => match ti.desc with
    | .struct fs => eqS step C fs.toList ti.cmp (aggO a) (aggO b)
    | d => eqB d a b
  | none => none
noncomputable def eqV (C : Ctx) (n : Nat) : TypeId → AV → AV → Option Bool :=
  Nat.rec (motive := fun _ => TypeId → AV → AV → Option Bool) (fun _ _ _ => none) (fun _ step t a b => eqT step C a b (C.tys.get t)) n
noncomputable def binL (C : Ctx) (op : BinOp) (t : TypeId) (x y : AV) : Option AV :=
  match x, y with
  | .lit a, .lit b => litA op t (eqA op (.lit a) (.lit b) (C.tys.get t)) a b
  | x, y => eqA op x y (C.tys.get t)
noncomputable def binG (C : Ctx) (op : BinOp) (t : TypeId) (x y : AV) : Option (List AV) → Option (List AV) → Option AV
  | some _, some _ => eqOp op (eqV C 6 t x y)
  | _, _ => binL C op t x y
noncomputable def binA (C : Ctx) (op : BinOp) (t : TypeId) (x y : AV) : Option AV := binG C op t x y (aggO x) (aggO y)

noncomputable def fieldA (C : Ctx) (t : TypeId) (x : AV) (f : Nat) : Option AV :=
  match C.tys.get t with
  | none => none
  | some ti => match ti.desc with
    | .struct fs => match fs[f]?, x with
      | some fd, .agg cs => partA C fd.type cs fd.offset
      | some fd, .lit (.agg cs) => partA C fd.type (litCells cs.toList) fd.offset
      | _, _ => none
    | _ => none

noncomputable def indexA (C : Ctx) (t : TypeId) (x i : AV) : Option AV :=
  match C.tys.get t with
  | none => none
  | some ti => match ti.desc, i with
    | .array n e, .lit (.int _ (.ofNat k)) => match C.tys.get e with
      | none => none
      | some te => cond (Nat.blt k n) (match x with
        | .agg cs => partA C e cs (k * te.size)
        | .lit (.agg cs) => partA C e (litCells cs.toList) (k * te.size)
        | _ => none) none
    | .string, .lit (.int _ (.ofNat k)) => match x with
      | .lit (.string s) => match s[k]? with
        | some b => some (.lit (.int .u8 b.toNat))
        | none => none
      | _ => none
    | _, _ => none

noncomputable def buildA (C : Ctx) (t : TypeId) (ps : List (Nat × AV)) : Option AV :=
  match C.tys.get t with
  | none => none
  | some ti =>
    let z := cellsOf (.lit ti.zero)
    match ti.desc with
    | .struct fs => match fillA (placeOf C fs) z.length z ps with
      | some cs => some (.agg cs)
      | none => none
    | .array _ e => match C.tys.get e with
      | none => none
      | some te => match fillA (fun i => some (i * te.size, te.size)) z.length z ps with
        | some cs => some (.agg cs)
        | none => none
    | _ => none

noncomputable def buildSliceA (C : Ctx) (h : Hp) (t : TypeId) (len : Nat) (ps : List (Nat × AV)) : Option (AV × Hp) :=
  match C.tys.get t with
  | none => none
  | some ti => match ti.desc with
    | .slice e => match C.tys.get e with
      | none => none
      | some te =>
        cond (Nat.ble (len * te.size) 65536 && Nat.blt 0 te.size)
          (match fillA (fun i => some (i * te.size, te.size)) (len * te.size) (repl (cellsOf (.lit te.zero)) len) ps with
          | some cs => some (.slice h.c 0 len false len 0, newBlk h cs e 0)
          | none => none) none
    | _ => none

noncomputable def makeSliceA (C : Ctx) (h : Hp) (t : TypeId) (l c : AV) : Option (AV × Hp) :=
  match C.tys.get t with
  | none => none
  | some ti => match ti.desc with
    | .slice e => match C.tys.get e with
      | none => none
      | some te => match natOf? c 1048576 with
        | none => none
        | some c => match natOf? l c with
          | none => none
          | some l => cond (Nat.blt 0 te.size && Nat.ble te.bytes 1024)
            (some (.slice h.c 0 l false c 0, newBlk h (repl (cellsOf (.lit te.zero)) c) e 0)) none
    | _ => none

noncomputable def bytesA (l : List UInt8) : List AV :=
  List.rec (motive := fun _ => List AV) [] (fun b _ r => .lit (.int .u8 b.toNat) :: r) l

/-- the first n elements of a slice or a string, as cells -/
noncomputable def elemsA (h : Hp) (size n : Nat) : AV → Option (List AV)
  | .lit (.slice none 0 0) => some []
  | .lit (.string s) => cond (Nat.beq size 1) (some ((bytesA s.data.toList).take n)) none
  | .slice b off _ _ _ _ => cond (Nat.beq n 0) (some []) (load h b off (n * size))
  | _ => none

def lenA : AV → Option Nat
  | .lit (.slice none 0 0) => some 0
  | .lit (.string s) => some s.size
  | .slice _ _ len _ _ _ => some len
  | _ => none

noncomputable def appendA (C : Ctx) (h : Hp) (t xt : TypeId) (s x : AV) : Option (AV × Hp) :=
  match C.tys.get t, C.tys.get xt with
  | some ti, some tx => match ti.desc with
    | .slice e => match C.tys.get e, lenA x with
      | some te, some k =>
        cond (Nat.blt 0 te.size && Nat.ble te.bytes 65536 && Nat.ble k 1048576 && (match tx.desc with | .slice _ => true | .string => true | _ => false))
        (match elemsA h te.size k x with
        | none => none
        | some news => match s with
          | .lit (.slice none 0 0) => cond (Nat.beq k 0) (some (s, h)) (some (.slice h.c 0 k true 0 0, newBlk h news e te.size))
          | .slice b off len false cap _ =>
            cond (Nat.ble (len + k) cap)
              (match store h b (off + len * te.size) news with
              | some h' => some (.slice b off (len + k) false cap 0, h')
              | none => none)
              (cond (Nat.ble (len + k) 1048576) (match load h b off (len * te.size) with
              | some olds => some (.slice h.c 0 (len + k) true 0 0, newBlk h (olds ++ news) e te.size)
              | none => none) none)
          | .slice b off len true o z => match h.m.get b with
            | none => none
            | some blk =>
              cond (Nat.beq blk.grow te.size && Nat.beq off (o * te.size) && Nat.ble (len + k) 1048576)
                (cond (Nat.ble ((o + len + k) * te.size) blk.n && Nat.blt 0 (len + k))
                  (match store h b (off + len * te.size) news with
                  | some h' => some (.slice b off (len + k) true o z, h')
                  | none => none)
                  (cond (Nat.beq o 0 && Nat.beq z 0 && Nat.beq (len * te.size) blk.n && Nat.beq blk.elem e && onesA news)
                    (some (.slice h.c 0 (len + k) true 0 0, ⟨(h.m.put b none).put h.c (some ⟨setCells blk.cells blk.n news, blk.n + k * te.size, e, te.size⟩), h.c + 1, h.ro⟩))
                    none))
                none
          | _ => none) none
      | _, _ => none
    | _ => none
  | _, _ => none

noncomputable def copyA (C : Ctx) (h : Hp) (t : TypeId) (d x : AV) : Option (AV × Hp) :=
  match C.tys.get t with
  | none => none
  | some ti => match ti.desc with
    | .slice e => match C.tys.get e, lenA x, d with
      | some te, some k, .slice b off len _ _ _ =>
        let n := Nat.min k len
        match elemsA h te.size n x with
        | none => none
        | some cs => cond (Nat.beq n 0) (some (.lit (.int .i64 n), h)) (match store h b off cs with
          | some h' => some (.lit (.int .i64 n), h')
          | none => none)
      | some _, some _, .lit (.slice none 0 0) => some (.lit (.int .i64 0), h)
      | _, _, _ => none
    | _ => none

noncomputable def clearA (C : Ctx) (h : Hp) (t : TypeId) (x : AV) : Option (AV × Hp) :=
  match C.tys.get t with
  | none => none
  | some ti => match ti.desc with
    | .slice e => match C.tys.get e, x with
      | some _, .lit (.slice none 0 0) => some (uv, h)
      | some te, .slice b off len _ _ _ => cond (Nat.beq len 0) (some (uv, h)) (match store h b off (repl (cellsOf (.lit te.zero)) len) with
          | some h' => some (uv, h')
          | none => none)
      | _, _ => none
    | _ => none

noncomputable def builtinA (C : Ctx) (h : Hp) (b : Builtin) (ts : List TypeId) (vs : List AV) : Option (AV × Hp) :=
  match b, ts, vs with
  | .append, [t, xt], [s, x] => appendA C h t xt s x
  | .copy, [t, _], [d, x] => copyA C h t d x
  | .clear, [t], [x] => clearA C h t x
  | .len, [t], [x] => match C.tys.get t with
    | none => none
    | some ti => match ti.desc, x with
      | .array n _, _ => some (.lit (.int .i64 n), h)
      | .string, .lit (.string s) => some (.lit (.int .i64 s.size), h)
      | .slice _, .lit (.slice none 0 0) => some (.lit (.int .i64 0), h)
      | .slice _, .slice _ _ len _ _ _ => some (.lit (.int .i64 len), h)
      | _, _ => none
  | .cap, [t], [x] => match C.tys.get t with
    | none => none
    | some ti => match ti.desc, x with
      | .array n _, _ => some (.lit (.int .i64 n), h)
      | .slice _, .lit (.slice none 0 0) => some (.lit (.int .i64 0), h)
      | .slice _, .slice _ _ _ false c _ => some (.lit (.int .i64 c), h)
      | _, _ => none
  | .min, _, [.lit a, .lit b] => match pureV (Builtin.min_ #[] 0 #[a, b]) with
    | some v => some (v, h)
    | none => none
  | .max, _, [.lit a, .lit b] => match pureV (Builtin.max_ #[] 0 #[a, b]) with
    | some v => some (v, h)
    | none => none
  | .real, _, [.lit a] => match pureV (Builtin.real_ #[] 0 #[a]) with
    | some v => some (v, h)
    | none => none
  | .imag, _, [.lit a] => match pureV (Builtin.imag_ #[] 0 #[a]) with
    | some v => some (v, h)
    | none => none
  | .complex, _, [.lit a, .lit b] => match pureV (Builtin.complex_ #[] 0 #[a, b]) with
    | some v => some (v, h)
    | none => none
  | _, _, _ => none

def withH (h : Hp) : Option AV → Option (AV × Hp)
  | some v => some (v, h)
  | none => none
def pickA (h : Hp) (a b : Option AV) : Option AV → Option (AV × Hp)
  | some (.lit (.bool true)) => withH h a
  | some (.lit (.bool false)) => withH h b
  | _ => none
noncomputable def allocA (h : Hp) (t : TypeId) : Option TI → Option (AV × Hp)
  | some ti => cond (Nat.blt 0 ti.size) (some (.ptr h.c 0, newBlk h (cellsOf (.lit ti.zero)) t 0)) none
  | none => none
noncomputable def boxA (h : Hp) (t : TypeId) : Option AV → Option (AV × Hp)
  | some v => some (.ptr h.c 0, newBlk h (cellsOf v) t 0)
  | none => none
noncomputable def oBuild (C : Ctx) (h : Hp) (t : TypeId) : Option (List (Nat × AV)) → Option (AV × Hp)
  | some ps => withH h (buildA C t ps)
  | none => none
noncomputable def oBuildSlice (C : Ctx) (h : Hp) (t : TypeId) (n : Nat) : Option (List (Nat × AV)) → Option (AV × Hp)
  | some ps => buildSliceA C h t n ps
  | none => none
def aggH (h : Hp) : Option (List AV) → Option (AV × Hp)
  | some cs => some (.agg cs, h)
  | none => none
def oneH (h : Hp) : Option (List AV) → Option (AV × Hp)
  | some [v] => some (v, h)
  | _ => none
noncomputable def oLoad (h : Hp) : Option TI → Option AV → Option (AV × Hp)
  | some ti, some (.ptr n off) => cond (isAggD ti.desc) (aggH h (load h n off ti.size)) (oneH h (load h n off 1))
  | _, _ => none
def skipH : Option Hp → Option (AV × Hp)
  | some h => some (uv, h)
  | none => none
noncomputable def oStore (h : Hp) : Option TI → Option AV → Option AV → Option (AV × Hp)
  | some ti, some (.ptr n off), some v => cond (Nat.beq (cellsOf v).length ti.size) (skipH (store h n off (cellsOf v))) none
  | _, _, _ => none
def nilCheckA (h : Hp) : Option AV → Option (AV × Hp)
  | some (.ptr n off) => some (.ptr n off, h)
  | _ => none
noncomputable def oBin (C : Ctx) (h : Hp) (op : BinOp) (t : TypeId) : Option AV → Option AV → Option (AV × Hp)
  | some a, some b => withH h (binA C op t a b)
  | _, _ => none
def oUn (h : Hp) (op : UnOp) : Option AV → Option (AV × Hp)
  | some (.lit a) => withH h (pureV (Op.unary op a))
  | _ => none
noncomputable def oConv (C : Ctx) (h : Hp) (dst : TypeId) : Option TI → Option AV → Option (AV × Hp)
  | some _, some a => withH h (convA C dst a)
  | _, _ => none
def oFn (h : Hp) (f : Fn) : List Operand → Option (List AV) → Option (AV × Hp)
  | [], some cs => some (.fn f cs, h)
  | _, _ => none
noncomputable def oMakeSlice (C : Ctx) (h : Hp) (t : TypeId) : Option AV → Option AV → Option (AV × Hp)
  | some l, some c => makeSliceA C h t l c
  | _, _ => none
noncomputable def oSlice (C : Ctx) (h : Hp) (t : TypeId) : Option AV → Option (Option AV) → Option (Option AV) → Option (Option AV) → Option (AV × Hp)
  | some x, some lo, some hi, some mx => sliceA C h t x lo hi mx
  | _, _, _, _ => none
noncomputable def oFieldAddr (C : Ctx) (h : Hp) (t : TypeId) (f : Nat) : Option AV → Option (AV × Hp)
  | some v => withH h (fieldAddrA C t v f)
  | none => none
noncomputable def oField (C : Ctx) (h : Hp) (t : TypeId) (f : Nat) : Option AV → Option (AV × Hp)
  | some v => withH h (fieldA C t v f)
  | none => none
noncomputable def oIndexAddr (C : Ctx) (h : Hp) (t : TypeId) : Option AV → Option AV → Option (AV × Hp)
  | some x, some i => withH h (indexAddrA C t x i)
  | _, _ => none
noncomputable def oIndex (C : Ctx) (h : Hp) (t : TypeId) : Option AV → Option AV → Option (AV × Hp)
  | some x, some i => withH h (indexA C t x i)
  | _, _ => none
def oExtract (h : Hp) (i : Nat) : Option AV → Option (AV × Hp)
  | some (.tup vs) => withH h vs[i]?
  | _ => none
noncomputable def oBuiltin (C : Ctx) (h : Hp) (ts : List TypeId) (vs : Option (List AV)) : Callee → Option (AV × Hp)
  | .builtin b => match vs with
    | some vs => builtinA C h b ts vs
    | none => none
  | _ => none

/-- the operations that call no function -/
noncomputable def opA (C : Ctx) (e : Env) (h : Hp) : Op → Option (AV × Hp)
  | .move x => withH h (ev e x)
  | .assign x => withH h (ev e x)
  | .pick c a b => pickA h (ev e a) (ev e b) (ev e c)
  | .alloc t => allocA h t (C.tys.get t)
  | .box t x => boxA h t (ev e x)
  | .build t ps => oBuild C h t (evParts e ps.toList)
  | .buildSlice t n ps => oBuildSlice C h t n (evParts e ps.toList)
  | .load t x => oLoad h (C.tys.get t) (ev e x)
  | .store t a x => oStore h (C.tys.get t) (ev e a) (ev e x)
  | .nilCheck x => nilCheckA h (ev e x)
  | .binOp op t x y _ => oBin C h op t (ev e x) (ev e y)
  | .unOp op _ x => oUn h op (ev e x)
  | .convert src dst x => oConv C h dst (C.tys.get src) (ev e x)
  | .makeFunc f first captured => oFn h f first.toList (evs e captured.toList)
  | .makeSlice t l c => oMakeSlice C h t (ev e l) (ev e c)
  | .slice t x lo hi mx => oSlice C h t (ev e x) (evo e lo) (evo e hi) (evo e mx)
  | .fieldAddr t x f => oFieldAddr C h t f (ev e x)
  | .field t x f => oField C h t f (ev e x)
  | .indexAddr t x i => oIndexAddr C h t (ev e x) (ev e i)
  | .index t x i => oIndex C h t (ev e x) (ev e i)
  | .extract x i => oExtract h i (ev e x)
  | .call c => oBuiltin C h c.argTypes.toList (evs e c.args.toList) c.callee
  | _ => none

def targetA : Option AV → Option (List AV) → Option (FuncId × List AV)
  | some (.lit (.func (.func g) ⟨[]⟩ ⟨[]⟩)), some vs => some (g, vs)
  | some (.fn (.func g) cs), some vs => some (g, vs ++ cs)
  | _, _ => none
noncomputable def calleeA (e : Env) (args : List Operand) : Callee → Option (FuncId × List AV)
  | .value f => targetA (ev e f) (evs e args)
  | _ => none
/-- a call of a function: its number and its arguments -/
noncomputable def callA (e : Env) : Op → Option (FuncId × List AV)
  | .call c => calleeA e c.args.toList c.callee
  | _ => none

def yieldA (want : Bool) : Option AV → Option Bool
  | some (.lit (.bool b)) => some (b == want)
  | some (.lit (.tuple _)) => some false
  | _ => none
noncomputable def guardA (e : Env) (want : Bool) : Option Oper → Option Bool
  | none => none
  | some oj => match oj.dst with
    | none => none
    | some d => yieldA want (e.get d)
noncomputable def wantedA (ops : List Oper) (e : Env) : Option (Nat × Bool) → Option Bool
  | none => some true
  | some (j, want) => guardA e want ops[j]?

noncomputable def putA (e : Env) (v : AV) : Option Tmp → Env
  | some d => e.put d (some v)
  | none => e

inductive AEx where
  | normal
  | exit (id : Nat)
  | goto (l : Nat)
  | ret

abbrev CallF := FuncId → List AV → Hp → Option (AV × Hp)
abbrev OpsK := Env → Hp → Option (Env × Hp)

noncomputable def afterA (k : OpsK) (e : Env) (dst : Option Tmp) : Option (AV × Hp) → Option (Env × Hp)
  | none => none
  | some (v, h) => k (putA e v dst) h
noncomputable def runOp (C : Ctx) (call : CallF) (k : OpsK) (o : Oper) (e : Env) (h : Hp) : Option (FuncId × List AV) → Option (Env × Hp)
  | some (f, vs) => afterA k e o.dst (call f vs h)
  | none => afterA k e o.dst (opA C e h o.op)
noncomputable def stepA (C : Ctx) (call : CallF) (k : OpsK) (o : Oper) (e : Env) (h : Hp) : Option Bool → Option (Env × Hp)
  | none => none
  | some false => k (putA e uv o.dst) h
  | some true => runOp C call k o e h (callA e o.op)
noncomputable def opsA (C : Ctx) (call : CallF) (all : List Oper) (l : List Oper) : OpsK :=
  List.rec (motive := fun _ => OpsK) (fun e h => some (e, h)) (fun o _ r e h => stepA C call r o e h (wantedA all e o.guard)) l

abbrev CodeK := Env → Hp → Option (AEx × Env × Hp)
abbrev CodeF := Code → CodeK

def thenA (k : CodeK) : Option (AEx × Env × Hp) → Option (AEx × Env × Hp)
  | none => none
  | some (x, e, h) => match x with
    | .normal => k e h
    | x => some (x, e, h)
noncomputable def loopA (ev : CodeK) (n : Nat) : CodeK :=
  Nat.rec (motive := fun _ => CodeK) (fun _ _ => none) (fun _ r e h => thenA r (ev e h)) n

def jumpA (k : CodeF) (body : Code) : Option (AEx × Env × Hp) → Option (AEx × Env × Hp)
  | none => none
  | some (x, e, h) => match x with
    | .goto l => match findLabel body l with
      | some rest => k rest e h
      | none => some (.goto l, e, h)
    | x => some (x, e, h)
noncomputable def scopeA (ev : CodeF) (body : Code) (n : Nat) : CodeF :=
  Nat.rec (motive := fun _ => CodeF) (fun _ _ _ => none) (fun _ r c e h => jumpA r body (ev c e h)) n

def normalA : Option (Env × Hp) → Option (AEx × Env × Hp)
  | none => none
  | some (e, h) => some (.normal, e, h)
def blockA (id : Nat) : Option (AEx × Env × Hp) → Option (AEx × Env × Hp)
  | none => none
  | some (x, e, h) => match x with
    | .exit j => cond (Nat.beq j id) (some (.normal, e, h)) (some (.exit j, e, h))
    | x => some (x, e, h)
def condA (a b : CodeK) (e : Env) (h : Hp) : Option AV → Option (AEx × Env × Hp)
  | some (.lit (.bool true)) => a e h
  | some (.lit (.bool false)) => b e h
  | _ => none

/-! Regions whose order is open: which of them come to the same in every order. -/
/-- 0: only its operands count; 1: it reads memory; 3: it makes memory, and does nothing else; 2: it changes memory, or calls -/
def kindB : Builtin → Nat
  | .len => 0
  | .cap => 0
  | .min => 0
  | .max => 0
  | .real => 0
  | .imag => 0
  | .complex => 0
  | _ => 2
def kindC : Callee → Nat
  | .builtin b => kindB b
  | _ => 2
def kindA : Op → Nat
  | .move _ => 0
  | .assign _ => 0
  | .pick _ _ _ => 0
  | .build _ _ => 0
  | .nilCheck _ => 0
  | .binOp _ _ _ _ _ => 0
  | .unOp _ _ _ => 0
  | .convert _ _ _ => 0
  | .makeFunc _ _ _ => 0
  | .slice _ _ _ _ _ => 0
  | .fieldAddr _ _ _ => 0
  | .field _ _ _ => 0
  | .indexAddr _ _ _ => 0
  | .index _ _ _ => 0
  | .extract _ _ => 0
  | .call c => kindC c.callee
  | .load _ _ => 1
  | .alloc _ => 3
  | .box _ _ => 3
  | .buildSlice _ _ _ => 3
  | .makeSlice _ _ _ => 3
  | _ => 2

def edgeMask (ms : List Nat) : List Edge → Nat
  | [] => 0
  | e :: es => cond (Region.binds .any e) (Nat.lor (Nat.lor (Nat.shiftLeft 1 e.on) (ms.getD e.on 0)) (edgeMask ms es)) (edgeMask ms es)
/-- of each operation: what comes before it, as bits -/
def masksOf : List Oper → List Nat → List Nat
  | [], acc => acc
  | o :: os, acc => masksOf os (acc ++ [edgeMask acc o.after.toList])
/-! Regions in which reads and changes are not ordered: each such read is done again where it may come, and has to give the same. -/
def litB : Value → Value → Bool
  | .int k m, .int k' n => (k == k') && (m == n)
  | .bool a, .bool b => a == b
  | .string a, .string b => a.data.toList == b.data.toList
  | .pointer none, .pointer none => true
  | .slice none 0 0, .slice none 0 0 => true
  | .nilFunc, .nilFunc => true
  | .nilIface, .nilIface => true
  | .float k a, .float k' b => (k == k') && (a == b)
  | .complex k a b, .complex k' c d => (k == k') && (a == c) && (b == d)
  | _, _ => false
def fnB : Fn → Fn → Bool
  | .func f, .func g => f == g
  | _, _ => false
def allB (f : AV → AV → Bool) : List AV → List AV → Bool
  | [], [] => true
  | x :: xs, y :: ys => f x y && allB f xs ys
  | _, _ => false
def avB1 (f : AV → AV → Bool) : AV → AV → Bool
  | .lit a, .lit b => litB a b
  | .ptr n o, .ptr n' o' => (n == n') && (o == o')
  | .slice n o l r c z, .slice n' o' l' r' c' z' => (n == n') && (o == o') && (l == l') && (r == r') && (c == c') && (z == z')
  | .fn g cs, .fn g' cs' => fnB g g' && allB f cs cs'
  | .iface t v, .iface t' v' => (t == t') && f v v'
  | .agg cs, .agg cs' => allB f cs cs'
  | .tup cs, .tup cs' => allB f cs cs'
  | _, _ => false
noncomputable def avB (n : Nat) : AV → AV → Bool :=
  Nat.rec (motive := fun _ => AV → AV → Bool) (fun _ _ => false) (fun _ f => avB1 f) n
noncomputable def sameR : Option (AV × Hp) → Option (AV × Hp) → Bool
  | some (v, _), some (v', _) => avB 4 v v'
  | _, _ => false
def rowD (m j : Nat) (y : Oper) : Nat → List Oper → List (Nat × Nat)
  | _, [] => []
  | i, x :: xs => cond (Nat.testBit m i) (rowD m j y (i + 1) xs) (cond (Nat.beq (kindA x.op) 1 && Nat.beq (kindA y.op) 2) ((i, j + 1) :: rowD m j y (i + 1) xs)
      (cond (Nat.beq (kindA x.op) 2 && Nat.beq (kindA y.op) 1) ((j, i) :: rowD m j y (i + 1) xs) (rowD m j y (i + 1) xs)))
def dynL : List Nat → List Oper → List Oper → List (Nat × Nat)
  | m :: ms, pre, y :: ys => rowD m pre.length y 0 pre ++ dynL ms (pre ++ [y]) ys
  | _, _, _ => []
def dynOf (ops : Array Oper) (draw : Bool) : List (Nat × Nat) := cond draw (dynL (masksOf ops.toList []) [] ops.toList) []
def preA (e : Env) (h : Hp) : Option (List (Env × Hp)) → Option (List (Env × Hp))
  | some l => some ((e, h) :: l)
  | none => none
def nextT (r : Env → Hp → Option (List (Env × Hp))) (e : Env) (h : Hp) : Option (Env × Hp) → Option (List (Env × Hp))
  | some (e', h') => preA e h (r e' h')
  | none => none
noncomputable def trA (C : Ctx) (call : CallF) (all : List Oper) (l : List Oper) : Env → Hp → Option (List (Env × Hp)) :=
  List.rec (motive := fun _ => Env → Hp → Option (List (Env × Hp))) (fun e h => some [(e, h)]) (fun o _ r e h => nextT r e h (opsA C call all [o] e h)) l
noncomputable def checkG (C : Ctx) (e : Env) (h hk : Hp) (op : Op) : Option Bool → Bool
  | some true => sameR (opA C e h op) (opA C e hk op)
  | some false => true
  | none => false
noncomputable def checkD (C : Ctx) (all : List Oper) : Option Oper → Option (Env × Hp) → Option (Env × Hp) → Bool
  | some o, some (e, h), some (_, hk) => checkG C e h hk o.op (wantedA all e o.guard)
  | _, _, _ => false
noncomputable def checksD (C : Ctx) (all : List Oper) (tr : List (Env × Hp)) (ps : List (Nat × Nat)) : Bool :=
  List.rec (motive := fun _ => Bool) true (fun p _ r => checkD C all all[p.1]? tr[p.1]? tr[p.2]? && r) ps
noncomputable def finD (C : Ctx) (all : List Oper) (ps : List (Nat × Nat)) : Option (List (Env × Hp)) → Option (Env × Hp)
  | some tr => cond (checksD C all tr ps) tr[all.length]? none
  | none => none
noncomputable def regB (C : Ctx) (call : CallF) (l : List Oper) (e : Env) (h : Hp) : List (Nat × Nat) → Option (Env × Hp)
  | [] => opsA C call l l e h
  | p :: ps => finD C l (p :: ps) (trA C call l l e h)
noncomputable def regA (C : Ctx) (call : CallF) (ops : Array Oper) (dr : Bool) (e : Env) (h : Hp) : Option (Env × Hp) := regB C call ops.toList e h (dynOf ops dr)

noncomputable def codeStep (C : Ctx) (call : CallF) (N : Nat) (k : CodeF) (e : Env) (h : Hp) : Code → Option (AEx × Env × Hp)
  | .skip => some (.normal, e, h)
  | .region _ ops dr => normalA (regA C call ops dr e h)
  | .seq a b => thenA (k b) (k a e h)
  | .cond c a b => condA (k a) (k b) e h (ev e c)
  | .block id b => blockA id (k b e h)
  | .loop b => loopA (k b) N e h
  | .scope b => scopeA k b N b e h
  | .exit id => some (.exit id, e, h)
  | .goto l => some (.goto l, e, h)
  | .label _ => some (.normal, e, h)
  | .ret => some (.ret, e, h)
  | _ => none
noncomputable def codeA (C : Ctx) (call : CallF) (N : Nat) (n : Nat) : CodeF :=
  Nat.rec (motive := fun _ => CodeF) (fun _ _ _ => none) (fun _ k c e h => codeStep C call N k e h c) n

noncomputable def enterEnv (args : List AV) (ntmps : Nat) : Env := setCells .leaf 0 (args ++ List.replicate (ntmps - args.length) uv)

def aggR (r : Option (List AV)) : Option (List AV) → Option (List AV)
  | some cs => consO (.agg cs) r
  | none => none
def oneR (r : Option (List AV)) : Option (List AV) → Option (List AV)
  | some [v] => consO v r
  | _ => none
noncomputable def resCell (h : Hp) (r : Option (List AV)) : Option TI → Option AV → Option (List AV)
  | some ti, some (.ptr n off) => cond (isAggD ti.desc) (aggR r (load h n off ti.size)) (oneR r (load h n off 1))
  | _, _ => none
noncomputable def resOne (C : Ctx) (e : Env) (h : Hp) (r : Option (List AV)) : ResultVar → Option (List AV)
  | .tmp t => consOO r (e.get t)
  | .cell a t => resCell h r (C.tys.get t) (e.get a)
noncomputable def resA (C : Ctx) (e : Env) (h : Hp) (l : List ResultVar) : Option (List AV) :=
  List.rec (motive := fun _ => Option (List AV)) (some []) (fun x _ r => resOne C e h r x) l

def tupA : List AV → AV
  | [v] => v
  | vs => .tup vs

def tupH (h : Hp) : Option (List AV) → Option (AV × Hp)
  | some vs => some (tupA vs, h)
  | none => none
noncomputable def returnA (C : Ctx) (rs : List ResultVar) : Option (AEx × Env × Hp) → Option (AV × Hp)
  | none => none
  | some (x, e, h) => match x with
    | .normal => tupH h (resA C e h rs)
    | .ret => tupH h (resA C e h rs)
    | _ => none
/-- functions without a text that are known -/
inductive ExtK where
  | fbits
  | ffrom
  | trunc
def extK (name : String) : Option ExtK := cond (name == "math.Float64bits") (some .fbits) (cond (name == "math.Float64frombits") (some .ffrom) (cond (name == "math.archTrunc") (some .trunc) none))
/-- what the model says of them -/
def extF : ExtK → Array Value → Sem Value
  | .fbits => Extern.MathFloatBits.float64bits
  | .ffrom => Extern.MathFloatBits.float64frombits
  | .trunc => Extern.MathFloor.toIntegral "math.archTrunc" .zero
def litsA : List AV → Option (List Value)
  | [] => some []
  | .lit v :: l => match litsA l with
    | some vs => some (v :: vs)
    | none => none
  | _ => none
def extA (h : Hp) : Option ExtK → List AV → Option (AV × Hp)
  | some k, args => match litsA args with
    | some vs => match pureV (extF k vs.toArray) with
      | some v => some (v, h)
      | none => none
    | none => none
  | none, _ => none
noncomputable def bodyA (C : Ctx) (call : CallF) (N : Nat) (args : List AV) (h : Hp) (fn : Func) : Option Code → Option (AV × Hp)
  | none => extA h (extK fn.name) args
  | some c => returnA C fn.results.toList (codeA C call N N c (enterEnv args fn.ntmps) h)
noncomputable def funA (C : Ctx) (call : CallF) (N : Nat) (args : List AV) (h : Hp) : Option Func → Option (AV × Hp)
  | none => none
  | some fn => bodyA C call N args h fn fn.body
/-- a call of function f: N bounds the rounds of each loop, the last number the depth of calls -/
noncomputable def runA (C : Ctx) (N : Nat) (n : Nat) : CallF :=
  Nat.rec (motive := fun _ => CallF) (fun _ _ _ => none) (fun _ call f args h => funA C call N args h (C.funs.get f)) n

def edgesDown (i : Nat) : List Edge → Bool
  | [] => true
  | e :: es => cond (Region.binds .any e) (Nat.blt e.on i && edgesDown i es) (edgesDown i es)
def allDown : Nat → List Oper → Bool
  | _, [] => true
  | i, o :: os => edgesDown i o.after.toList && allDown (i + 1) os
def kindsOk (x y : Nat) : Bool := Nat.beq x 0 || Nat.beq y 0 || ((Nat.beq x 1 || Nat.beq x 3) && (Nat.beq y 1 || Nat.beq y 3))
/-- operation y, of which the mask is m, and operation x at i ahead of it -/
def dynKinds (x y : Nat) : Bool := (Nat.beq x 1 && Nat.beq y 2) || (Nat.beq x 2 && Nat.beq y 1)
def isAlloc : Op → Bool
  | .alloc _ => true
  | .makeSlice _ _ _ => true
  | _ => false
/-- operation y at j makes memory of zeros, and whatever waits for it waits for operation i as well -/
def lateOk (MS : List Nat) (j i : Nat) (x y : Oper) : Bool := Nat.beq (kindA x.op) 2 && isAlloc y.op && MS.all fun mz => !(Nat.testBit mz j) || Nat.testBit mz i
def pairOk (ops : Array Oper) (MS : List Nat) (j m i : Nat) (x y : Oper) : Bool := Nat.testBit m i || (Oper.apart ops x y && (kindsOk (kindA x.op) (kindA y.op) || (dynKinds (kindA x.op) (kindA y.op) || lateOk MS j i x y)))
def rowOk (ops : Array Oper) (MS : List Nat) (j m : Nat) (y : Oper) : Nat → List Oper → Bool
  | _, [] => true
  | i, x :: xs => pairOk ops MS j m i x y && rowOk ops MS j m y (i + 1) xs
def pairsOk (ops : Array Oper) (MS : List Nat) : List Nat → List Oper → List Oper → Bool
  | m :: ms, pre, y :: ys => rowOk ops MS pre.length m y 0 pre && pairsOk ops MS ms (pre ++ [y]) ys
  | _, _, _ => true
def dstsOk (n : Nat) : List Oper → Bool
  | [] => true
  | o :: os => (match o.dst with | some d => Nat.blt d n | none => true) && dstsOk n os
def regOk (n : Nat) (ops : Array Oper) (draw : Bool) : Bool :=
  dstsOk n ops.toList && (!draw || (allDown 0 ops.toList && Region.noSelect ops && pairsOk ops (masksOf ops.toList []) (masksOf ops.toList []) [] ops.toList))
/-- what is asked of a function's text -/
def codeOk (n : Nat) : Code → Bool
  | .region _ ops draw => regOk n ops draw
  | .seq a b => codeOk n a && codeOk n b
  | .cond _ a b => codeOk n a && codeOk n b
  | .block _ b => codeOk n b
  | .loop b => codeOk n b
  | .scope b => codeOk n b
  | _ => true
end Go.Proofs.Abs
