import Derived.Test.YtmekepomgofiaaaCS00
set_option linter.all false
namespace Go.Ev
noncomputable section
section strict
variable {α β : Type}
noncomputable def setK (l : List α) (t : Nat) (d : α) (k : List α → β) : β :=
  @List.rec α (fun _ => Nat → (List α → β) → β) (fun _ k => k []) (fun x r ih t k => @Nat.rec (fun _ => β) (k (d :: r)) (fun t _ => ih t (fun r => k (x :: r))) t) l t k
noncomputable def appK (a b : List α) (k : List α → β) : β :=
  @List.rec α (fun _ => (List α → β) → β) (fun k => k b) (fun x _ ih k => ih (fun r => k (x :: r))) a k
noncomputable def getG {α : Type} (l : List α) (n : Nat) : Option α :=
  @List.rec α (fun _ => Nat → Option α) (fun _ => none) (fun x _ ih t => @Nat.rec (fun _ => Option α) (some x) (fun t _ => ih t) t) l n
theorem getG_eq {α : Type} (l : List α) (n : Nat) : getG l n = l[n]? := by
  induction l generalizing n with
  | nil => simp [getG]
  | cons x r ih => cases n with
    | zero => rfl
    | succ n => exact (ih n).trans (by simp)
noncomputable def dropG {α : Type} (l : List α) (n : Nat) : List α :=
  @List.rec α (fun _ => Nat → List α) (fun _ => []) (fun x r ih t => @Nat.rec (fun _ => List α) (x :: r) (fun t _ => ih t) t) l n
theorem dropG_eq {α : Type} (l : List α) (n : Nat) : dropG l n = l.drop n := by
  induction l generalizing n with
  | nil => simp [dropG]
  | cons x r ih => cases n with
    | zero => rfl
    | succ n => exact ih n
noncomputable def takeG {α : Type} (l : List α) (n : Nat) : List α :=
  @List.rec α (fun _ => Nat → List α) (fun _ => []) (fun x _ ih t => @Nat.rec (fun _ => List α) [] (fun t _ => x :: ih t) t) l n
theorem takeG_eq {α : Type} (l : List α) (n : Nat) : takeG l n = l.take n := by
  induction l generalizing n with
  | nil => simp [takeG]
  | cons x r ih => cases n with
    | zero => rfl
    | succ n => exact congrArg (x :: ·) (ih n)
noncomputable def lenG {α : Type} (l : List α) : Nat := @List.rec α (fun _ => Nat → Nat) (fun n => n) (fun _ _ ih n => ih (n + 1)) l 0
theorem lenG_eq {α : Type} (l : List α) : lenG l = l.length := by
  have : ∀ (l : List α) (n : Nat), @List.rec α (fun _ => Nat → Nat) (fun n => n) (fun _ _ ih n => ih (n + 1)) l n = n + l.length := by
    intro l
    induction l with
    | nil => intro n; rfl
    | cons x r ih => intro n; exact (ih (n + 1)).trans (by simp; omega)
  exact (this l 0).trans (by simp)
noncomputable def getK (l : List D) (t : Nat) : D :=
  @List.rec D (fun _ => Nat → D) (fun _ => .any) (fun x _ ih t => @Nat.rec (fun _ => D) x (fun t _ => ih t) t) l t
theorem getK_eq (l : List D) (t : Nat) : getK l t = l.getD t .any := by
  induction l generalizing t with
  | nil => rfl
  | cons x r ih => cases t with
    | zero => rfl
    | succ t => exact (ih t).trans (by simp)
def forceN (m : Nat) (k : Nat → β) : β := match m with
  | 0 => k 0
  | j + 1 => k (j + 1)
def forceI : Int → (Int → β) → β
  | .ofNat m => fun k => forceN m fun m => k (.ofNat m)
  | .negSucc m => fun k => forceN m fun m => k (.negSucc m)
noncomputable def forceL (l : List α) (k : List α → β) : β :=
  @List.rec α (fun _ => (List α → β) → β) (fun k => k []) (fun x _ ih k => ih (fun r => k (x :: r))) l k
def forceV : Value → (Value → β) → β
  | .int i n => fun k => forceI n fun n => k (.int i n)
  | .bool b => fun k => match b with | true => k (.bool true) | false => k (.bool false)
  | v => fun k => k v
def forceO (c : Option Nat) (k : Option Nat → β) : β := match c with
  | none => k none
  | some c => forceN c fun c => k (some c)
noncomputable def forceD : D → (D → β) → β
  | .val v => fun k => forceV v fun v => k (.val v)
  | .ptr id off => fun k => forceN id fun id => forceN off fun off => k (.ptr id off)
  | .sl id off len e cap => fun k => forceN id fun id => forceN off fun off => forceN len fun len => forceN e fun e => forceO cap fun cap => k (.sl id off len e cap)
  | .row e len f => fun k => forceN e fun e => forceN len fun len => k (.row e len f)
  | .ref cs off => fun k => forceL cs fun cs => forceN off fun off => k (.ref cs off)
  | .agg ds => fun k => forceL ds fun ds => k (.agg ds)
  | .tup ds => fun k => forceL ds fun ds => k (.tup ds)
  | d => fun k => k d
def forceX (ex : Bool) (v : Value) (k : Value → β) : β := match ex with
  | true => k v
  | false => forceV v k
def forceE (ex : Bool) (d : D) (k : D → β) : β := match ex with
  | true => k d
  | false => forceD d k
@[simp] theorem setK_eq (l : List α) (t : Nat) (d : α) (k : List α → β) : setK l t d k = k (l.set t d) := by
  induction l generalizing t k with
  | nil => rfl
  | cons x r ih => cases t with
    | zero => rfl
    | succ t => exact (ih t _).trans (by simp)
@[simp] theorem appK_eq (a b : List α) (k : List α → β) : appK a b k = k (a ++ b) := by
  induction a generalizing k with
  | nil => rfl
  | cons x r ih => exact (ih _).trans rfl
@[simp] theorem forceN_eq (m : Nat) (k : Nat → β) : forceN m k = k m := by cases m <;> rfl
@[simp] theorem forceI_eq (m : Int) (k : Int → β) : forceI m k = k m := by cases m <;> simp [forceI]
@[simp] theorem forceL_eq (l : List α) (k : List α → β) : forceL l k = k l := by
  induction l generalizing k with
  | nil => rfl
  | cons x r ih => exact (ih _).trans rfl
@[simp] theorem forceV_eq (v : Value) (k : Value → β) : forceV v k = k v := by
  cases v with
  | int i n => simp [forceV]
  | bool b => cases b <;> rfl
  | _ => rfl
@[simp] theorem forceO_eq (c : Option Nat) (k : Option Nat → β) : forceO c k = k c := by cases c <;> simp [forceO]
@[simp] theorem forceD_eq (d : D) (k : D → β) : forceD d k = k d := by
  cases d <;> simp [forceD]
@[simp] theorem forceX_eq (ex : Bool) (v : Value) (k : Value → β) : forceX ex v k = k v := by
  cases ex <;> simp [forceX]
@[simp] theorem forceE_eq (ex : Bool) (d : D) (k : D → β) : forceE ex d k = k d := by
  cases ex <;> simp [forceE]
end strict
def ofV : Value → D
  | .agg vs => .agg (vs.toList.map .val)
  | .tuple vs => .tup (vs.toList.map .val)
  | v => .val v
def evF : Operand → List D → D
  | .tmp t => fun sl => getK sl t
  | .const v => fun _ => ofV v
  | .global g => fun _ => .val (.pointer (some ⟨g, 0, none⟩))
  | .func f => fun _ => .fn f [] []
def evO (sl : List D) (x : Operand) : D := evF x sl
def evL (sl : List D) : List Operand → List D
  | [] => []
  | x :: l => evO sl x :: evL sl l
def cellsD : D → Option (List D)
  | .any => none
  | .tup _ => none
  | .agg ds => some ds
  | .val v => if plain v then some [.val v] else none
  | d => some [d]
def okCell : D → Bool
  | .any | .agg _ | .tup _ => false
  | .val v => plain v
  | _ => true
/-- n: none: one cell that is no aggregate -/
def ofCells : Option Nat → List D → Nat → Option D
  | none, cs, off => getG cs off
  | some n, cs, off => if off + n ≤ lenG cs then some (.agg (takeG (dropG cs off) n)) else none

inductive AOp where
  | mov (x : Operand)
  | pick (c a b : Operand)
  | zero (cs : List D)
  | box (n : Nat) (x : Operand)
  | build (zero : List D) (parts : List (Nat × Nat × Operand))
  | bslice (k len : Nat) (zero : List D) (parts : List (Nat × Operand))
  | load (n : Option Nat) (a : Operand)
  | store (n : Nat) (a x : Operand)
  | nilCheck (x : Operand)
  | bin (kb : Bool) (op : BinOp) (x y : Operand)
  | eqNil (kd : Nat) (op : BinOp) (x y : Operand)
  | eqAgg (op : BinOp) (ks : List Nat) (x y : Operand)
  | un (op : UnOp) (x : Operand)
  | convInt (k : IntKind) (x : Operand)
  | convStr (x : Operand)
  | mkFn (f : FuncId) (first cap : List Operand)
  | mkSlice (k bytes : Nat) (zero : List D) (len cap : Operand)
  | slice (k : Nat) (x : Operand) (lo hi mx : Option Operand)
  | faddr (off : Nat) (x : Operand)
  | field (n : Option Nat) (off : Nat) (x : Operand)
  | iaddr (k : Nat) (x i : Operand)
  | extract (x : Operand) (i : Nat)
  | call (f : FuncId) (args : List Operand)
  | callv (f : Operand) (args : List Operand)
  | len (str : Bool) (x : Operand)
  | append (k : Nat) (s x : Operand)
  | copy (k : Nat) (d s : Operand)
  | clear (k : Nat) (zero : List D) (x : Operand)
  | minmax (mx : Bool) (xs : List Operand)
  | aidx (n : Option Nat) (len k : Nat) (x i : Operand)
  | sidx (x i : Operand)
  | sslice (x : Operand) (lo hi : Option Operand)
  | s2b (x : Operand)
  | b2s (x : Operand)
  | appS (s x : Operand)
  | copS (d s : Operand)
  | mkMap
  | mlook (kd : Nat) (z : D) (ok : Bool) (m k : Operand)
  | mput (kd : Nat) (m k v : Operand)
  | mputS (nf : Nat) (m k v : Operand)
  | mlen (x : Operand)
  | ixb (x c : Operand)
  | mkI (t : TypeId) (x : Operand)
  | eqPtr (op : BinOp) (x y : Operand)
  | mlookS (nf : Nat) (z : D) (ok : Bool) (m k : Operand)
  | emptyS
  deriving Inhabited

section comp
variable (P : Program)
def aggT (t : TypeId) : Option Bool := match P.underlying t with
  | some (.struct _) | some (.array _ _) => some true
  | some _ => some false
  | none => none
def sizT (t : TypeId) : Option Nat := (P.info? t).map (·.size)
/-- none: one cell -/
def shapeT (t : TypeId) : Option (Option Nat) := match aggT P t, sizT P t with
  | some true, some n => some (some n)
  | some false, some 1 => some none
  | _, _ => none
def zeroT (t : TypeId) : Option (List D) := match P.info? t with
  | some i => match i.zero with
    | some z => cellsD (ofV z)
    | none => none
  | none => none
def fieldsT (t : TypeId) : Option (Array Field) := match P.underlying t with | some (.struct fs) => some fs | _ => none
def elemT (t : TypeId) : Option TypeId := match P.underlying t with | some (.slice e) => some e | _ => none
def scalarK (t : TypeId) : Option Nat := match P.underlying t with | some (.int _) => some 0 | some .bool => some 1 | some .string => some 2 | _ => none
def kindsT : List Field → Nat → Option (List Nat)
  | [], _ => some []
  | f :: l, i => match scalarK P f.type, kindsT l (i + 1) with
    | some k, some r => if f.name != "_" && f.offset == i then some (k :: r) else none
    | _, _ => none
def compParts (fs : Array Field) : List (Nat × Operand) → Option (List (Nat × Nat × Operand))
  | [] => some []
  | (i, x) :: l => match fs[i]? with
    | some f => match sizT P f.type, compParts fs l with
      | some n, some r => some ((f.offset, n, x) :: r)
      | _, _ => none
    | none => none
def isU8 (t : TypeId) : Bool := match P.underlying t with | some (.int .u8) => true | _ => false
def zeroD (t : TypeId) : Option D := match P.info? t with | some i => (match i.zero with | some z => some (ofV z) | none => none) | none => none
def isIxb (f : FuncId) : Bool := match P.funcs[f]? with
  | some fn => fn.body.isNone && fn.name == "internal/bytealg.IndexByteString" && !(fn.name == "runtime.NumGoroutine") && (Extern.findNext fn).isNone
  | none => false
def compCall (f : FuncId) (args : List Operand) : Option AOp := match isIxb P f with
  | true => match args with
    | [x, y] => some (.ixb x y)
    | _ => none
  | false => some (.call f args)
def comp (o : Oper) : Option AOp := match o.op with
  | .move x | .assign x => some (.mov x)
  | .pick c a b => some (.pick c a b)
  | .alloc t => match zeroT P t with | some z => some (.zero z) | none => none
  | .box t x => match sizT P t with | some n => some (.box n x) | none => none
  | .build t parts => match P.underlying t with
    | some (.array _ e) => match zeroT P t, sizT P e with
      | some z, some k => some (.build z (parts.toList.map fun p => (p.1 * k, k, p.2)))
      | _, _ => none
    | _ => match zeroT P t, fieldsT P t with
      | some z, some fs => match compParts P fs parts.toList, fs.toList.all fun f => (sizT P f.type).isSome with | some l, true => some (.build z l) | _, _ => none
      | _, _ => none
  | .buildSlice t len parts => match elemT P t with
    | some e => match sizT P e, zeroT P e with
      | some k, some z => if 0 < k && len * k ≤ 16777216 && z.length == k then some (.bslice k len z parts.toList) else none
      | _, _ => none
    | none => none
  | .load t a => match shapeT P t with | some n => some (.load n a) | none => none
  | .store t a x => match sizT P t with | some n => some (.store n a x) | none => none
  | .nilCheck x => some (.nilCheck x)
  | .binOp op t x y _ => match P.underlying t with
    | some .bool => some (.bin true op x y)
    | some (.int _) | some .string => some (.bin false op x y)
    | some (.slice _) => some (.eqNil 0 op x y)
    | some (.pointer e) => match sizT P e with
      | some (_ + 1) => some (.eqPtr op x y)
      | _ => some (.eqNil 1 op x y)
    | some (.func _ _ _) => some (.eqNil 2 op x y)
    | some (.map _ _) => some (.eqNil 3 op x y)
    | some (.struct fs) => match kindsT P fs.toList 0 with
      | some ks => if !P.stoodInHeld t && !P.eqGuardType P.depth t then some (.eqAgg op ks x y) else none
      | none => none
    | some (.array n e) => match scalarK P e, P.info? e with
      | some k, some i => if i.size == 1 && !P.stoodInHeld t && !P.eqGuardType P.depth t then some (.eqAgg op (List.replicate n k) x y) else none
      | _, _ => none
    | _ => none
  | .unOp op _ x => some (.un op x)
  | .convert s d x => match P.underlying s, P.underlying d with
    | some (.int _), some (.int k) => some (.convInt k x)
    | some .string, some .string => some (.convStr x)
    | some .string, some (.slice e) => match isU8 P e with | true => some (.s2b x) | false => none
    | some (.slice e), some .string => match isU8 P e with | true => some (.b2s x) | false => none
    | _, _ => none
  | .makeMap _ none => some .mkMap
  | .makeInterface t x => match P.underlying t with
    | some (.interface _) => none
    | some _ => some (.mkI t x)
    | none => none
  | .index t x i => match P.underlying t with
    | some (.array n e) => match shapeT P e, sizT P e with
      | some s, some k => some (.aidx s n k x i)
      | _, _ => none
    | some .string => some (.sidx x i)
    | _ => none
  | .lookup t m k ok => match P.underlying t with
    | some (.map kt et) => match scalarK P kt, zeroD P et with
      | some kd, some z => some (.mlook kd z ok m k)
      | none, some z => match P.underlying kt with
        | some (.struct fs) => match kindsT P fs.toList 0 with
          | some _ => some (.mlookS fs.size z ok m k)
          | none => none
        | _ => none
      | _, _ => none
    | _ => none
  | .mapUpdate t m k v => match P.underlying t with
    | some (.map kt _) => match scalarK P kt with
      | some kd => some (.mput kd m k v)
      | none => match P.underlying kt with
        | some (.struct fs) => match kindsT P fs.toList 0 with
          | some _ => some (.mputS fs.size m k v)
          | none => none
        | _ => none
    | _ => none
  | .makeFunc (.func f) a b => some (.mkFn f a.toList b.toList)
  | .makeSlice t l c => match elemT P t with
    | some e => match P.info? e, zeroT P e with
      | some i, some z => if 0 < i.size && z.length == i.size then some (.mkSlice i.size i.bytes z l c) else none
      | _, _ => none
    | none => none
  | .slice t x lo hi mx => match elemT P t with
    | some e => match sizT P e with | some k => if 0 < k then some (.slice k x lo hi mx) else none | none => none
    | none => match P.underlying t, mx with
      | some .string, none => some (.sslice x lo hi)
      | _, _ => none
  | .fieldAddr s x i => match fieldsT P s with
    | some fs => match fs[i]? with
      | some f => match sizT P f.type with | some n => if 0 < n then some (.faddr f.offset x) else none | none => none
      | none => none
    | none => none
  | .field s x i => match fieldsT P s with
    | some fs => match fs[i]? with
      | some f => match shapeT P f.type with | some n => some (.field n f.offset x) | none => none
      | none => none
    | none => none
  | .indexAddr t x i => match elemT P t with
    | some e => match sizT P e with | some k => if 0 < k then some (.iaddr k x i) else none | none => none
    | none => none
  | .extract x i => some (.extract x i)
  | .call c => match c.callee with
    | .value (.func f) => compCall P f c.args.toList
    | .value x => some (.callv x c.args.toList)
    | .builtin .len => match c.args.toList, (c.argTypes[0]?).bind P.underlying with
      | [x], some (.slice _) => some (.len false x)
      | [x], some .string => some (.len true x)
      | [x], some (.map _ _) => some (.mlen x)
      | _, _ => none
    | .builtin .append => match c.args.toList, c.argTypes[0]?, (c.argTypes[1]?).bind P.underlying with
      | [s, x], some t, some (.slice _) => match elemT P t with
        | some e => match P.info? e, zeroT P e with
          | some i, some z => if 0 < i.size && i.bytes ≤ 65536 && z.length == i.size then some (.append i.size s x) else none
          | _, _ => none
        | none => none
      | [s, x], some t, some .string => match elemT P t with
        | some e => match P.info? e, zeroT P e with
          | some i, some z => if i.size == 1 && i.bytes ≤ 65536 && z.length == i.size then some (.appS s x) else none
          | _, _ => none
        | none => none
      | _, _, _ => none
    | .builtin .copy => match c.args.toList, c.argTypes[0]?, (c.argTypes[1]?).bind P.underlying with
      | [d, s], some t, some (.slice _) => match elemT P t with
        | some e => match sizT P e with | some k => if 0 < k then some (.copy k d s) else none | none => none
        | none => none
      | [d, s], some t, some .string => match elemT P t with
        | some e => match sizT P e with | some k => if k == 1 then some (.copS d s) else none | none => none
        | none => none
      | _, _, _ => none
    | .builtin .clear => match c.args.toList, c.argTypes[0]? with
      | [x], some t => match elemT P t with
        | some e => match sizT P e, zeroT P e with
          | some k, some z => if 0 < k && z.length == k then some (.clear k z x) else none
          | _, _ => none
        | none => none
      | _, _ => none
    | .builtin .max => some (.minmax true c.args.toList)
    | .builtin .min => some (.minmax false c.args.toList)
    | _ => none
  | _ => none
end comp

structure Out where
  p : Option Prop
  d : D
  δ : List (Nat × Blk)
  grow : List Blk

def ok (d : D) : Option Out := some ⟨none, d, [], []⟩
def shiftD (op : BinOp) (k : IntKind) (x y : Int) : Option Value :=
  if y < 0 then none else match op with
  | .shl => some (.int k (k.wrap (x * 2 ^ (min y.toNat k.bits))))
  | .shr => some (.int k (x.fdiv (2 ^ (min y.toNat k.bits))))
  | _ => none
def cmpI (op : BinOp) (x y : Int) : Option Bool := match op with
  | .eql => some (x == y)
  | .neq => some (x != y)
  | .lss => some (decide (x < y))
  | .leq => some (decide (x ≤ y))
  | .gtr => some (decide (x > y))
  | .geq => some (decide (x ≥ y))
  | _ => none
def bytesLs : List UInt8 → List UInt8 → Bool := Op.bytesLess
def bytesOfS (x : ByteArray) : List UInt8 := x.data.toList
def catB (x y : ByteArray) : ByteArray := ⟨⟨bytesOfS x ++ bytesOfS y⟩⟩
def strD (op : BinOp) (x y : ByteArray) : Option Value := match op with
  | .add => if (((bytesOfS x).length + (bytesOfS y).length : Nat) : Int) > 1048576 then none else some (.string (catB x y))
  | .eql => some (.bool (bytesOfS x == bytesOfS y))
  | .neq => some (.bool (!(bytesOfS x == bytesOfS y)))
  | .lss => some (.bool (Op.bytesLess x.toList y.toList))
  | .leq => some (.bool (Op.bytesLess x.toList y.toList || x.toList == y.toList))
  | .gtr => some (.bool (!(Op.bytesLess x.toList y.toList || x.toList == y.toList)))
  | .geq => some (.bool (!(Op.bytesLess x.toList y.toList)))
  | _ => none
def isSh : BinOp → Bool
  | .shl | .shr => true
  | _ => false
def inRange (k : IntKind) (n : Int) : Prop := k.min ≤ n ∧ n ≤ k.max
def wrapV (ex : Bool) (k : IntKind) (n : Int) : Option (Option Prop × Value) := match ex with
  | true => match k.signed with
    | true => some (some (inRange k n), .int k n)
    | false => some (none, .int k (k.wrap n))
  | false => some (none, .int k (k.wrap n))
def quoV (ex : Bool) (k : IntKind) (x y : Int) : Option (Option Prop × Value) := match ex with
  | true => some (some (0 ≤ x ∧ 0 < y ∧ x ≤ k.max), .int k (x / y))
  | false => if y = 0 then none else some (none, .int k (k.wrap (x.tdiv y)))
def remV (ex : Bool) (k : IntKind) (x y : Int) : Option (Option Prop × Value) := match ex with
  | true => some (some (0 ≤ x ∧ 0 < y), .int k (x % y))
  | false => if y = 0 then none else some (none, .int k (x.tmod y))
def justV (v : Option Value) : Option (Option Prop × Value) := match v with | some v => some (none, v) | none => none
def bitsV (op : BinOp) (k : IntKind) (x y : Int) : Option (Option Prop × Value) := match op with
  | .and => some (none, .int k (k.wrap (BitVec.ofInt k.bits x &&& BitVec.ofInt k.bits y).toNat))
  | .or => some (none, .int k (k.wrap (BitVec.ofInt k.bits x ||| BitVec.ofInt k.bits y).toNat))
  | .xor => some (none, .int k (k.wrap (BitVec.ofInt k.bits x ^^^ BitVec.ofInt k.bits y).toNat))
  | .andNot => some (none, .int k (k.wrap (BitVec.ofInt k.bits x &&& ~~~ BitVec.ofInt k.bits y).toNat))
  | _ => none
def boolV (b : Bool) : Option (Option Prop × Value) := some (none, .bool b)
def intF : BinOp → Bool → IntKind → Int → Int → Option (Option Prop × Value)
  | .add => fun ex k x y => wrapV ex k (x + y)
  | .sub => fun ex k x y => wrapV ex k (x - y)
  | .mul => fun ex k x y => wrapV ex k (x * y)
  | .quo => fun ex k x y => quoV ex k x y
  | .rem => fun ex k x y => remV ex k x y
  | .and => fun _ k x y => bitsV .and k x y
  | .or => fun _ k x y => bitsV .or k x y
  | .xor => fun _ k x y => bitsV .xor k x y
  | .andNot => fun _ k x y => bitsV .andNot k x y
  | .shl => fun _ k x y => justV (shiftD .shl k x y)
  | .shr => fun _ k x y => justV (shiftD .shr k x y)
  | .eql => fun _ _ x y => boolV (x == y)
  | .neq => fun _ _ x y => boolV (x != y)
  | .lss => fun _ _ x y => boolV (decide (x < y))
  | .leq => fun _ _ x y => boolV (decide (x ≤ y))
  | .gtr => fun _ _ x y => boolV (decide (x > y))
  | .geq => fun _ _ x y => boolV (decide (x ≥ y))
def intV (ex : Bool) (k : IntKind) (x y : Int) (op : BinOp) : Option (Option Prop × Value) := intF op ex k x y
def boV (op : BinOp) (a b : Bool) : Option (Option Prop × Value) := match op with
  | .eql => boolV (a == b)
  | .neq => boolV (!(a == b))
  | _ => none
def sameK (op : BinOp) (k k' : IntKind) : Bool := isSh op || k == k'
def int2V (ex : Bool) (k k' : IntKind) (x y : Int) (op : BinOp) : Option (Option Prop × Value) := match sameK op k k' with
  | true => intV ex k x y op
  | false => none
def strX (ex : Bool) (op : BinOp) (a b : ByteArray) : Option (Option Prop × Value) := match ex with
  | false => justV (strD op a b)
  | true => match op with
    | .add => some (some ((bytesOfS a).length + (bytesOfS b).length ≤ 1048576), .string (catB a b))
    | op => justV (strD op a b)
/-- ex: sums are told exact, on a condition -/
def binV (ex : Bool) (op : BinOp) : Value → Value → Option (Option Prop × Value)
  | .int k x, .int k' y => int2V ex k k' x y op
  | .string a, .string b => strX ex op a b
  | .bool a, .bool b => boV op a b
  | _, _ => none
def isNilV : Value → Bool
  | .pointer none | .nilFunc | .map none => true
  | .slice none _ _ => true
  | _ => false
/-- is it nil? of what is there -/
def nilD (hp : List Blk) : D → Option Bool
  | .val v => if isNilV v then some true else none
  | .ptr id _ | .sl id _ _ _ _ | .map id => match getG hp id with | some .dead | none => none | _ => some false
  | .ref _ _ => some false
  | .fn _ _ _ => some false
  | .row _ len _ => if 0 < len then some false else none
  | .emp _ => some false
  | _ => none
def kindD (kd : Nat) : D → Bool
  | .val (.slice _ _ _) | .sl _ _ _ _ _ | .row _ _ _ | .emp _ => kd == 0
  | .val (.pointer _) | .ptr _ _ | .ref _ _ => kd == 1
  | .val .nilFunc | .fn _ _ _ => kd == 2
  | .val (.map _) | .map _ => kd == 3
  | _ => false
def nilK (kd : Nat) (hp : List Blk) (d : D) : Option Bool := match kindD kd d with
  | true => nilD hp d
  | false => none
def unV (op : UnOp) : Value → Option Value
  | .int k n => match op with
    | .neg => some (.int k (k.wrap (0 - n)))
    | .xor => some (.int k (k.wrap (BitVec.ofInt k.bits (if k.signed then -1 else k.max) ^^^ BitVec.ofInt k.bits n).toNat))
    | _ => none
  | .bool b => match op with | .not => some (.bool (!b)) | _ => none
  | _ => none
def fillD : List D → List (Nat × List D) → Option (List D)
  | cells, [] => some cells
  | cells, (off, cs) :: l => if off + cs.length ≤ cells.length then fillD (cells.take off ++ cs ++ cells.drop (off + cs.length)) l else none
def partsD (sl : List D) : List (Nat × Nat × Operand) → Option (List (Nat × List D))
  | [] => some []
  | (off, n, x) :: l => match cellsD (evO sl x), partsD sl l with
    | some cs, some r => if cs.length == n then some ((off, cs) :: r) else none
    | _, _ => none
def partsS (sl : List D) (k : Nat) : List (Nat × Operand) → Option (List (Nat × List D))
  | [] => some []
  | (i, x) :: l => match cellsD (evO sl x), partsS sl k l with
    | some cs, some r => if cs.length == k then some ((i * k, cs) :: r) else none
    | _, _ => none
def rep (n : Nat) (z : List D) : List D := match n with | 0 => [] | n + 1 => z ++ rep n z
def cellsAt (hp : List Blk) (id : Nat) : Option (List D) := match getG hp id with | some (.cells cs) => some cs | _ => none
/-- the cells of the first n elements of a slice -/
def contents (hp : List Blk) (k : Nat) : D → Option (Nat × List D)
  | .val (.slice none 0 _) => some (0, [])
  | .sl id off len k' _ => if k' = k then match cellsAt hp id with | some cs => if off + len * k ≤ cs.length then some (len, (cs.drop off).take (len * k)) else none | none => none else none
  | .row k' len f => if k' = k ∧ (List.range len).all (fun i => (f i).length == k) = true then some (len, (List.range len).flatMap fun i => f i) else none
  | .emp _ => some (0, [])
  | _ => none
def intOf : D → Option Int
  | .val (.int _ n) => some n
  | _ => none
def boundN (x : Option D) (dflt : Nat) : Option Nat := match x with
  | none => some dflt
  | some d => match intOf d with
    | some n => if 0 ≤ n then some n.toNat else none
    | none => none
def appendTo (hp : List Blk) (nid k n m : Nat) (a b : List D) : D → Option Out
  | .val (.slice none 0 0) => if 0 < m then some ⟨none, .sl nid 0 (n + m) k none, [(nid, .cells (a ++ b))], []⟩ else ok (.val (.slice none 0 0))
  | .emp z => if 0 < m then (match z with | true => some ⟨none, .sl nid 0 (n + m) k none, [(nid, .cells (a ++ b))], []⟩ | false => none) else ok (.emp z)
  | .sl id off n' k' cap => match cap with
    | none => match cellsAt hp id with
      | some cs => if off = 0 ∧ k' = k ∧ n' * k = cs.length then some ⟨none, .sl nid 0 (n + m) k none, [(nid, .cells (a ++ b)), (id, .dead)], []⟩ else none
      | none => none
    | some c => if n + m ≤ c then none else some ⟨none, .sl nid 0 (n + m) k none, [(nid, .cells (a ++ b))], []⟩
  | _ => none
def put (cs : List D) (off : Nat) (new : List D) : List D := cs.take off ++ new ++ cs.drop (off + new.length)
def kindOk (k : Nat) : Value → Bool
  | .int _ _ => k == 0
  | .bool _ => k == 1
  | .string _ => k == 2
  | _ => false
def eqCells : List Nat → List D → List D → Option Bool
  | [], [], [] => some true
  | k :: ks, .val a :: x, .val b :: y => match kindOk k a && kindOk k b with
    | true => match binV false .eql a b with
      | some (none, .bool t) => match eqCells ks x y with | some u => some (t && u) | none => none
      | _ => none
    | false => none
  | _, _, _ => none
/-- what an operation does, in slots 'sl' over the own blocks 'hp'; nid: the number of its new block -/
def c_mov (sl : List D) (hp : List Blk) (nid : Nat) (x : Operand) : Option Out := ok (evO sl x)
def c_pick (sl : List D) (hp : List Blk) (nid : Nat) (c : Operand) (a : Operand) (b : Operand) : Option Out := match evO sl c with
    | .val (.bool t) => match t with | true => ok (evO sl a) | false => ok (evO sl b)
    | _ => none
def c_zero (sl : List D) (hp : List Blk) (nid : Nat) (cs : List D) : Option Out := some ⟨none, .ptr nid 0, [(nid, .cells cs)], []⟩
def c_box (sl : List D) (hp : List Blk) (nid : Nat) (n : Nat) (x : Operand) : Option Out := match cellsD (evO sl x) with
    | some cs => if cs.length = n then some ⟨none, .ptr nid 0, [(nid, .cells cs)], []⟩ else none
    | none => none
def c_build (sl : List D) (hp : List Blk) (nid : Nat) (z : List D) (parts : List (Nat × Nat × Operand)) : Option Out := match partsD sl parts with
    | some l => match fillD z l with | some cs => ok (.agg cs) | none => none
    | none => none
def c_bslice (sl : List D) (hp : List Blk) (nid : Nat) (k : Nat) (len : Nat) (z : List D) (parts : List (Nat × Operand)) : Option Out := match partsS sl k parts with
    | some l => match fillD (rep len z) l with
      | some cs => some ⟨none, .sl nid 0 len k none, [(nid, .cells cs)], []⟩
      | none => none
    | none => none
def c_load (sl : List D) (hp : List Blk) (nid : Nat) (n : Option Nat) (a : Operand) : Option Out := match evO sl a with
    | .ptr id off => match cellsAt hp id with
      | some cs => match ofCells n cs off with | some d => ok d | none => none
      | none => none
    | .ref cs off => match ofCells n cs off with | some d => ok d | none => none
    | _ => none
def c_store (sl : List D) (hp : List Blk) (nid : Nat) (n : Nat) (a : Operand) (x : Operand) : Option Out := match evO sl a, cellsD (evO sl x) with
    | .ptr id off, some new => match cellsAt hp id with
      | some cs => if new.length = n ∧ off + n ≤ cs.length ∧ new.all okCell = true then some ⟨none, .tup [], [(id, .cells (put cs off new))], []⟩ else none
      | none => none
    | _, _ => none
def c_nilCheck (sl : List D) (hp : List Blk) (nid : Nat) (x : Operand) : Option Out := match nilD hp (evO sl x) with
    | some false => ok (evO sl x)
    | _ => none
def boolOk (kb : Bool) : Value → Bool
  | .bool _ => kb
  | _ => true
def c_bin (ex : Bool) (sl : List D) (hp : List Blk) (nid : Nat) (kb : Bool) (op : BinOp) (x : Operand) (y : Operand) : Option Out := match evO sl x, evO sl y with
    | .val a, .val b => match boolOk kb a with
      | true => match binV ex op a b with | some (p, v) => forceX ex v fun v => some ⟨p, .val v, [], []⟩ | none => none
      | false => none
    | _, _ => none
def c_eqNil (sl : List D) (hp : List Blk) (nid : Nat) (kd : Nat) (op : BinOp) (x : Operand) (y : Operand) : Option Out := match nilK kd hp (evO sl x), nilK kd hp (evO sl y) with
    | some a, some b => match a || b with
      | true => match op with
        | .eql => ok (.val (.bool (a && b)))
        | .neq => ok (.val (.bool (!(a && b))))
        | _ => none
      | false => none
    | _, _ => none
def c_eqAgg (sl : List D) (hp : List Blk) (nid : Nat) (op : BinOp) (ks : List Nat) (x : Operand) (y : Operand) : Option Out := match evO sl x, evO sl y with
    | .agg a, .agg b => match eqCells ks a b with
        | some t => match op with
          | .eql => ok (.val (.bool t))
          | .neq => ok (.val (.bool (!t)))
          | _ => none
        | none => none
    | _, _ => none
def c_un (sl : List D) (hp : List Blk) (nid : Nat) (op : UnOp) (x : Operand) : Option Out := match evO sl x with
    | .val a => match unV op a with | some v => ok (.val v) | none => none
    | _ => none
def c_convInt (sl : List D) (hp : List Blk) (nid : Nat) (k : IntKind) (x : Operand) : Option Out := match evO sl x with
    | .val (.int _ n) => ok (.val (.int k (k.wrap n)))
    | _ => none
def c_convStr (sl : List D) (hp : List Blk) (nid : Nat) (x : Operand) : Option Out := match evO sl x with
    | .val (.string _) => ok (evO sl x)
    | _ => none
def c_mkFn (sl : List D) (hp : List Blk) (nid : Nat) (f : FuncId) (a : List Operand) (b : List Operand) : Option Out := ok (.fn f (evL sl a) (evL sl b))
def c_mkSlice (sl : List D) (hp : List Blk) (nid : Nat) (k : Nat) (bytes : Nat) (z : List D) (l : Operand) (c : Operand) : Option Out := match evO sl l, evO sl c with
    | .val (.int _ l), .val (.int _ c) =>
      if 0 ≤ l ∧ l ≤ c ∧ c ≤ 1048576 ∧ bytes * c.toNat ≤ 16777216 then some ⟨none, .sl nid 0 l.toNat k none, [(nid, .cells (rep c.toNat z))], []⟩ else none
    | _, _ => none
def c_slice (sl : List D) (hp : List Blk) (nid : Nat) (k : Nat) (x : Operand) (lo : Option Operand) (hi : Option Operand) (mx : Option Operand) : Option Out := match evO sl x with
    | .sl id off len k' cap => match boundN (lo.map (evO sl)) 0, boundN (hi.map (evO sl)) len, mx.map (evO sl) with
      | some l, some h, none => match cellsAt hp id with
        | some cs => if k' = k ∧ l ≤ h ∧ off + h * k ≤ cs.length ∧ h ≤ len then
            (if l < h then ok (.sl id (off + l * k) (h - l) k (cap.map fun c => c - l)) else if l = 0 then ok (.sl id off 0 k cap) else ok (.emp false))
          else none
        | none => none
      | some 0, some h, some (.val (.int _ m)) => match cellsAt hp id with
        | some cs => if k' = k ∧ (h : Int) ≤ m ∧ m ≤ len ∧ off + len * k ≤ cs.length ∧ hi.isSome = true then ok (.sl id off h k (some m.toNat)) else none
        | none => none
      | _, _, _ => none
    | .row k' len f => match boundN (lo.map (evO sl)) 0, boundN (hi.map (evO sl)) len, mx.map (evO sl) with
      | some l, some h, none => if k' = k ∧ l ≤ h ∧ h ≤ len then
          (if l < h then ok (.row k (h - l) fun i => f (i + l)) else none)
        else none
      | some 0, some 0, some (.val (.int _ 0)) => if k' = k ∧ 0 < len ∧ hi.isSome = true then ok (.emp true) else none
      | _, _, _ => none
    | _ => none
def c_faddr (sl : List D) (hp : List Blk) (nid : Nat) (o : Nat) (x : Operand) : Option Out := match evO sl x with
    | .ptr id off => match getG hp id with | some (.cells _) => ok (.ptr id (off + o)) | some (.arr _ _) => ok (.ptr id (off + o)) | _ => none
    | .ref cs off => ok (.ref cs (off + o))
    | _ => none
def c_field (sl : List D) (hp : List Blk) (nid : Nat) (n : Option Nat) (off : Nat) (x : Operand) : Option Out := match evO sl x with
    | .agg cs => match ofCells n cs off with | some d => ok d | none => none
    | _ => none
def c_iaddr (ex : Bool) (sl : List D) (hp : List Blk) (nid : Nat) (k : Nat) (x : Operand) (i : Operand) : Option Out := match evO sl x, evO sl i with
    | .sl id off len k' _, .val (.int _ i) => if k' = k ∧ 0 ≤ i ∧ i < len then match cellsAt hp id with
        | some _ => ok (.ptr id (off + i.toNat * k))
        | none => none
      else none
    | .row k' len f, .val (.int _ i) => if k' = k then match ex with
        | true => some ⟨some (0 ≤ i ∧ i < len), .ref (f i.toNat) 0, [], []⟩
        | false => if 0 ≤ i ∧ i < len then ok (.ref (f i.toNat) 0) else none
      else none
    | _, _ => none
def c_extract (sl : List D) (hp : List Blk) (nid : Nat) (x : Operand) (i : Nat) : Option Out := match evO sl x with
    | .tup ds => match getG ds i with | some d => ok d | none => none
    | _ => none
def c_call (cl : FuncId → List D → List Blk → Nat → Option Out) (sl : List D) (hp : List Blk) (nid : Nat) (f : FuncId) (args : List Operand) : Option Out := cl f (evL sl args) hp nid
def c_callv (cl : FuncId → List D → List Blk → Nat → Option Out) (sl : List D) (hp : List Blk) (nid : Nat) (x : Operand) (args : List Operand) : Option Out := match evO sl x with
    | .fn f a b => cl f (a ++ evL sl args ++ b) hp nid
    | _ => none
def c_len (sl : List D) (hp : List Blk) (nid : Nat) (str : Bool) (x : Operand) : Option Out := match evO sl x with
    | .val (.string s) => match str with | true => ok (.val (.int .i64 (bytesOfS s).length)) | false => none
    | .val (.slice _ n _) => match str with | false => ok (.val (.int .i64 n)) | true => none
    | .sl id _ n _ _ => match cellsAt hp id with | some _ => (match str with | false => ok (.val (.int .i64 n)) | true => none) | none => none
    | .row _ n _ => match str with | false => ok (.val (.int .i64 n)) | true => none
    | .emp _ => match str with | false => ok (.val (.int .i64 0)) | true => none
    | _ => none
def c_append (sl : List D) (hp : List Blk) (nid : Nat) (k : Nat) (s : Operand) (x : Operand) : Option Out := match contents hp k (evO sl s), contents hp k (evO sl x) with
    | some (n, a), some (m, b) => if n + m ≤ 1048576 ∧ b.all okCell = true then appendTo hp nid k n m a b (evO sl s) else none
    | _, _ => none
def c_copy (sl : List D) (hp : List Blk) (nid : Nat) (k : Nat) (d : Operand) (s : Operand) : Option Out := match evO sl d, contents hp k (evO sl s) with
    | .sl id off n k' _, some (m, b) => match cellsAt hp id with
      | some cs => if k' = k ∧ off + n * k ≤ cs.length ∧ b.all okCell = true then some ⟨none, .val (.int .i64 (Nat.min m n)), [(id, .cells (put cs off (b.take (Nat.min m n * k))))], []⟩ else none
      | none => none
    | _, _ => none
def c_clear (sl : List D) (hp : List Blk) (nid : Nat) (k : Nat) (z : List D) (x : Operand) : Option Out := match evO sl x with
    | .sl id off n k' _ => match cellsAt hp id with
      | some cs => if k' = k ∧ off + n * k ≤ cs.length ∧ z.all okCell = true then some ⟨none, .tup [], [(id, .cells (put cs off (rep n z)))], []⟩ else none
      | none => none
    | _ => none
def addN (a b : Nat) : Nat := match a with | 0 => b | a + 1 => a + 1 + b
def mulN (a k : Nat) : Nat := match Nat.beq k 1 with | true => a | false => a * k
def tabL (n : Nat) (f : Nat → D) : List D := (List.range n).map f
def tabF (f : Nat → D) (off : Nat) : Nat → List D
  | 0 => []
  | q + 1 => f off :: tabF f (off + 1) q
def updF (f : Nat → D) (off : Nat) : List D → Nat → D
  | [] => f
  | [d] => fun j => match Nat.beq j off with | true => d | false => f j
  | d :: e :: ds => updF (fun j => match Nat.beq j off with | true => d | false => f j) (off + 1) (e :: ds)
def zF (z : List D) (k : Nat) : Nat → D := match Nat.beq k 1 with | true => (match z with | [d] => fun _ => d | _ => fun j => getK z (j % 1)) | false => fun j => getK z (j % k)
def rowF (f : Nat → List D) (k : Nat) : Nat → D := match Nat.beq k 1 with | true => fun j => getK (f j) 0 | false => fun j => getK (f (j / k)) (j % k)
def catF (a : Nat) (g h : Nat → D) : Nat → D := match Nat.beq a 0 with | true => h | false => fun j => match Nat.ble (j + 1) a with | true => g j | false => h (j - a)
def seen (hp : List Blk) (id : Nat) : Bool := match getG hp id with | some (.cells _) => true | some (.arr _ _) => true | _ => false
def c_loadS (sl : List D) (hp : List Blk) (nid : Nat) (n : Option Nat) (a : Operand) : Option Out := match evO sl a with
  | .ptr id off => match getG hp id with
    | some (.arr m f) => match n with
      | none => some ⟨some (off < m), f off, [], []⟩
      | some q => some ⟨some (off + q ≤ m), .agg (tabF f off q), [], []⟩
    | _ => c_load sl hp nid n a
  | _ => c_load sl hp nid n a
def c_storeS (sl : List D) (hp : List Blk) (nid : Nat) (n : Nat) (a x : Operand) : Option Out := match evO sl a with
  | .ptr id off => match getG hp id with
    | some (.arr m f) => match cellsD (evO sl x) with
      | some new => match Nat.beq (lenG new) n && new.all okCell with
        | true => some ⟨some (off + n ≤ m), .tup [], [(id, .arr m (updF f off new))], []⟩
        | false => none
      | none => none
    | _ => c_store sl hp nid n a x
  | _ => c_store sl hp nid n a x
def c_mkSliceS (sl : List D) (hp : List Blk) (nid : Nat) (k : Nat) (bytes : Nat) (z : List D) (l c : Operand) : Option Out := match evO sl l, evO sl c with
  | .val (.int _ l), .val (.int _ c) => match Nat.beq (lenG z) k && Nat.ble 1 k with
    | true => some ⟨some (0 ≤ l ∧ l ≤ c ∧ c ≤ 1048576 ∧ bytes * c.toNat ≤ 16777216), .sl nid 0 l.toNat k none, [(nid, .arr (mulN c.toNat k) (zF z k))], []⟩
    | false => none
  | _, _ => none
def c_iaddrS (sl : List D) (hp : List Blk) (nid : Nat) (k : Nat) (x i : Operand) : Option Out := match evO sl x with
  | .sl id off len k' _ => match evO sl i with
    | .val (.int _ i) => match Nat.beq k' k && seen hp id with
      | true => some ⟨some (0 ≤ i ∧ i < len), .ptr id (addN off (mulN i.toNat k)), [], []⟩
      | false => none
    | _ => none
  | _ => c_iaddr true sl hp nid k x i
/-- the elements that are appended: a condition, how many, how many cells, which -/
def secondA (hp : List Blk) (k : Nat) : D → Option (Prop × Nat × Nat × (Nat → D))
  | .sl id 0 m k' _ => match Nat.beq k' k with
    | true => match getG hp id with
      | some (.arr q h) => some (m * k = q ∧ ∀ j, j < q → okCell (h j) = true, m, q, h)
      | _ => none
    | false => none
  | _ => none
def secondS (hp : List Blk) (k : Nat) : D → Option (Prop × Nat × Nat × (Nat → D))
  | .row k' m f => match Nat.beq k' k with
    | true => some (∀ i, i < m → (f i).length = k ∧ (f i).all okCell = true, m, mulN m k, rowF f k)
    | false => none
  | d => match secondA hp k d with
    | some r => some r
    | none => match contents hp k d with
      | some (m, b) => match b.all okCell && Nat.beq (lenG b) (m * k) with
        | true => some (True, m, lenG b, getK b)
        | false => none
      | none => none
def firstS (hp : List Blk) (k : Nat) : D → Option (Prop × Nat × Nat × Nat × (Nat → D))
  | .sl id off n k' none => match Nat.beq off 0 && Nat.beq k' k with
    | true => match getG hp id with
      | some (.cells cs) => match Nat.beq (n * k) (lenG cs) with | true => some (True, id, n, lenG cs, getK cs) | false => none
      | some (.arr q g) => some (n * k = q, id, n, q, g)
      | _ => none
    | false => none
  | _ => none
def isRow : D → Bool
  | .row _ _ _ => true
  | _ => false
def isArr (hp : List Blk) : D → Bool
  | .sl id _ _ _ _ => match getG hp id with | some (.arr _ _) => true | _ => false
  | _ => false
/-- a row appended to an empty slice: what it holds -/
def c_appE (sl : List D) (k : Nat) (s x : Operand) : Option Out := match evO sl s with
  | .emp true => match evO sl x with
    | .row k' m f => match Nat.beq k' k with
      | true => some ⟨some ((∀ i, i < m → (f i).length = k ∧ (f i).all okCell = true) ∧ m ≤ 1048576), .row k m f, [], []⟩
      | false => none
    | _ => none
  | _ => none
def c_appendS (sl : List D) (hp : List Blk) (nid : Nat) (k : Nat) (s x : Operand) : Option Out := match isRow (evO sl x) || isArr hp (evO sl s) with
  | true => match firstS hp k (evO sl s), secondS hp k (evO sl x) with
    | some (p, id, n, a, g), some (q, m, b, h) => some ⟨some (p ∧ q ∧ n + m ≤ 1048576), .sl nid 0 (n + m) k none, [(nid, .arr (a + b) (catF a g h)), (id, .dead)], []⟩
    | _, _ => c_appE sl k s x
  | false => c_append sl hp nid k s x
def c_lenS (sl : List D) (hp : List Blk) (nid : Nat) (str : Bool) (x : Operand) : Option Out := match evO sl x with
  | .sl id off n k cap => match seen hp id with
    | true => (match str with | false => ok (.val (.int .i64 n)) | true => none)
    | false => none
  | _ => c_len sl hp nid str x
def byteI (s : ByteArray) (i : Nat) : Int := ((bytesOfS s).getD i 0).toNat
def c_s2bS (sl : List D) (hp : List Blk) (nid : Nat) (x : Operand) : Option Out := match evO sl x with
  | .val (.string s) => some ⟨none, .sl nid 0 (bytesOfS s).length 1 none, [(nid, .arr (bytesOfS s).length fun i => .val (.int .u8 (byteI s i)))], []⟩
  | _ => none
def c_minmax (sl : List D) (hp : List Blk) (nid : Nat) (_mx : Bool) (_xs : List Operand) : Option Out := none
def c_aidx (sl : List D) (hp : List Blk) (nid : Nat) (n : Option Nat) (len k : Nat) (x i : Operand) : Option Out := match evO sl x, evO sl i with
    | .agg cs, .val (.int _ i) => if 0 ≤ i ∧ i < len then match ofCells n cs (i.toNat * k) with | some d => ok d | none => none else none
    | _, _ => none
def byteV (b : UInt8) : D := forceN b.toNat fun n => .val (.int .u8 n)
def bytesD (s : ByteArray) : List D := (bytesOfS s).map byteV
def c_sidx (sl : List D) (hp : List Blk) (nid : Nat) (x i : Operand) : Option Out := match evO sl x, evO sl i with
    | .val (.string s), .val (.int _ i) => if 0 ≤ i then match getG (bytesOfS s) i.toNat with | some b => ok (byteV b) | none => none else none
    | _, _ => none
def subB (s : ByteArray) (l h : Nat) : ByteArray := ⟨⟨((bytesOfS s).drop l).take (h - l)⟩⟩
def c_sslice (sl : List D) (hp : List Blk) (nid : Nat) (x : Operand) (lo hi : Option Operand) : Option Out := match evO sl x with
    | .val (.string s) => match boundN (lo.map (evO sl)) 0, boundN (hi.map (evO sl)) (bytesOfS s).length with
      | some l, some h => if l ≤ h ∧ h ≤ (bytesOfS s).length then ok (.val (.string (subB s l h))) else none
      | _, _ => none
    | _ => none
def byteAt (l : List D) (i : Nat) : List D := match getG l i with | some d => [d] | none => [.any]
def c_s2b (sl : List D) (hp : List Blk) (nid : Nat) (x : Operand) : Option Out := match evO sl x with
    | .val (.string s) => match bytesD s with
      | [] => ok (.emp false)
      | d :: l => forceL l fun l => ok (.row 1 (l.length + 1) (byteAt (d :: l)))
    | _ => none
def bytesB : List D → Option (List UInt8)
  | [] => some []
  | .val (.int .u8 n) :: l => match bytesB l with | some r => some (UInt8.ofNat n.toNat :: r) | none => none
  | _ => none
def c_b2s (sl : List D) (hp : List Blk) (nid : Nat) (x : Operand) : Option Out := match contents hp 1 (evO sl x) with
    | some (_, cs) => match bytesB cs with | some l => ok (.val (.string ⟨⟨l⟩⟩)) | none => none
    | none => none
def cellI : List D → Int
  | [.val (.int _ x)] => x
  | _ => 0
def c_b2sS (sl : List D) (hp : List Blk) (nid : Nat) (x : Operand) : Option Out := match evO sl x with
  | .row 1 n f => some ⟨some (∀ i, i < n → f i = [.val (.int .u8 (cellI (f i)))]), .val (.string ⟨⟨(List.range n).map fun i => UInt8.ofNat (cellI (f i)).toNat⟩⟩), [], []⟩
  | _ => c_b2s sl hp nid x
def c_appS (sl : List D) (hp : List Blk) (nid : Nat) (s x : Operand) : Option Out := match contents hp 1 (evO sl s), evO sl x with
    | some (n, a), .val (.string t) => if n + (bytesOfS t).length ≤ 1048576 then appendTo hp nid 1 n (bytesOfS t).length a (bytesD t) (evO sl s) else none
    | _, _ => none
def c_copS (sl : List D) (hp : List Blk) (nid : Nat) (d s : Operand) : Option Out := match evO sl d, evO sl s with
    | .sl id off n k' _, .val (.string t) => match cellsAt hp id with
      | some cs => if k' = 1 ∧ off + n ≤ cs.length then some ⟨none, .val (.int .i64 (Nat.min (bytesOfS t).length n)), [(id, .cells (put cs off ((bytesD t).take (Nat.min (bytesOfS t).length n))))], []⟩ else none
      | none => none
    | _, _ => none
def c_mkMap (sl : List D) (hp : List Blk) (nid : Nat) : Option Out := some ⟨none, .map nid, [(nid, .map [])], []⟩
def keyEq : Value → Value → Option Bool
  | .int k a, .int k' b => match k == k' with | true => some (a == b) | false => none
  | .string a, .string b => some (bytesOfS a == bytesOfS b)
  | .bool a, .bool b => some (a == b)
  | _, _ => none
def findD (key : Value) : List (Value × D) → Nat → Option (Option (Nat × D))
  | [], _ => some none
  | e :: l, i => match keyEq key e.1 with
    | some true => some (some (i, e.2))
    | some false => findD key l (i + 1)
    | none => none
def lookR (ok' b : Bool) (d : D) : Option Out := match ok' with
  | true => ok (.tup [d, .val (.bool b)])
  | false => ok d
def mapAt (hp : List Blk) (id : Nat) : Option (List (Value × D)) := match getG hp id with | some (.map es) => some es | _ => none
def lookM (hp : List Blk) (z : D) (ok' : Bool) (key : Value) : D → Option Out
  | .val (.map none) => lookR ok' false z
  | .map id => match mapAt hp id with
    | some es => match findD key es 0 with
      | some (some (_, d)) => lookR ok' true d
      | some none => lookR ok' false z
      | none => none
    | none => none
  | _ => none
def c_mlook (sl : List D) (hp : List Blk) (nid : Nat) (kd : Nat) (z : D) (ok' : Bool) (m k : Operand) : Option Out := match evO sl k with
    | .val key => match kindOk kd key with
      | true => lookM hp z ok' key (evO sl m)
      | false => none
    | _ => none
def c_mput (sl : List D) (hp : List Blk) (nid : Nat) (kd : Nat) (m k v : Operand) : Option Out := match evO sl k, evO sl m with
    | .val key, .map id => match kindOk kd key with
      | true => match mapAt hp id with
        | some es => match findD key es 0 with
          | some (some (i, _)) => some ⟨none, .tup [], [(id, .map (es.set i (key, evO sl v)))], []⟩
          | some none => some ⟨none, .tup [], [(id, .map (es ++ [(key, evO sl v)]))], []⟩
          | none => none
        | none => none
      | false => none
    | _, _ => none
def valsD : List D → Option (List Value)
  | [] => some []
  | .val v :: l => match valsD l with | some r => some (v :: r) | none => none
  | _ => none
def c_mputS (sl : List D) (hp : List Blk) (nid : Nat) (nf : Nat) (m k v : Operand) : Option Out := match evO sl k, evO sl m with
    | .agg ds, .map id => match valsD ds with
      | some vs => match vs.length == nf with
        | true => match mapAt hp id with
          | some [] => some ⟨none, .tup [], [(id, .map [(.agg vs.toArray, evO sl v)])], []⟩
          | _ => none
        | false => none
      | none => none
    | _, _ => none
def lookE (hp : List Blk) : D → Bool
  | .val (.map none) => true
  | .map id => match mapAt hp id with | some [] => true | _ => false
  | _ => false
def c_mlookS (sl : List D) (hp : List Blk) (nid : Nat) (nf : Nat) (z : D) (ok' : Bool) (m k : Operand) : Option Out := match evO sl k with
    | .agg ds => match valsD ds with
      | some vs => match vs.length == nf && lookE hp (evO sl m) with
        | true => lookR ok' false z
        | false => none
      | none => none
    | _ => none
def c_mlen (sl : List D) (hp : List Blk) (nid : Nat) (x : Operand) : Option Out := match evO sl x with
    | .val (.map none) => ok (.val (.int .i64 0))
    | .map id => match mapAt hp id with | some es => ok (.val (.int .i64 es.length)) | none => none
    | _ => none
def findB (s : ByteArray) (n : Int) : Option Nat := (List.range (bytesOfS s).length).find? fun i => (bytesOfS s).getD i 0 == UInt8.ofNat n.toNat
def c_ixb (sl : List D) (hp : List Blk) (nid : Nat) (x c : Operand) : Option Out := match evO sl x, evO sl c with
    | .val (.string s), .val (.int .u8 n) => match findB s n with
      | some i => ok (.val (.int .i64 i))
      | none => ok (.val (.int .i64 (-1)))
    | _, _ => none
def nilBoth (hp : List Blk) (d e : D) : Option Bool := match nilK 1 hp d, nilK 1 hp e with
  | some a, some b => match a || b with | true => some (a && b) | false => none
  | _, _ => none
def ptrEq (hp : List Blk) (d e : D) : Option Bool := match d, e with
  | .ptr i o, .ptr j p => match i == j with
    | true => match getG hp i with | some .dead | none => none | _ => some (o == p)
    | false => none
  | d, e => nilBoth hp d e
def c_eqPtr (sl : List D) (hp : List Blk) (nid : Nat) (op : BinOp) (x y : Operand) : Option Out := match ptrEq hp (evO sl x) (evO sl y) with
  | some t => match op with
    | .eql => ok (.val (.bool t))
    | .neq => ok (.val (.bool (!t)))
    | _ => none
  | none => none
def c_mkI (sl : List D) (hp : List Blk) (nid : Nat) (t : TypeId) (x : Operand) : Option Out := ok (.iface t (evO sl x))
/-- what an operation does, in slots 'sl' over the own blocks 'hp'; nid: the number of its new block -/
def coreF : AOp → Bool → (FuncId → List D → List Blk → Nat → Option Out) → List D → List Blk → Nat → Option Out
  | .mov x => fun _ _ sl hp nid => c_mov sl hp nid x
  | .pick c a b => fun _ _ sl hp nid => c_pick sl hp nid c a b
  | .zero cs => fun _ _ sl hp nid => c_zero sl hp nid cs
  | .box n x => fun _ _ sl hp nid => c_box sl hp nid n x
  | .build z parts => fun _ _ sl hp nid => c_build sl hp nid z parts
  | .bslice k len z parts => fun _ _ sl hp nid => c_bslice sl hp nid k len z parts
  | .load n a => fun ex _ sl hp nid => match ex with | true => c_loadS sl hp nid n a | false => c_load sl hp nid n a
  | .store n a x => fun ex _ sl hp nid => match ex with | true => c_storeS sl hp nid n a x | false => c_store sl hp nid n a x
  | .nilCheck x => fun _ _ sl hp nid => c_nilCheck sl hp nid x
  | .bin kb op x y => fun ex _ sl hp nid => c_bin ex sl hp nid kb op x y
  | .eqNil kd op x y => fun _ _ sl hp nid => c_eqNil sl hp nid kd op x y
  | .eqAgg op ks x y => fun _ _ sl hp nid => c_eqAgg sl hp nid op ks x y
  | .un op x => fun _ _ sl hp nid => c_un sl hp nid op x
  | .convInt k x => fun _ _ sl hp nid => c_convInt sl hp nid k x
  | .convStr x => fun _ _ sl hp nid => c_convStr sl hp nid x
  | .mkFn f a b => fun _ _ sl hp nid => c_mkFn sl hp nid f a b
  | .mkSlice k bytes z l c => fun ex _ sl hp nid => match ex with | true => c_mkSliceS sl hp nid k bytes z l c | false => c_mkSlice sl hp nid k bytes z l c
  | .slice k x lo hi mx => fun _ _ sl hp nid => c_slice sl hp nid k x lo hi mx
  | .faddr o x => fun _ _ sl hp nid => c_faddr sl hp nid o x
  | .field n off x => fun _ _ sl hp nid => c_field sl hp nid n off x
  | .iaddr k x i => fun ex _ sl hp nid => match ex with | true => c_iaddrS sl hp nid k x i | false => c_iaddr false sl hp nid k x i
  | .extract x i => fun _ _ sl hp nid => c_extract sl hp nid x i
  | .call f args => fun _ cl sl hp nid => c_call cl sl hp nid f args
  | .callv x args => fun _ cl sl hp nid => c_callv cl sl hp nid x args
  | .len str x => fun ex _ sl hp nid => match ex with | true => c_lenS sl hp nid str x | false => c_len sl hp nid str x
  | .append k s x => fun ex _ sl hp nid => match ex with | true => c_appendS sl hp nid k s x | false => c_append sl hp nid k s x
  | .copy k d s => fun _ _ sl hp nid => c_copy sl hp nid k d s
  | .clear k z x => fun _ _ sl hp nid => c_clear sl hp nid k z x
  | .minmax mx xs => fun _ _ sl hp nid => c_minmax sl hp nid mx xs
  | .aidx n len k x i => fun _ _ sl hp nid => c_aidx sl hp nid n len k x i
  | .sidx x i => fun _ _ sl hp nid => c_sidx sl hp nid x i
  | .sslice x lo hi => fun _ _ sl hp nid => c_sslice sl hp nid x lo hi
  | .s2b x => fun ex _ sl hp nid => match ex with | true => c_s2bS sl hp nid x | false => c_s2b sl hp nid x
  | .b2s x => fun ex _ sl hp nid => match ex with | true => c_b2sS sl hp nid x | false => c_b2s sl hp nid x
  | .appS s x => fun _ _ sl hp nid => c_appS sl hp nid s x
  | .copS d s => fun _ _ sl hp nid => c_copS sl hp nid d s
  | .mkMap => fun _ _ sl hp nid => c_mkMap sl hp nid
  | .mlook kd z ok' m k => fun _ _ sl hp nid => c_mlook sl hp nid kd z ok' m k
  | .mput kd m k v => fun _ _ sl hp nid => c_mput sl hp nid kd m k v
  | .mputS nf m k v => fun _ _ sl hp nid => c_mputS sl hp nid nf m k v
  | .mlen x => fun _ _ sl hp nid => c_mlen sl hp nid x
  | .ixb x c => fun _ _ sl hp nid => c_ixb sl hp nid x c
  | .mkI t x => fun _ _ sl hp nid => c_mkI sl hp nid t x
  | .eqPtr op x y => fun _ _ sl hp nid => c_eqPtr sl hp nid op x y
  | .mlookS nf z ok' m k => fun _ _ sl hp nid => c_mlookS sl hp nid nf z ok' m k
  | .emptyS => fun _ _ _ _ _ => ok (.emp true)
def core (ex : Bool) (cl : FuncId → List D → List Blk → Nat → Option Out) (sl : List D) (hp : List Blk) (nid : Nat) (ao : AOp) : Option Out := coreF ao ex cl sl hp nid

structure AOper where
  dst : Option Nat
  op : AOp
  guard : Option (Option Nat × Bool)
  rank : Nat
  /-- ranks of the new blocks that it may not see, being unordered beside those who make them -/
  hide : List Nat := []
  /-- may it write to blocks that were there before? -/
  wrt : Bool := true
  /-- ranks of the new blocks of operations before it that it may write to, being unordered beside others -/
  own : List Nat := []
  deriving Inhabited
inductive ACode where
  | skip
  | region (ops : List AOper) (n : Nat)
  | seq (a b : ACode)
  | cond (c : Operand) (a b : ACode)
  | block (id : Nat) (b : ACode)
  | loop (b : ACode)
  | exit (id : Nat)
  | ret
  deriving Inhabited
structure AFun where
  ntmps : Nat
  results : List (Nat ⊕ (Nat × Option Nat))
  body : ACode
  deriving Inhabited
inductive Ex where
  | normal
  | exit (id : Nat)
  | ret
/-- base: how many own blocks were there as the function began; wr: which of them it has written to -/
structure St where
  p : Prop
  sl : List D
  hp : List Blk
  base : Nat
  wr : List Nat
def addW (base : Nat) : List (Nat × Blk) → List Nat → List Nat
  | [], w => w
  | x :: l, w => addW base l (if x.1 < base then (if w.contains x.1 then w else x.1 :: w) else w)
def setD (sl : List D) (t : Option Nat) (d : D) : List D := match t with | none => sl | some t => sl.set t d
def undefD : D := .tup []
def yes (sl : List D) (g : Option (Option Nat × Bool)) : Option Bool := match g with
  | none => some true
  | some (none, _) => none
  | some (some t, want) => match getG sl t with
    | some (.val (.bool b)) => some (b == want)
    | some (.tup _) => some false
    | _ => none
def andP (p : Prop) : Option Prop → Prop
  | none => p
  | some q => p ∧ q
def setT (sl : List D) (t : Option Nat) (d : D) (k : List D → Option St) : Option St := match t with
  | none => k sl
  | some t => setK sl t d k
def forceB (x : Blk) (k : Blk → Option St) : Option St := match x with
  | .cells cs => forceL cs fun cs => k (.cells cs)
  | .map es => forceL es fun es => k (.map es)
  | x => k x
def appS (δ : List (Nat × Blk)) (hp : List Blk) (k : List Blk → Option St) : Option St := match δ with
  | [] => k hp
  | x :: l => forceB x.2 fun y => setK hp x.1 y fun hp => appS l hp k
def growS (hp g : List Blk) (k : List Blk → Option St) : Option St := match g with
  | [] => k hp
  | g => appK hp g k
def wrS (base : Nat) (δ : List (Nat × Blk)) (w : List Nat) (k : List Nat → Option St) : Option St := match δ with
  | [] => k w
  | δ => forceL (addW base δ w) k
/-- a number below a million is the rank of a new block, one above it a slot: the block that it points to -/
def slotId (n0 : Nat) (sl : List D) (r : Nat) : Nat := match Nat.ble 1000000 r with
  | false => n0 + r
  | true => match getG sl (r - 1000000) with
    | some d => (match d with
      | .sl id _ _ _ _ => id
      | .ptr id _ => id
      | .map id => id
      | _ => n0 + r)
    | none => n0 + r
def hideL (n0 : Nat) (sl : List D) (l : List Nat) (hp : List Blk) : List Blk := match l with
  | [] => hp
  | r :: l => (hideL n0 sl l hp).set (slotId n0 sl r) .dead
/-- a new block, or an elder one that a slot points to -/
def fits (n0 : Nat) (sl : List D) (id r : Nat) : Bool := Nat.beq id (slotId n0 sl r) && (Nat.ble r 999999 || Nat.ble (id + 1) n0)
def calm (o : AOper) (sl : List D) (nid : Nat) (out : Out) : Bool := match out.grow with
  | [] => out.δ.all fun x => x.1 == nid || o.own.any fun r => fits (nid - o.rank) sl x.1 r
  | _ => false
def finS (o : AOper) (s : St) (nid : Nat) (out : Out) : Option St := match out.δ, out.grow with
  | [], [] => setT s.sl o.dst out.d fun sl => some ⟨andP s.p out.p, sl, s.hp, s.base, s.wr⟩
  | _, _ => match o.wrt || calm o s.sl nid out with
    | true => setT s.sl o.dst out.d fun sl => appS out.δ s.hp fun hp => growS hp out.grow fun hp => wrS s.base out.δ s.wr fun wr => some ⟨andP s.p out.p, sl, hp, s.base, wr⟩
    | false => none
def someS (o : AOper) (s : St) (nid : Nat) (r : Option Out) : Option St := match r with
  | some out => finS o s nid out
  | none => none
def hideK (n0 : Nat) (sl : List D) (l : List Nat) (hp : List Blk) : List Blk := match l with
  | [] => hp
  | l => hideL n0 sl l hp
def doS (ex : Bool) (cl : FuncId → List D → List Blk → Nat → Option Out) (n0 : Nat) (o : AOper) (s : St) : Option St :=
  forceN (n0 + o.rank) fun nid => someS o s nid (core ex cl s.sl (hideK n0 s.sl o.hide s.hp) nid o.op)
def ifS (b : Option Bool) (x y : Option St) : Option St := match b with
  | some b => match b with | true => x | false => y
  | none => none
def stp (ex : Bool) (cl : FuncId → List D → List Blk → Nat → Option Out) (n0 : Nat) (o : AOper) (s : St) : Option St :=
  match o.guard with
  | none => doS ex cl n0 o s
  | some g => ifS (yes s.sl (some g)) (doS ex cl n0 o s) (setT s.sl o.dst undefD fun sl => some ⟨s.p, sl, s.hp, s.base, s.wr⟩)
def bindS (r : Option St) (k : St → Option St) : Option St := match r with
  | some s => k s
  | none => none
noncomputable def stps (ex : Bool) (cl : FuncId → List D → List Blk → Nat → Option Out) (n0 : Nat) (l : List AOper) : St → Option St :=
  @List.rec AOper (fun _ => St → Option St) (fun s => some s) (fun o _ ih s => bindS (stp ex cl n0 o s) ih) l
theorem stps_nil {ex : Bool} {cl : FuncId → List D → List Blk → Nat → Option Out} {n0 : Nat} {s : St} : stps ex cl n0 [] s = some s := rfl
theorem stps_cons {ex : Bool} {cl : FuncId → List D → List Blk → Nat → Option Out} {n0 : Nat} {o : AOper} {l : List AOper} {s : St} : stps ex cl n0 (o :: l) s = match stp ex cl n0 o s with
    | some s' => stps ex cl n0 l s'
    | none => none := by
  show bindS (stp ex cl n0 o s) (stps ex cl n0 l) = _
  unfold bindS
  rfl
def deads (n : Nat) : List Blk := List.replicate n .dead
def reg (ex : Bool) (cl : FuncId → List D → List Blk → Nat → Option Out) (ops : List AOper) (n : Nat) (s : St) : Option St :=
  growS s.hp (deads n) fun hp => forceN (lenG s.hp) fun l => stps ex cl l ops ⟨s.p, s.sl, hp, s.base, s.wr⟩

section compC
variable (P : Program)
def allocs : AOp → Bool
  | .zero _ | .box _ _ | .bslice _ _ _ _ | .mkSlice _ _ _ _ _ | .append _ _ _ | .call _ _ | .callv _ _ | .appS _ _ | .mkMap | .s2b _ => true
  | _ => false
def compR (ops : Array Oper) : List Oper → Nat → Option (List AOper × Nat)
  | [], r => some ([], r)
  | o :: l, r => match comp P o with
    | some a => match compR ops l (if allocs a then r + 1 else r) with
      | some (t, n) => some (⟨o.dst, a, o.guard.map fun g => ((ops[g.1]?).bind (·.dst), g.2), r, [], true, []⟩ :: t, n)
      | none => none
    | none => none
def tmpO : Operand → List Nat
  | .tmp t => [t]
  | _ => []
def tmpL (l : List Operand) : List Nat := l.flatMap tmpO
/-- the slots that an operation looks at -/
def uses : AOp → List Nat
  | .mov x | .box _ x | .load _ x | .nilCheck x | .un _ x | .convInt _ x | .convStr x | .faddr _ x | .field _ _ x | .extract x _ | .len _ x | .clear _ _ x => tmpO x
  | .pick c a b => tmpO c ++ tmpO a ++ tmpO b
  | .zero _ => []
  | .build _ ps => ps.flatMap fun p => tmpO p.2.2
  | .bslice _ _ _ ps => ps.flatMap fun p => tmpO p.2
  | .store _ x y | .bin _ _ x y | .eqNil _ _ x y | .eqAgg _ _ x y | .mkSlice _ _ _ x y | .iaddr _ x y | .append _ x y | .copy _ x y => tmpO x ++ tmpO y
  | .mkFn _ a b => tmpL a ++ tmpL b
  | .slice _ x lo hi mx => tmpO x ++ tmpL lo.toList ++ tmpL hi.toList ++ tmpL mx.toList
  | .call _ l => tmpL l
  | .callv x l => tmpO x ++ tmpL l
  | .minmax _ l => tmpL l
  | .aidx _ _ _ x y | .sidx x y | .appS x y | .copS x y | .mlook _ _ _ x y | .ixb x y | .eqPtr _ x y | .mlookS _ _ _ x y => tmpO x ++ tmpO y
  | .sslice x lo hi => tmpO x ++ tmpL lo.toList ++ tmpL hi.toList
  | .s2b x | .b2s x | .mlen x | .mkI _ x => tmpO x
  | .mkMap => []
  | .emptyS => []
  | .mput _ x y z | .mputS _ x y z => tmpO x ++ tmpO y ++ tmpO z
/-- does it neither look at a block nor make one? -/
def pureA : AOp → Bool
  | .mov _ | .pick _ _ _ | .bin _ _ _ _ | .un _ _ | .convInt _ _ | .convStr _ | .mkFn _ _ _ | .field _ _ _ | .extract _ _ | .build _ _ | .aidx _ _ _ _ _ | .sidx _ _ | .sslice _ _ _ | .ixb _ _ | .mkI _ _ | .emptyS => true
  | _ => false
/-- the slots among such numbers -/
def slotsL (l : List Nat) : List Nat := (l.filter fun r => Nat.ble 1000000 r).map fun r => r - 1000000
def looks (o : AOper) : List Nat := uses o.op ++ (match o.guard with | some (some t, _) => [t] | _ => []) ++ (slotsL o.hide ++ slotsL o.own)
/-- may the two be done in either order? -/
def indep (x y : AOper) : Bool :=
  (match x.dst with | some t => !(looks y).contains t && !(y.dst == some t) | none => true) &&
  (match y.dst with | some t => !(looks x).contains t | none => true) &&
  (pureA x.op || pureA y.op || (!x.wrt && !y.wrt && ((x.rank :: x.own).all fun r => y.hide.contains r && !(y.rank :: y.own).contains r) && ((y.rank :: y.own).all fun r => x.hide.contains r)
    && (Nat.ble x.rank 999999 && Nat.ble y.rank 999999) && (x.own.all (fun r => Nat.ble r 999999) || y.own.all (fun r => Nat.ble r 999999))))
/-- which operations come before each one, as the bits of a number -/
def befores : List Oper → List Nat → List Nat
  | [], _ => []
  | o :: l, done => let m := o.after.toList.foldl (fun s e => if Region.binds .any e then s ||| 2 ^ e.on ||| done.getD e.on 0 else s) 0
    m :: befores l (done ++ [m])
/-- without what they may see of one another -/
def bareD (ops : Array Oper) : List Oper → Nat → Option (List AOper × Nat)
  | [], r => some ([], r)
  | o :: l, r => match comp P o with
    | some a => match bareD ops l (if pureA a then r else r + 1) with
      | some (t, n) => some (⟨o.dst, a, o.guard.map fun g => ((ops[g.1]?).bind (·.dst), g.2), r, [], true, []⟩ :: t, n)
      | none => none
    | none => none
def tied (bs : List Nat) (i j : Nat) : Bool := (bs.getD j 0).testBit i || (bs.getD i 0).testBit j
/-- an operation beside others is what it is (elder: a row without elements was told as empty) -/
def light (x : AOp) : AOp := x
/-- the slot from before the region from which an address comes -/
def rootOf (aos : List AOper) : Nat → Nat → Option Nat
  | 0, _ => none
  | n + 1, t => match aos.find? fun y => y.dst == some t with
    | none => some t
    | some y => match y.op with
      | .iaddr _ (.tmp a) _ => rootOf aos n a
      | .faddr _ (.tmp a) => rootOf aos n a
      | .mov (.tmp a) => rootOf aos n a
      | _ => none
/-- the operations before one -/
def pre (bs : List Nat) (aos : List AOper) (i : Nat) : List AOper := (aos.zipIdx.filter fun (_, j) => (bs.getD i 0).testBit j).map fun (y, _) => y
/-- the rank of the block that a store writes, if an operation before it in the region makes it; or the slot that points to it -/
def ownOf (bs : List Nat) (aos : List AOper) (i : Nat) (x : AOper) : List Nat := match x.op with
  | .store _ (.tmp t) _ => match rootOf (pre bs aos i) 20 t with
    | some r => [1000000 + r]
    | none => (aos.zipIdx.filter fun (y, j) => y.dst == some t && !pureA y.op && (bs.getD i 0).testBit j).map fun (y, _) => y.rank
  | .append _ (.tmp t) _ => match rootOf (pre bs aos i) 20 t with
    | some r => [1000000 + r]
    | none => (aos.zipIdx.filter fun (y, j) => y.dst == some t && !pureA y.op && (bs.getD i 0).testBit j).map fun (y, _) => y.rank
  | _ => []
def dress (bs : List Nat) (aos : List AOper) (i : Nat) (x : AOper) : AOper :=
  match pureA x.op with
  | true => x
  | false =>
    let others := (aos.zipIdx.filter fun (y, j) => j != i && !pureA y.op && !tied bs i j).flatMap fun (y, j) => y.rank :: ownOf bs aos j y
    { x with op := (match others.isEmpty with | true => x.op | false => light x.op), hide := others, wrt := others.isEmpty, own := (match others.isEmpty with | true => [] | false => ownOf bs aos i x) }
def checkD (ops : Array Oper) (bs : List Nat) (aos : List AOper) : Bool :=
  ops.toList.zipIdx.all (fun (o, i) => o.after.toList.all fun e => !Region.binds .any e || e.on < i) &&
  aos.zipIdx.all fun (y, j) => aos.zipIdx.all fun (x, i) => !(i < j) || (bs.getD j 0).testBit i || indep x y
def compD (ops : Array Oper) : Option (List AOper × Nat) := match bareD P ops ops.toList 0 with
  | some (aos, n) =>
    let bs := befores ops.toList []
    let aos' := aos.zipIdx.map fun (x, i) => dress bs aos i x
    match checkD ops bs aos' with
    | true => some (aos', n)
    | false => none
  | none => none
def compC : Code → Option ACode
  | .skip => some .skip
  | .label _ => some .skip
  | .region _ ops false => match compR P ops ops.toList 0 with | some (l, n) => some (.region l n) | none => none
  | .region _ ops true => match compD P ops with | some (l, n) => some (.region l n) | none => none
  | .seq a b => match compC a, compC b with | some a, some b => some (.seq a b) | _, _ => none
  | .cond c a b => match compC a, compC b with | some a, some b => some (.cond c a b) | _, _ => none
  | .block i b => match compC b with | some b => some (.block i b) | none => none
  | .loop b => match compC b with | some b => some (.loop b) | none => none
  | .exit i => some (.exit i)
  | .ret => some .ret
  | _ => none
def compRes : List ResultVar → Option (List (Nat ⊕ (Nat × Option Nat)))
  | [] => some []
  | .tmp t :: l => match compRes l with | some r => some (.inl t :: r) | none => none
  | .cell a t :: l => match shapeT P t, compRes l with | some n, some r => some (.inr (a, n) :: r) | _, _ => none
def compF (f : FuncId) : Option AFun := match P.funcs[f]? with
  | some fn => match fn.body with
    | some c => match compC P c, compRes P fn.results.toList, fn.name == "runtime.NumGoroutine" with
      | some b, some r, false => some ⟨fn.ntmps, r, b⟩
      | _, _, _ => none
    | none => none
  | none => none
end compC

mutual
def below (n : Nat) : D → Bool
  | .ptr id _ => id < n
  | .sl id _ _ _ _ => id < n
  | .map id => id < n
  | .agg ds => belowL n ds
  | .tup ds => belowL n ds
  | .fn _ a b => belowL n a && belowL n b
  | .iface _ d => below n d
  | .row _ len f => (List.range len).all fun i => belowL n (f i)
  | .ref cs _ => belowL n cs
  | _ => true
def belowL (n : Nat) : List D → Bool
  | [] => true
  | d :: l => below n d && belowL n l
end
def belowB (n : Nat) : Blk → Bool
  | .dead => true
  | .cells cs => belowL n cs
  | .map es => es.all fun e => below n e.2
  | .arr _ _ => false
def bans (ban : Option Nat) (id : Nat) : Bool := match ban with
  | none => false
  | some j => j == id
/-- what is of n0 and above becomes a value that nobody changes; ban: what may not be met -/
def froz (n0 : Nat) (ban : Option Nat) (hp : List Blk) : Nat → D → Option D
  | 0, _ => none
  | n + 1, d => match d with
    | .ptr id off => if id < n0 then some d else match bans ban id with
      | true => none
      | false => match cellsAt hp id with
        | some cs => match cs.mapM (froz n0 ban hp n) with | some cs => some (.ref cs off) | none => none
        | none => none
    | .sl id off len k _ => if id < n0 then some d else match bans ban id with
      | true => none
      | false => match cellsAt hp id with
        | some cs => match cs.mapM (froz n0 ban hp n) with
          | some cs => if off + len * k ≤ cs.length then some (.row k len fun i => (cs.drop (off + i * k)).take k) else none
          | none => none
        | none => none
    | .map id => if id < n0 then some d else none
    | .agg ds => match ds.mapM (froz n0 ban hp n) with | some ds => some (.agg ds) | none => none
    | .tup ds => match ds.mapM (froz n0 ban hp n) with | some ds => some (.tup ds) | none => none
    | .fn f a b => match a.mapM (froz n0 ban hp n), b.mapM (froz n0 ban hp n) with | some a, some b => some (.fn f a b) | _, _ => none
    | .iface t d => match froz n0 ban hp n d with | some d => some (.iface t d) | none => none
    | d => if below n0 d then some d else none
def resD (s : St) : List (Nat ⊕ (Nat × Option Nat)) → Option (List D)
  | [] => some []
  | .inl t :: l => match resD s l with | some r => some (s.sl.getD t .any :: r) | none => none
  | .inr (a, n) :: l => match s.sl.getD a .any with
    | .ptr id off => match cellsAt s.hp id with
      | some cs => match ofCells n cs off, resD s l with | some d, some r => some (d :: r) | _, _ => none
      | none => none
    | _ => none
def tupD : List D → D
  | [d] => d
  | ds => .tup ds
/-- a result that is a new slice of one's own -/
def ownRes (n : Nat) (ds : List D) : Option (Nat × Nat × Nat × Nat × Option Nat) := match ds with
    | [.sl id off len k cap] => if id < n then none else some (id, off, len, k, cap)
    | _ => none
def wrote (s : St) : List (Nat × Blk) := s.wr.map fun i => (i, s.hp.getD i .dead)
def exD : Ex → Bool
  | .normal | .ret => true
  | _ => false
/-- what a call leaves behind -/
def leave (raw : Bool) (nid : Nat) (s : St) (ds : List D) : Option Out :=
  match raw || !(wrote s).all (fun x => belowB s.base x.2) with
  | true => some ⟨none, tupD ds, wrote s, s.hp.drop s.base⟩
  | false => match ownRes s.base ds with
    | some (id, off, len, k, cap) => match cellsAt s.hp id with
      | some cs => match cs.mapM (froz s.base (some id) s.hp 20) with
        | some cs => some ⟨none, .sl nid off len k cap, wrote s ++ [(nid, .cells cs)], []⟩
        | none => none
      | none => none
    | none => match froz s.base none s.hp 20 (tupD ds) with
      | some d => some ⟨none, d, wrote s, []⟩
      | none => none
def thenC (r : Option (Ex × St)) (k : St → Option (Ex × St)) : Option (Ex × St) := match r with
  | some (.normal, s) => k s
  | r => r
def outC (i : Nat) (r : Option (Ex × St)) : Option (Ex × St) := match r with
  | some (.exit j, s) => if j = i then some (.normal, s) else some (.exit j, s)
  | r => r
def someC (r : Option St) : Option (Ex × St) := match r with
  | some s => some (.normal, s)
  | none => none
def testC (d : D) (x y : Option (Ex × St)) : Option (Ex × St) := match d with
  | .val (.bool t) => match t with | true => x | false => y
  | _ => none
/-- a statement, by what its parts do -/
def stepC : ACode → (ACode → St → Option (Ex × St)) → (FuncId → List D → List Blk → Nat → Option Out) → St → Option (Ex × St)
  | .skip => fun _ _ s => some (.normal, s)
  | .region ops m => fun _ cl s => someC (reg false cl ops m s)
  | .seq a b => fun r _ s => thenC (r a s) (r b)
  | .cond c a b => fun r _ s => testC (evO s.sl c) (r a s) (r b s)
  | .block i b => fun r _ s => outC i (r b s)
  | .loop b => fun r _ s => thenC (r b s) (r (.loop b))
  | .exit i => fun _ _ s => some (.exit i, s)
  | .ret => fun _ _ s => some (.ret, s)
def endC (raw : Bool) (nid : Nat) (fn : AFun) (r : Option (Ex × St)) : Option Out := match r with
  | some (e, s) => match exD e with
    | true => match resD s fn.results with
      | some ds => leave raw nid s ds
      | none => none
    | false => none
  | none => none
def startC (fn : AFun) (ds : List D) (hp : List Blk) (k : St → Option Out) : Option Out :=
  appK ds (List.replicate (fn.ntmps - ds.length) undefD) fun sl => forceN hp.length fun l => k ⟨True, sl, hp, l, []⟩
/-- whose results stay raw; and a table of calls -/
structure Raw where
  big : FuncId → Bool
  tab : FuncId → List D → List Blk → Nat → Option Out
instance : CoeFun Raw (fun _ => FuncId → Bool) := ⟨Raw.big⟩
def plainO (r : Option Out) : Option Out := match r with
  | some ⟨none, d, δ, g⟩ => some ⟨none, d, δ, g⟩
  | _ => none
mutual
def runC (F : FuncId → Option AFun) (raw : Raw) : Nat → ACode → St → Option (Ex × St)
  | 0, _, _ => none
  | n + 1, c, s => stepC c (runC F raw n) (callF F raw n) s
def callF (F : FuncId → Option AFun) (raw : Raw) : Nat → FuncId → List D → List Blk → Nat → Option Out
  | 0, _, _, _, _ => none
  | n + 1, f, ds, hp, nid => match F f with
    | none => plainO (raw.tab f ds hp nid)
    | some fn => startC fn ds hp fun s => endC (raw f) nid fn (runC F raw n fn.body s)
end
end
end Go.Ev
