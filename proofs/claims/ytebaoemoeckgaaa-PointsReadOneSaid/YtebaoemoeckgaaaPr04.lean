/-
  The reckoner's step: one operation, by its kind; that what it says is so. Of whatever program. Conditions: the table of calls is right.
-/
import Derived.Test.YtebaoemoeckgaaaPr03
namespace Go.Proofs.Ytebaoemoeckgaaa.Ex
set_option linter.unusedVariables false
set_option linter.unusedSimpArgs false
open Go.RowKit

/-- what an operation says: what must hold, what is known behind it, the block that it writes -/
abbrev Say := Option (List Prop × List Fact × Option Nat)
def cOk : At → Bool
  | .c v => isScal v
  | _ => true
def imms (M : List Fact) : List AV → Option (List Value)
  | [] => some []
  | .im v :: r => match imms M r with | some l => some (v :: l) | none => none
  | .pt k o :: r => match atOf M k, imms M r with | some b, some l => some (.pointer (some ⟨b, o, none⟩) :: l) | _, _ => none
  | _ :: _ => none
/-- what is read, by the block that it points to -/
def keyed (M : List Fact) (ky : Option Nat) (v : Value) : Option (List Prop × AV) :=
  match ky with
  | none => some ([], .im v)
  | some k => match v, atOf M k with
    | .slice (some ⟨b, 0, none⟩) n m, some b' => some ([b = b'], .sl k 0 n m)
    | .pointer (some ⟨b, 0, none⟩), some b' => some ([b = b'], .pt k 0)
    | _, _ => none
def intOp (op : BinOp) (k : IntKind) (a b : Int) : Option Value :=
  match op with
  | .add => some (.int k (k.wrap (a + b)))
  | .sub => some (.int k (k.wrap (a - b)))
  | .mul => some (.int k (k.wrap (a * b)))
  | .rem => if b = 0 then none else some (.int k (a.tmod b))
  | .quo => if b = 0 then none else some (.int k (k.wrap (a.tdiv b)))
  | .eql => some (.bool (a == b))
  | .neq => some (.bool (a != b))
  | .lss => some (.bool (decide (a < b)))
  | .leq => some (.bool (decide (a ≤ b)))
  | .gtr => some (.bool (decide (a > b)))
  | .geq => some (.bool (decide (a ≥ b)))
  | _ => none
def binA (E : Env) (d : Nat) (op : BinOp) (t : Nat) (x y : AV) : Say :=
  match x, y with
  | .im (.int k a), .im (.int k' b) => if k = k' then (match E.num d with
    | some v => some ([intOp op k a b = some v], [.slot d (.im v)], none)
    | none => match intOp op k a b with | some v => some ([], [.slot d (.im v)], none) | none => none) else none
  | .im (.bool a), .im (.bool b) => match E.P.underlying t with
    | some .bool => (match op with
      | .eql => some ([], [.slot d (.im (.bool (a == b)))], none)
      | .neq => some ([], [.slot d (.im (.bool (a != b)))], none)
      | _ => none)
    | _ => none
  | .fl l, .fl m => bif E.q.fit t l && E.q.fit t m then
      (bif E.hint d then (match E.q.q t with
        | some n => bif Nat.beq (fsz l) n && Nat.beq (fsz m) n then
            (match op with
            | .eql => some ([flat l = flat m], [.slot d (.im (.bool true))], none)
            | .neq => some ([flat l = flat m], [.slot d (.im (.bool false))], none)
            | _ => none) else none
        | none => none)
      else (match E.q.n t with
        | some n => bif Nat.beq (fsz l) n && Nat.beq (fsz m) n then
            (match op with
            | .eql => some ([flat l ≠ flat m], [.slot d (.im (.bool false))], none)
            | .neq => some ([flat l ≠ flat m], [.slot d (.im (.bool true))], none)
            | _ => none) else none
        | none => none)) else none
  | _, _ => none
/-- what append must know of a slice's type: the element's type, its cells, its bytes -/
def apT (P : Program) (t : Nat) : Option (Nat × Nat × Nat) := match P.underlying t with
  | some (.slice e) => (match P.info? e with
    | some i => (match i.zero with
      | some z => bif Nat.beq z.cells.size i.size && Nat.blt 0 i.size then some (e, i.size, i.bytes) else none
      | none => none)
    | none => none)
  | _ => none
/-- what is appended -/
def apS (M : List Fact) (sz : Nat) : AV → Option (Nat × List At)
  | .sl k o n m => match rowOf M k with
    | some (_, l) => (match dpz l o with | some r => (match tk r (n * sz) with | some t => some (n, t) | none => none) | none => none)
    | none => none
  | .so k n => match rowOf M k with
    | some (_, l) => (match tk l (n * sz) with | some t => some (n, t) | none => none)
    | none => none
  | _ => none
/-- what it is appended to -/
def apD (M : List Fact) (e sz : Nat) : AV → Option (Nat × List At × Option Nat)
  | .im (.slice none 0 0) => some (0, [], none)
  | .so k n => match rowOf M k, appOf M k with
    | some (true, l), some (e', sz', n') => bif Nat.beq e e' && (Nat.beq sz sz' && (Nat.beq n n' && Nat.beq (fsz l) (n * sz))) then some (n, l, some k) else none
    | _, _ => none
  | _ => none
/-- the method that an interface value's own type has -/
def methOf (P : Program) (t : Nat) (name : String) : Option Nat :=
  match P.info? t, P.underlying t with
  | some i, some d => (match d with
    | .pointer _ => none
    | _ => (match i.methods.find? (·.name == name) with
      | some m => (match m.path.toList, m.func with
        | [], some (f, false) => some f
        | _, _ => none)
      | none => none))
  | _, _ => none
def isIfT (P : Program) (t : Nat) : Bool := match P.underlying t with | some (.interface _) => true | some _ => false | none => true
def scalT (P : Program) (t : Nat) : Bool := match P.underlying t with | some (.struct _) => false | some (.array _ _) => false | some _ => true | none => false
/-- a call that writes one row of the caller's, a slice's, and answers the slice -/
def wrA (M : List Fact) (d : Nat) (pre : List Prop) (v : Option AV) (l' : List At) : Say := match v with
  | some (.so k n) => (match rowOf M k with
    | some (true, l) => bif !(Nat.beq k d) then some (pre, [.slot d (.so k n), .row k true l'], some k) else none
    | _ => none)
  | some (.sl k 0 n m) => (match rowOf M k with
    | some (true, l) => bif !(Nat.beq k d) then some (pre, [.slot d (.sl k 0 n m), .row k true l'], some k) else none
    | _ => none)
  | _ => none
def stepA (E : Env) (M : List Fact) (d : Nat) : Op → Say
  | .move x => match ev M x with | some v => some ([], [.slot d v], none) | none => none
  | .assign x => match ev M x with | some v => some ([], [.slot d v], none) | none => none
  | .pick c x y => match ev M c, ev M x, ev M y with
    | some (.im (.bool b)), some v, some u => some ([], [.slot d (bif b then v else u)], none)
    | _, _, _ => none
  | .alloc t => match zeroA E.P t with | some l => some ([], [.slot d (.pt d 0), .row d true l], none) | none => none
  | .box t x => match ev M x with
    | some v => match part? v with | some p => some ([], [.slot d (.pt d 0), .row d true p], none) | none => none
    | none => none
  | .build t ps => match parts? M ps.toList with
    | some qs => match buildA E.P t qs with | some l => some ([], [.slot d (.fl (nq l))], none) | none => none
    | none => none
  | .buildSlice t n ps => match parts? M ps.toList with
    | some qs => match buildSA E.P t n qs with | some l => some ([], [.slot d (.sl d 0 n n), .row d true l], none) | none => none
    | none => none
  | .load t x => match ev M x with
    | some (.pt k o) => match rowOf M k, sizeT E.P t, isRowT E.P t with
      | some (_, l), some n, true => match E.q.x.ld d with
        | some s => some ([seg l o n = some s], [.slot d (.fl s)], none)
        | none => match seg l o n with | some s => some ([], [.slot d (.fl s)], none) | none => none
      | some (_, l), some 1, false => bif scalT E.P t then (match E.q.x.gen d with
        | some v => (match keyed M (E.q.x.ky d) v with | some (p, u) => some ((cellAt l o = some v) :: p, [.slot d u], none) | none => none)
        | none => match cellAt l o with
          | some v => (match keyed M (E.q.x.ky d) v with | some (p, u) => some (p, [.slot d u], none) | none => none)
          | none => none) else none
      | _, _, _ => none
    | some (.im (.pointer (some ⟨b, o, .none⟩))) => match sizeT E.P t, isRowT E.P t with
      | some n, true => (match E.q.x.ld d with
        | some s => some ([E.q.x.old b o s, fsz s = n], [.slot d (.fl s)], none)
        | none => none)
      | some 1, false => bif scalT E.P t then (match E.q.x.gen d with
        | some v => some ([E.q.x.old b o [.c v]], [.slot d (.im v)], none)
        | none => none) else none
      | _, _ => none
    | _ => none
  | .makeInterface t x => match ev M x with
    | some (.fl l) => bif isIfT E.P t then none else some ([], [.slot d (.ic t l)], none)
    | _ => none
  | .nilCheck x => match ev M x with
    | some (.pt k o) => some ([], [.slot d (.pt k o)], none)
    | some (.im (.pointer (some p))) => some ([], [.slot d (.im (.pointer (some p)))], none)
    | _ => none
  | .fieldAddr s x i => match ev M x, E.P.underlying s with
    | some (.pt k o), some (.struct fs) => match fs[i]? with
      | some f => match sizeT E.P f.type with
        | some n => bif Nat.beq n 0 then none else some ([], [.slot d (.pt k (o + f.offset))], none)
        | none => none
      | none => none
    | some (.im (.pointer (some ⟨b, o, .none⟩))), some (.struct fs) => match fs[i]? with
      | some f => match sizeT E.P f.type with
        | some n => bif Nat.beq n 0 then none else some ([], [.slot d (.im (.pointer (some ⟨b, o + f.offset, .none⟩)))], none)
        | none => none
      | none => none
    | _, _ => none
  | .indexAddr t x y => match E.q.x.idx d with
    | some j => (match ev M x, ev M y, E.P.underlying t with
      | some (.pt k o), some (.im (.int kd i)), some (.array n e) => (match sizeT E.P e with
        | some s => some ([i = Int.ofNat j, j < n], [.slot d (.pt k (o + j * s))], none)
        | none => none)
      | some (.sl k o n m), some (.im (.int kd i)), some (.slice e) => (match sizeT E.P e with
        | some s => some ([i = Int.ofNat j, j < n], [.slot d (.pt k (o + j * s))], none)
        | none => none)
      | some (.im (.pointer (some ⟨b, o, .none⟩))), some (.im (.int kd i)), some (.array n e) => (match sizeT E.P e with
        | some s => some ([i = Int.ofNat j, j < n], [.slot d (.im (.pointer (some ⟨b, o + j * s, .none⟩)))], none)
        | none => none)
      | some (.im (.slice (some ⟨b, o, .none⟩) n m)), some (.im (.int kd i)), some (.slice e) => (match sizeT E.P e with
        | some s => some ([i = Int.ofNat j, j < n], [.slot d (.im (.pointer (some ⟨b, o + j * s, .none⟩)))], none)
        | none => none)
      | _, _, _ => none)
    | none => match ev M x, ev M y with
    | some (.pt k o), some (.im (.int kd (.ofNat i))) => match E.P.underlying t with
      | some (.array n e) => match sizeT E.P e with
        | some s => bif Nat.blt i n then some ([], [.slot d (.pt k (o + i * s))], none) else none
        | none => none
      | _ => none
    | some (.sl k o n m), some (.im (.int kd (.ofNat i))) => match E.P.underlying t with
      | some (.slice e) => match sizeT E.P e with
        | some s => bif Nat.blt i n then some ([], [.slot d (.pt k (o + i * s))], none) else none
        | none => none
      | _ => none
    | some (.so k n), some (.im (.int kd (.ofNat i))) => match E.P.underlying t with
      | some (.slice e) => match sizeT E.P e with
        | some s => bif Nat.blt i n then some ([], [.slot d (.pt k (i * s))], none) else none
        | none => none
      | _ => none
    | _, _ => none
  | .index t x y => match E.q.x.gen d with
    | some v => (match ev M x, ev M y, E.P.underlying t with
      | some (.fl l), some (.im (.int kd (.ofNat i))), some (.array n e) => (match sizeT E.P e with
        | some 1 => bif scalT E.P e then some ([i < n, cellAt l i = some v], [.slot d (.im v)], none) else none
        | _ => none)
      | _, _, _ => none)
    | none => match ev M x, ev M y with
    | some (.fl l), some (.im (.int kd (.ofNat i))) => match E.P.underlying t with
      | some (.array n e) => match sizeT E.P e, isRowT E.P e with
        | some s, true => bif Nat.blt i n then (match seg l (i * s) s with | some r => some ([], [.slot d (.fl r)], none) | none => none) else none
        | some 1, false => bif scalT E.P e && Nat.blt i n then (match cellAt l i with | some v => some ([], [.slot d (.im v)], none) | none => none) else none
        | _, _ => none
      | _ => none
    | _, _ => none
  | .field s x i => match ev M x, E.P.underlying s with
    | some (.fl l), some (.struct fs) => match fs[i]? with
      | some f => match sizeT E.P f.type, isRowT E.P f.type with
        | some n, true => (match seg l f.offset n with | some r => some ([], [.slot d (.fl r)], none) | none => none)
        | some 1, false => bif scalT E.P f.type then (match cellAt l f.offset with | some v => some ([], [.slot d (.im v)], none) | none => none) else none
        | _, _ => none
      | none => none
    | _, _ => none
  | .extract x i => match ev M x with
    | some (.tu l) => match l[i]? with | some t => some ([], [.slot d t.av], none) | none => none
    | some (.tf k n m post) => match i with
      | 0 => some ([], [.slot d (.sl k 0 n m)], none)
      | i + 1 => match post[i]? with | some t => some ([], [.slot d t.av], none) | none => none
    | some (.tg k n ante post) => bif Nat.blt i ante.length then (match ante[i]? with | some t => some ([], [.slot d t.av], none) | none => none)
      else bif Nat.beq i ante.length then some ([], [.slot d (.so k n)], none)
      else (match post[i - ante.length - 1]? with | some t => some ([], [.slot d t.av], none) | none => none)
    | _ => none
  | .slice t x (some lo) (some hi) none => match ev M x, ev M lo, ev M hi, E.P.underlying t with
    | some (.sl k o n m), some (.im (.int _ (.ofNat i))), some (.im (.int _ (.ofNat j))), some (.slice e) => match sizeT E.P e with
      | some s => some ([i ≤ j, j ≤ m, i < m], [.slot d (.sl k (o + i * s) (j - i) (m - i))], none)
      | none => none
    | _, _, _, _ => none
  | .slice t x none hi none => match ev M x, E.P.underlying t with
    | some (.pt k o), some (.array n e) => match sizeT E.P e with
      | some s => match hi with
        | none => some ([], [.slot d (.sl k o n n)], none)
        | some y => match ev M y with
          | some (.im (.int kd (.ofNat h))) => bif Nat.ble h n then some ([], [.slot d (.sl k o h n)], none) else none
          | _ => none
      | none => none
    | _, _ => none
  | .binOp op t x y _ => match E.q.x.gen d with
    | some r => (match ev M x, ev M y with
      | some (.im v), some (.im u) => some ([∀ w : World, (do eqGuard op t x y v u; binOp op t v u : Sem Value).run E.P w = .ok r w], [.slot d (.im r)], none)
      | _, _ => none)
    | none => match ev M x, ev M y with | some v, some u => binA E d op t v u | _, _ => none
  | .convert src dst x => match E.q.x.gen d, ev M x with
    | some r, some (.im v) => some ([∀ w : World, (convert src dst v).run E.P w = .ok r w], [.slot d (.im r)], none)
    | _, _ => none
  | .makeFunc fn first captured => match fn with
    | .func id => bif Nat.beq first.size 0 then (match evs M captured.toList with
      | some l => (match imms M l with | some vs => some ([], [.slot d (.im (.func (.func id) #[] vs.toArray))], none) | none => none)
      | none => none) else none
    | _ => none
  | .makeSlice t l c => match E.q.x.mks d, ev M l, ev M c with
    | some (n, L), some (.im v), some (.im u) => some ([∃ e, ∀ w : World, (Instr.makeSlice t v u).run E.P w = .ok (.slice (some ⟨w.heap.size, 0, none⟩) n n) (w.alloc (.cells (flat L).toArray e))], [.slot d (.sl d 0 n n), .row d true L], none)
    | _, _, _ => none
  | .unOp op _ x => match E.q.x.gen d with
    | some r => (match ev M x with
      | some (.im v) => some ([∀ w : World, (Op.unary op v).run E.P w = .ok r w], [.slot d (.im r)], none)
      | _ => none)
    | none => match op, ev M x with
    | .not, some (.im (.bool b)) => match E.num d with
      | some v => some ([Value.bool (!b) = v], [.slot d (.im v)], none)
      | none => some ([], [.slot d (.im (.bool (!b)))], none)
    | _, _ => none
  | .call c => match c.callee with
    | .builtin .len => match c.args.toList, c.argTypes.toList with
      | [x], [t] => match ev M x, E.P.underlying t with
        | some (.sl k o n m), some (.slice e) => some ([], [.slot d (.im (goInt n))], none)
        | some (.im (.slice p n m)), some (.slice e) => some ([], [.slot d (.im (goInt n))], none)
        | some (.so k n), some (.slice e) => some ([], [.slot d (.im (goInt n))], none)
        | _, _ => none
      | _, _ => none
    | .builtin .append => match c.args.toList, c.argTypes.toList with
      | [x, y], [t, t'] => bif Nat.beq t t' then (match ev M x, ev M y, apT E.P t with
        | some u, some v, some (e, sz, by8) => (match apS M sz v, apD M e sz u with
          | some (m, news), some (n, l, kl) => bif news.all cOk && (Nat.blt 0 m && (Nat.ble ((n + m) * by8) 140737488355328 && Nat.ble (n + m) 4611686018427387904)) then some ([], [.slot d (.so d (n + m)), .row d true (l ++ news), .app d e sz (n + m)], kl) else none
          | _, _ => none)
        | _, _, _ => none) else none
      | _, _ => none
    | .builtin .max => match c.args.toList with
      | [x, y] => match ev M x, ev M y with
        | some (.im (.int k a)), some (.im (.int k' b)) => match E.num d with
          | some v => some ([Value.int k (if b > a then b else a) = v], [.slot d (.im v)], none)
          | none => some ([], [.slot d (.im (.int k (if b > a then b else a)))], none)
        | _, _ => none
      | _ => none
    | .value f => match ev M f with
      | some (.im (.func (.func id) first captured)) => bif Nat.beq first.size 0 then
          (match evs M c.args.toList with
          | some l => match argsA M l with
            | some cs => match E.T d id (cs ++ captured.toList.map fun v => .v (.im v)) with
              | some (pre, r) => some (pre, [.slot d r.av], none)
              | none => match E.q.x.T2 id (cs ++ captured.toList.map fun v => .v (.im v)) with
                | some (pre, r) => some (pre, [.slot d (bif r.post.isEmpty then .sl d 0 r.n r.m else .tf d r.n r.m r.post), .row d true r.l], none)
                | none => match E.q.x.T3 id (cs ++ captured.toList.map fun v => .v (.im v)) with
                  | some (pre, r) => some (pre, .slot d (bif r.lone then .so d r.n else .tg d r.n r.ante r.post) :: .row d true r.l :: (bif r.ap then [.app d r.e r.sz r.n] else []), none)
                  | none => match E.q.x.T4 id (cs ++ captured.toList.map fun v => .v (.im v)) with
                    | some (pre, j, l') => wrA M d pre (l[j]?) l'
                    | none => none
            | none => none
          | none => none) else none
      | _ => none
    | .invoke x name => match ev M x with
      | some (.ic t l0) => (match methOf E.P t name with
        | some id => (match evs M c.args.toList with
          | some l => match argsA M l with
            | some cs => match E.T d id (.v (.fl l0) :: cs) with
              | some (pre, r) => some (pre, [.slot d r.av], none)
              | none => none
            | none => none
          | none => none)
        | none => none)
      | _ => none
    | _ => none
  | _ => none
def stHint (E : Env) : Operand → Option (List At)
  | .tmp s => E.q.x.st s
  | _ => none
def storeA (E : Env) (M : List Fact) : Op → Say
  | .store t x y => match ev M x, ev M y with
    | some (.pt k o), some v => match part? v, rowOf M k, sizeT E.P t with
      | some p, some (true, l), some n => bif Nat.beq n (fsz p) && p.all cOk then
          (match stHint E x with
          | some l' => some ([put l o p = some l'], [.row k true l'], some k)
          | none => match put l o p with | some l' => some ([], [.row k true l'], some k) | none => none) else none
      | _, _, _ => none
    | _, _ => none
  | _ => none
/-- is the operation wanted? -/
def guardIs (ops : Array Oper) (M : List Fact) : Option (Nat × Bool) → Option Bool
  | none => some true
  | some (g, b) => match (ops[g]?).bind (·.dst) with
    | some s => match look M s with | some (.im (.bool c)) => some (c == b) | some (.im (.tuple _)) => some false | _ => none
    | none => none
def opA (E : Env) (ops : Array Oper) (M : List Fact) (o : Oper) : Say :=
  match guardIs ops M o.guard with
  | some true => (match o.dst with
    | some d => bif Nat.blt d E.nt then stepA E M d o.op else none
    | none => storeA E M o.op)
  | some false => (match o.dst with
    | some d => bif Nat.blt d E.nt then some ([], [.slot d (.im undef)], none) else none
    | none => none)
  | none => none
theorem guardIs_spec {ops : Array Oper} {M : List Fact} {base : Nat} {β : Nat → Bk} {a : Act} {w : World} (hM : ∀ φ ∈ M, φ.ok base β a w) {o : Oper} {t : Bool} (h : guardIs ops M o.guard = some t) : Region.wanted o (yielded ops a.tmps) = t := by
  unfold Region.wanted
  cases hg : o.guard with
  | none => rw [hg] at h; cases h; rfl
  | some gb =>
    obtain ⟨g, b⟩ := gb
    rw [hg] at h
    unfold guardIs at h
    simp only at h ⊢
    unfold yielded
    cases hs : (ops[g]?).bind (·.dst) with
    | none => rw [hs] at h; cases h
    | some s =>
      rw [hs] at h
      simp only at h
      cases hl : look M s with
      | none => rw [hl] at h; cases h
      | some v =>
        rw [hl] at h
        have := hM _ (look_mem hl)
        simp only [Fact.ok] at this
        cases v with
        | im u =>
          cases u <;> first | (cases h; done) | skip
          all_goals
            cases h
            simp [this, AV.den]
        | _ => cases h
/-- the world and the value behind an operation that answers a value -/
theorem wp_value {P : Program} {o : Oper} {a : Act} {w w' : World} {K : Act → World → Prop} {Q : Exit → Act → World → Prop} {v : Value} (h : (execOp a.eval o).run P w = .ok (.value v) w') (hK : K (a.put o.dst v) w') : o.wp P a w K Q := by
  unfold Oper.wp
  rw [h]
  exact hK
end Go.Proofs.Ytebaoemoeckgaaa.Ex
