import Derived.Test.YtlbiegjdfijmfaaMh
set_option linter.unusedVariables false
namespace Go.Lg
open Go.RowKit
variable {P : Program}

/-- a loop that runs, as the evaluator knows it: the frame's size and its slots -/
structure LoopE where
  r : Nat
  ps : Array Tmp
  assign : Code
  body : Code
  n : Nat
  A : Tr AV

abbrev CallF := List LoopE → FuncId → List AV → List LS → RowT → Option (AV × List LS × RowT)
abbrev YieldF := List LoopE → Nat → LoopE → List AV → List LS → RowT → Option (Bool × List LS × RowT)

def findLoop (r : Nat) : List LoopE → Nat → Option (Nat × LoopE)
  | [], _ => none
  | e :: E, k => match Nat.beq e.r r with
    | true => some (k, e)
    | false => findLoop r E (k + 1)

/-! what refers to rows -/
def allL {α : Type} (f : α → Bool) : List α → Bool
  | [] => true
  | x :: xs => f x && allL f xs
def pureB : Nat → AV → Bool
  | 0, _ => false
  | d + 1, v => match v with
    | .any => true
    | .sc _ => true
    | .isl _ c => allL (pureB d) c
    | .iptr c => allL (pureB d) c
    | .agg c => allL (pureB d) c
    | .tup c => allL (pureB d) c
    | .clo _ a b => allL (pureB d) a && allL (pureB d) b
    | .ifc _ v => pureB d v
    | _ => false
def belB (n : Nat) : Nat → AV → Bool
  | 0, _ => false
  | d + 1, v => match v with
    | .any => true
    | .sc _ => true
    | .ptr r _ _ => Nat.blt r n
    | .sl r _ _ => Nat.blt r n
    | .yld r => Nat.blt r n
    | .sub r _ _ _ _ => Nat.blt r n
    | .agg c => allL (belB n d) c
    | .tup c => allL (belB n d) c
    | .clo _ a b => allL (belB n d) a && allL (belB n d) b
    | .isl _ c => allL (pureB d) c
    | .iptr c => allL (pureB d) c
    | .mp r => Nat.blt r n
    | .sit r => Nat.blt r n
    | .ifc _ v => belB n d v
/-- what is returned, seen as what it holds -/
def mapO {α β : Type} (f : α → Option β) : List α → Option (List β)
  | [] => some []
  | x :: xs => match f x, mapO f xs with
    | some y, some ys => some (y :: ys)
    | _, _ => none
noncomputable def snapE (m : Nat) (ρ : RowT) : Nat → AV → Option AV
  | 0, _ => none
  | d + 1, v => match v with
    | .sl r o n => if m ≤ r then (match ρ.row r with
      | some R => if o + n ≤ R.els.length then (mapO (fun (e : AV) => (mapO (snapE m ρ d) e.cells).bind fun c => if c.length = R.sz then some (.agg c) else none) ((R.els.drop o).take n)).map (.isl R.sz) else none
      | _ => none) else none
    | .ptr r i j => if m ≤ r then (match ρ.row r with
      | some R => (match R.els[i]? with
        | some e => if e.cells.length = R.sz ∧ j ≤ R.sz then (mapO (snapE m ρ d) (e.cells.drop j)).map .iptr else none
        | none => none)
      | _ => none) else none
    | .agg c => (mapO (snapE m ρ d) c).map .agg
    | .tup c => (mapO (snapE m ρ d) c).map .tup
    | .clo f a b => (match mapO (snapE m ρ d) a, mapO (snapE m ρ d) b with
      | some a, some b => some (.clo f a b)
      | _, _ => none)
    | .ifc t v => (snapE m ρ d v).map (.ifc t)
    | v => if pureB 8 v then some v else none


def belO (n : Nat) (o : Option ObjA) : Bool := match o with
  | some (.map es _) => allL (fun x => belB n 12 x.2.2) es
  | _ => true
def belR (n : Nat) (R : Option Root) : Bool := match R with
  | some R => allL (belB n 12) R.els && belO n R.ob
  | none => true
/-- the rows from a number on, so many -/
noncomputable def belRows (n0 : Nat) (t : Tr (Option Root)) (d r : Nat) : Bool :=
  Nat.rec (motive := fun _ => Nat → Bool) (fun _ => true) (fun _ ih r => match belR n0 (Tr.get none (path 3 r) t) with
    | true => ih (Nat.succ r)
    | false => false) d r
section
variable {β : Type}
noncomputable def builtinK (P : Program) (b : Builtin) (c : Call) (ev : Operand → AV) (X : RowT) (k : AV → RowT → Option β) : Option β := match b with
  | .append => (match c.args.toList, c.argTypes.toList with
    | [s, x], [t, t'] => ifB (slElem P t').isSome (appendK P (slElem P t) (ev s) (ev x) X k)
    | _, _ => none)
  | .copy => (match c.args.toList, c.argTypes.toList with
    | [d, s], [t, _] => copyBK P (slElem P t) (ev d) (ev s) X k
    | _, _ => none)
  | .clear => (match c.args.toList, c.argTypes.toList with
    | [x], [t] => clearBK P t (slElem P t) (ev x) X k
    | _, _ => none)
  | b => mapK ev c.args.toList fun args => pureK (eBuiltin P b c.argTypes args) X k
/-- a call of a function, or of yield -/
noncomputable def fnK (P : Program) (call : CallF) (yld : YieldF) (E : List LoopE) (f : AV) (args : List AV) (st : List LS) (X : RowT) (k : AV → List LS → RowT → Option β) : Option β := match f with
  | .yld r => (match findLoop r E 0 with
    | some (i, e) => (match yld E i e args st X with
      | some (b, st', X') => k (.sc (.bool b)) st' X'
      | none => none)
    | none => none)
  | fv => (match fnOf fv args with
    | some (g, args) => ifB (callable P g) (match call E g args st X with
      | some (v, st', X') => k v st' X'
      | none => none)
    | none => none)
noncomputable def callK (P : Program) (call : CallF) (yld : YieldF) (E : List LoopE) (c : Call) (ev : Operand → AV) (st : List LS) (X : RowT) (k : AV → List LS → RowT → Option β) : Option β := match c.callee with
  | .builtin b => builtinK P b c ev X fun v X' => k v st X'
  | .value f => mapK ev c.args.toList fun args => fnK P call yld E (ev f) args st X k
  | .invoke _ _ => none
/-- a call in any order: it must change nothing. On what is only read it runs alone, and what it returns is seen as what it holds -/
noncomputable def quietK (P : Program) (call : CallF) (f : AV) (args : List AV) (X : RowT) (k : AV → RowT → Option β) : Option β := match fnOf f args with
  | some (g, args) => ifB (callable P g) (match allL (pureB 12) args with
    | true => (match call [] g args [] ⟨0, 0, .nil⟩ with
      | some (v, _, X') => (match snapE 0 X' 12 v with
        | some v' => k v' X
        | none => none)
      | none => none)
    | false => (match call [] g args [] ⟨X.n, X.n, X.t⟩ with
      | some (v, _, ⟨n, lo, t⟩) => ifB (Nat.beq lo X.n && Nat.beq n X.n) (k v X)
      | none => none))
  | none => none
/-- a call that stands alone in its region: it may change the store -/
noncomputable def loudK (P : Program) (call : CallF) (f : AV) (args : List AV) (X : RowT) (k : AV → RowT → Option β) : Option β := match fnOf f args with
  | some (g, args) => ifB (callable P g) (match call [] g args [] X with
    | some (v, _, X') => k v X'
    | none => none)
  | none => none
/-- a call that makes rows alone -/
noncomputable def makesK (P : Program) (call : CallF) (f : AV) (args : List AV) (X : RowT) (k : AV → RowT → Option β) : Option β := match fnOf f args with
  | some (g, args) => ifB (callable P g) (match call [] g args [] ⟨X.n, X.n, X.t⟩ with
    | some (v, _, ⟨n, lo, t⟩) => ifB (Nat.beq lo X.n) (k v ⟨n, X.lo, t⟩)
    | none => none)
  | none => none
/-- a quiet call that may be made where there are more rows -/
noncomputable def quietQ (P : Program) (call : CallF) (f : AV) (args : List AV) (X : RowT) (k : AV → RowT → Option β) : Option β := match fnOf f args with
  | some (g, args) => ifB (callable P g) (match allL (pureB 12) args with
    | true => (match call [] g args [] ⟨0, 0, .nil⟩ with
      | some (v, _, X') => (match snapE 0 X' 12 v with
        | some v' => k v' X
        | none => none)
      | none => none)
    | false => (match call [] g args [] ⟨X.n, X.n, X.t⟩ with
      | some (v, _, ⟨n, lo, t⟩) => ifB (Nat.beq lo X.n && Nat.beq n X.n && allL (belB X.n 12) args && belRows X.n X.t X.n 0) (k v X)
      | none => none))
  | none => none
noncomputable def callAK (P : Program) (call : CallF) (W : WS) (o : Oper) (c : Call) (ev : Operand → AV) (X : RowT) (k : AV → RowT → Option β) : Option β := match c.callee with
  | .builtin b => builtinK P b c ev X k
  | .value f => mapK ev c.args.toList fun args => match isW W o with
    | some .w => loudK P call (ev f) args X k
    | some .a => makesK P call (ev f) args X k
    | some .q => quietQ P call (ev f) args X k
    | some _ => none
    | none => quietK P call (ev f) args X k
  | .invoke _ _ => none
/-- the Bool of a guard -/
noncomputable def gvalK (ops : Array Oper) (ev : Operand → AV) (j : Nat) (want : Bool) (yes no : Option β) : Option β :=
  match (ops[j]?).bind (·.dst) with
  | some d => (match ev (.tmp d) with
    | .sc (.bool b) => (match b, want with
      | true, true => yes
      | false, false => yes
      | _, _ => no)
    | .sc (.tuple vs) => (match vs.isEmpty with
      | true => no
      | false => none)
    | _ => none)
  | none => none
end

abbrev OutE := Option (Exit × List LS × Tr AV × RowT)
noncomputable def stepO (P : Program) (call : CallF) (yld : YieldF) (E : List LoopE) (n : Nat) (o : Oper) (st : List LS) (A : Tr AV) (X : RowT) (ih : List LS → Tr AV → RowT → OutE) : OutE :=
  opK P (evT n A) X (fun _ c => callK P call yld E c (evT n A) st X fun v st' X' => putTK n A o.dst v fun A' => ih st' A' X') o.op (fun v X' => putTK n A o.dst v fun A' => ih st A' X')
noncomputable def evOps (P : Program) (call : CallF) (yld : YieldF) (E : List LoopE) (n : Nat) (ops : Array Oper) (l : List Oper) : List LS → Tr AV → RowT → OutE :=
  List.rec (motive := fun _ => List LS → Tr AV → RowT → OutE) (fun st A X => some (.normal, st, A, X))
    (fun o _ ih st A X => match o.guard with
      | none => stepO P call yld E n o st A X ih
      | some (j, want) => gvalK ops (evT n A) j want (stepO P call yld E n o st A X ih) (putTK n A o.dst uA fun A' => ih st A' X)) l
noncomputable def stepA (P : Program) (call : CallF) (W : WS) (n : Nat) (o : Oper) (A : Tr AV) (X : RowT) (ih : Tr AV → RowT → OutE) : OutE :=
  opK P (evT n A) X (fun k c => callAK P call W o c (evT n A) X k) o.op (fun v X' => putTK n A o.dst v fun A' => ih A' X')
noncomputable def evOpsA (P : Program) (call : CallF) (W : WS) (n : Nat) (ops : Array Oper) (st : List LS) (l : List Oper) : Tr AV → RowT → OutE :=
  List.rec (motive := fun _ => Tr AV → RowT → OutE) (fun A X => some (.normal, st, A, X))
    (fun o _ ih A X => match o.guard with
      | none => stepA P call W n o A X ih
      | some (j, want) => gvalK ops (evT n A) j want (stepA P call W n o A X ih) (putTK n A o.dst uA fun A' => ih A' X)) l

noncomputable def evLoop (f : List LS → Tr AV → RowT → OutE) (n : Nat) : List LS → Tr AV → RowT → OutE :=
  Nat.rec (motive := fun _ => List LS → Tr AV → RowT → OutE) (fun _ _ _ => none) (fun _ ih st A X => match f st A X with
    | some (.normal, st, A, X) => ih st A X
    | r => r) n

def afterE (A : Tr AV) (n : Nat) (st : List LS) (X : RowT) : OutE := match Nat.beq st.length (n + 1), st[n]? with
  | true, some .ready => some (.normal, st.take n, A, X)
  | true, some (.done .ret) => some (.ret, st.take n, A, X)
  | true, some (.done (.exit id)) => some (.exit id, st.take n, A, X)
  | _, _ => none

/-- the calls that stand alone -/
def wset (ops : Array Oper) : WS := ops.toList.filterMap fun o => match fnCall o with
  | some d => (match drawOKW [(d, .w)] ops with
    | true => some (d, .w)
    | false => (match drawOKW [(d, .a)] ops with
      | true => some (d, .a)
      | false => (match drawOKW [(d, .q)] ops && !drawOKW [] ops with
        | true => some (d, .q)
        | false => none)))
  | none => none
def forceW {β : Type} (p : Nat × MK) (k : Nat × MK → β) : β := match p with
  | (d, .w) => forceNat d fun d => k (d, .w)
  | (d, .a) => forceNat d fun d => k (d, .a)
  | (d, .q) => forceNat d fun d => k (d, .q)
  | p => k p
theorem forceW_eq {β : Type} (p : Nat × MK) (k : Nat × MK → β) : forceW p k = k p := by
  obtain ⟨d, m⟩ := p
  cases m <;> simp [forceW, forceNat_eq]
def drawSet (ops : Array Oper) : Option WS := forceL forceW (wset ops) fun W => match drawOKW W ops with
  | true => some W
  | false => none
theorem drawSet_spec {ops : Array Oper} {W : WS} (h : drawSet ops = some W) : drawOKW W ops = true := by
  unfold drawSet at h
  rw [forceL_eq (fun x k => forceW_eq x k)] at h
  split at h
  · rename_i h1; cases h; exact h1
  · cases h
noncomputable def evRegion (P : Program) (call : CallF) (yld : YieldF) (E : List LoopE) (n : Nat) (ops : Array Oper) (draw : Bool) (st : List LS) (A : Tr AV) (X : RowT) : OutE := match draw with
  | false => evOps P call yld E n ops ops.toList st A X
  | true => (match drawSet ops with
    | some W => evOpsA P call W n ops st ops.toList A X
    | none => none)
noncomputable def evRange (P : Program) (call : CallF) (E : List LoopE) (n : Nat) (g : AV) (ps : Array Tmp) (assign body : Code) (st : List LS) (A : Tr AV) (X : RowT) : OutE := match fnOf g [.yld X.n] with
  | some (gf, args) => ifB (callable P gf && roomy X) (X.pushK none fun X1 => match call (E ++ [⟨X.n, ps, assign, body, n, A⟩]) gf args (st ++ [.ready]) X1 with
    | some (_, st', X') => afterE A E.length st' X'
    | none => none)
  | none => none
def evBlock (id : Nat) (r : OutE) : OutE := match r with
  | some (.exit i, st, A, X) => (match Nat.beq i id with
    | true => some (.normal, st, A, X)
    | false => some (.exit i, st, A, X))
  | r => r
def evScope (r : OutE) : OutE := match r with
  | some (.goto _, _, _, _) => none
  | r => r
def evSeq (r : OutE) (fy : List LS → Tr AV → RowT → OutE) : OutE := match r with
  | some (.normal, st, A, X) => fy st A X
  | r => r
def evCond (c : AV) (x y : OutE) : OutE := match c with
  | .sc (.bool true) => x
  | .sc (.bool false) => y
  | _ => none
/-- n: the frame's size; k: how many rounds a loop may have -/
noncomputable def evCode (P : Program) (call : CallF) (yld : YieldF) (E : List LoopE) (n k : Nat) (c : Code) : List LS → Tr AV → RowT → OutE :=
  Code.rec (motive := fun _ => List LS → Tr AV → RowT → OutE)
    (fun st A X => some (.normal, st, A, X))
    (fun _ ops draw st A X => evRegion P call yld E n ops draw st A X)
    (fun _ _ fx fy st A X => evSeq (fx st A X) fy)
    (fun c _ _ fx fy st A X => evCond (evT n A c) (fx st A X) (fy st A X))
    (fun id _ f st A X => evBlock id (f st A X))
    (fun _ f st A X => evLoop f k st A X)
    (fun g ps assign body _ _ st A X => evRange P call E n (evT n A g) ps assign body st A X)
    (fun id st A X => some (.exit id, st, A, X))
    (fun _ f st A X => evScope (f st A X))
    (fun _ st A X => some (.normal, st, A, X))
    (fun _ _ _ _ => none)
    (fun st A X => some (.ret, st, A, X))
    (fun _ _ _ _ => none) c

noncomputable def resE (P : Program) (ev : Operand → AV) (X : RowT) : List ResultVar → Option (List AV)
  | [] => some []
  | .tmp t :: r => (match resE P ev X r with
    | some vs => some (ev (.tmp t) :: vs)
    | none => none)
  | .cell a t :: r => loadK (packN P t) (ev (.tmp a)) X fun v => (match resE P ev X r with
    | some vs => some (v :: vs)
    | none => none)

/-- rows that are the function's own go, where nothing refers to them -/
noncomputable def retE (n0 lo0 : Nat) (v : AV) (st : List LS) (X : RowT) : Option (AV × List LS × RowT) := match X with
  | ⟨n, lo, t⟩ => (match belB n0 12 v && belRows n0 t (Nat.sub n0 lo) lo with
    | true => forceNat (minN lo0 lo) fun lo => some (v, st, ⟨n0, lo, t⟩)
    | false => forceNat (minN lo0 lo) fun lo => some (v, st, ⟨n, lo, t⟩))
noncomputable def evBody (P : Program) (call : CallF) (yld : YieldF) (k : Nat) (E : List LoopE) (n : Nat) (c : Code) (rs : List ResultVar) (args : List AV) (st : List LS) (X : RowT) : Option (AV × List LS × RowT) :=
  match evCode P call yld E n k c st (frm n args 0 .nil) ⟨X.n, X.n, X.t⟩ with
  | some (e, st, A, X') => (match e with
    | .normal | .ret => (match resE P (evT n A) X' rs with
      | some vs => retE X.n X.lo (one? vs) st X'
      | none => none)
    | _ => none)
  | none => none
noncomputable def evFun (P : Program) (call : CallF) (yld : YieldF) (k : Nat) : CallF := fun E f args st X => match P.funcs[f]? with
  | some fn => (match fn.body with
    | some c => ifB (Nat.ble fn.ntmps 512 && Nat.ble args.length fn.ntmps) (forceNat fn.ntmps fun n => evBody P call yld k E n c fn.results.toList args st X)
    | none => none)
  | none => none

noncomputable def setT (n : Nat) (t : Tr AV) (ps : List Tmp) (xs : List AV) : Tr AV := match ps, xs with
  | p :: ps, x :: xs => setT n (fset n t p x) ps xs
  | _, _ => t

noncomputable def evYield (P : Program) (call : CallF) (yld : YieldF) (k : Nat) : YieldF := fun E i e xs st X => match st[i]? with
  | some .ready => ifB (Nat.beq xs.length e.ps.size && Nat.ble e.n 512) (match evCode P call yld E e.n k e.assign st (setT e.n e.A e.ps.toList xs) X with
    | some (.normal, st1, A1, X1) => (match st1[i]? with
      | some .ready => (match evCode P call yld E e.n k e.body (st1.set i .busy) A1 X1 with
        | some (x, st2, _, X2) => (match st2[i]?, roundNext x with
          | some .busy, some (b, s) => some (b, st2.set i s, X2)
          | _, _ => none)
        | none => none)
      | _ => none)
    | _ => none)
  | _ => none

noncomputable def ev (P : Program) (n : Nat) : CallF × YieldF :=
  Nat.rec (motive := fun _ => CallF × YieldF) (fun _ _ _ _ _ => none, fun _ _ _ _ _ _ => none) (fun n ih => (evFun P ih.1 ih.2 n, evYield P ih.1 ih.2 n)) n
end Go.Lg
