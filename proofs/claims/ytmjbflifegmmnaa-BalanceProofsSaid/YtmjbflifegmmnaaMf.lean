import Derived.Test.YtmjbflifegmmnaaLt5Lt6Mt2
set_option linter.unusedVariables false
set_option linter.unusedSimpArgs false
namespace Go.Lg
open Go.RowKit
variable {P:Program}

structure LoopE where
 r:Nat
 ps:Array Tmp
 assign:Code
 body:Code
 n:Nat
 A:Tr AV

abbrev CallF:=List LoopE→FuncId→List AV→List LS→RowT→Option (Res × List LS × RowT)
abbrev YieldF:=List LoopE→Nat→LoopE→List AV→List LS→RowT→Option (Bool × List LS × RowT)

def findLoop (r:Nat):List LoopE→Nat→Option (Nat × LoopE)
 | [],_=>none
 | e :: E,k=>match Nat.beq e.r r with
  | true=>some (k,e)
  | false=>findLoop r E (k+1)

def allL {α:Type} (f:α→Bool):List α→Bool
 | []=>true
 | x :: xs=>f x && allL f xs
def pureB:Nat→AV→Bool
 | 0,_=>false
 | d+1,v=>match v with
  | .any=>true
  | .sc _=>true
  | .isl _ c=>allL (pureB d) c
  | .iptr c=>allL (pureB d) c
  | .agg c=>allL (pureB d) c
  | .tup c=>allL (pureB d) c
  | .clo _ a b=>allL (pureB d) a && allL (pureB d) b
  | .ifc _ v=>pureB d v
  | _=>false
def belB (n:Nat):Nat→AV→Bool
 | 0,_=>false
 | d+1,v=>match v with
  | .any=>true
  | .sc _=>true
  | .ptr r _ _=>Nat.blt r n
  | .sl r _ _=>Nat.blt r n
  | .yld r=>Nat.blt r n
  | .sub r _ _ _ _=>Nat.blt r n
  | .agg c=>allL (belB n d) c
  | .tup c=>allL (belB n d) c
  | .clo _ a b=>allL (belB n d) a && allL (belB n d) b
  | .isl _ c=>allL (pureB d) c
  | .iptr c=>allL (pureB d) c
  | .mp r=>Nat.blt r n
  | .sit r=>Nat.blt r n
  | .ifc _ v=>belB n d v
def mapO {α β:Type} (f:α→Option β):List α→Option (List β)
 | []=>some []
 | x :: xs=>match f x,mapO f xs with
  | some y,some ys=>some (y :: ys)
  | _,_=>none
noncomputable def snapE (m:Nat) (ρ:RowT):Nat→AV→Option AV
 | 0,_=>none
 | d+1,v=>match v with
  | .sl r o n=>if m≤r then (match ρ.row r with
   | some R=>if o+n≤R.els.length then (mapO (fun (e:AV)=>(mapO (snapE m ρ d) e.cells).bind fun c=>if c.length=R.sz then some (.agg c) else none) ((R.els.drop o).take n)).map (.isl R.sz) else none
   | _=>none) else none
  | .ptr r i j=>if m≤r then (match ρ.row r with
   | some R=>(match R.els[i]? with
    | some e=>if e.cells.length=R.sz∧j≤R.sz then (mapO (snapE m ρ d) (e.cells.drop j)).map .iptr else none
    | none=>none)
   | _=>none) else none
  | .agg c=>(mapO (snapE m ρ d) c).map .agg
  | .tup c=>(mapO (snapE m ρ d) c).map .tup
  | .clo f a b=>(match mapO (snapE m ρ d) a,mapO (snapE m ρ d) b with
   | some a,some b=>some (.clo f a b)
   | _,_=>none)
  | .ifc t v=>(snapE m ρ d v).map (.ifc t)
  | v=>if pureB 8 v then some v else none


def belO (n:Nat) (o:Option ObjA):Bool:=match o with
 | some (.map es _)=>allL (fun x=>belB n 12 x.2.2) es
 | _=>true
def belR (n:Nat) (R:Option Root):Bool:=match R with
 | some R=>allL (belB n 12) R.els && belO n R.ob
 | none=>true
noncomputable def belRows (n0:Nat) (t:Tr (Option Root)) (d r:Nat):Bool :=
 Nat.rec (motive:=fun _=>Nat→Bool) (fun _=>true) (fun _ ih r=>match belR n0 (Tr.get none (path 3 r) t) with
  | true=>ih (Nat.succ r)
  | false=>false) d r
section
variable {β:Type}
noncomputable def builtinK (P:Program) (b:Builtin) (c:Call) (ev:Operand→AV) (X:RowT) (k:AV→RowT→Option β):Option β:=match b with
 | .append=>(match c.args.toList,c.argTypes.toList with
  | [s,x],[t,t']=>ifB (slElem P t').isSome (appendK P (slElem P t) (ev s) (ev x) X k)
  | _,_=>none)
 | .copy=>(match c.args.toList,c.argTypes.toList with
  | [d,s],[t,_]=>copyBK P (slElem P t) (ev d) (ev s) X k
  | _,_=>none)
 | .clear=>(match c.args.toList,c.argTypes.toList with
  | [x],[t]=>clearBK P t (slElem P t) (ev x) X k
  | _,_=>none)
 | b=>mapK ev c.args.toList fun args=>pureK (eBuiltin P b c.argTypes args) X k
noncomputable def goK (P:Program) (call:CallF) (E:List LoopE) (g:FuncId) (args:List AV) (st:List LS) (X:RowT) (k:AV→List LS→RowT→Option β) (kp:Value→List LS→RowT→Option β):Option β :=
 ifB (callable P g) (match call E g args st X with
  | some (.ret v,st',X')=>k v st' X'
  | some (.pan x,st',X')=>kp x st' X'
  | none=>none)
noncomputable def fnK (P:Program) (call:CallF) (yld:YieldF) (E:List LoopE) (f:AV) (args:List AV) (st:List LS) (X:RowT) (k:AV→List LS→RowT→Option β) (kp:Value→List LS→RowT→Option β):Option β:=match f with
 | .yld r=>(match findLoop r E 0 with
  | some (i,e)=>(match yld E i e args st X with
   | some (b,st',X')=>k (.sc (.bool b)) st' X'
   | none=>none)
  | none=>none)
 | fv=>(match fnOfM P fv args with
  | some (g,args)=>goK P call E g args st X k kp
  | none=>none)
noncomputable def callK (P:Program) (call:CallF) (yld:YieldF) (E:List LoopE) (c:Call) (ev:Operand→AV) (st:List LS) (X:RowT) (k:AV→List LS→RowT→Option β) (kp:Value→List LS→RowT→Option β):Option β:=match c.callee with
 | .builtin b=>builtinK P b c ev X fun v X'=>k v st X'
 | .value f=>mapK ev c.args.toList fun args=>fnK P call yld E (ev f) args st X k kp
 | .invoke r name=>(match ev r with
  | .ifc t v=>(match methodOf P t name with
   | some g=>mapK ev c.args.toList fun args=>goK P call E g (v :: args) st X k kp
   | none=>none)
  | _=>none)
noncomputable def quietK (P:Program) (call:CallF) (tgt:Option (FuncId × List AV)) (X:RowT) (k:AV→RowT→Option β):Option β:=match tgt with
 | some (g,args)=>ifB (callable P g) (match allL (pureB 12) args with
  | true=>(match call [] g args [] ⟨0,0,.nil⟩ with
   | some (.ret v,_,X')=>(match snapE 0 X' 12 v with
    | some v'=>k v' X
    | none=>none)
   | _=>none)
  | false=>(match call [] g args [] ⟨X.n,X.n,X.t⟩ with
   | some (.ret v,_,⟨n,lo,t⟩)=>ifB (Nat.beq lo X.n && Nat.beq n X.n) (k v X)
   | _=>none))
 | none=>none
noncomputable def loudK (P:Program) (call:CallF) (tgt:Option (FuncId × List AV)) (X:RowT) (k:AV→RowT→Option β):Option β:=match tgt with
 | some (g,args)=>ifB (callable P g) (match call [] g args [] X with
  | some (.ret v,_,X')=>k v X'
  | _=>none)
 | none=>none
noncomputable def makesK (P:Program) (call:CallF) (tgt:Option (FuncId × List AV)) (X:RowT) (k:AV→RowT→Option β):Option β:=match tgt with
 | some (g,args)=>ifB (callable P g) (match call [] g args [] ⟨X.n,X.n,X.t⟩ with
  | some (.ret v,_,⟨n,lo,t⟩)=>ifB (Nat.beq lo X.n) (k v ⟨n,X.lo,t⟩)
  | _=>none)
 | none=>none
noncomputable def quietQ (P:Program) (call:CallF) (tgt:Option (FuncId × List AV)) (X:RowT) (k:AV→RowT→Option β):Option β:=match tgt with
 | some (g,args)=>ifB (callable P g) (match allL (pureB 12) args with
  | true=>(match call [] g args [] ⟨0,0,.nil⟩ with
   | some (.ret v,_,X')=>(match snapE 0 X' 12 v with
    | some v'=>k v' X
    | none=>none)
   | _=>none)
  | false=>(match call [] g args [] ⟨X.n,X.n,X.t⟩ with
   | some (.ret v,_,⟨n,lo,t⟩)=>ifB (Nat.beq lo X.n && Nat.beq n X.n && allL (belB X.n 12) args && belRows X.n X.t X.n 0) (k v X)
   | _=>none))
 | none=>none
noncomputable def goA (P:Program) (call:CallF) (W:WS) (o:Oper) (tgt:Option (FuncId × List AV)) (X:RowT) (k:AV→RowT→Option β):Option β:=match isW W o with
 | some .w=>loudK P call tgt X k
 | some .a=>makesK P call tgt X k
 | some .q=>quietQ P call tgt X k
 | some _=>none
 | none=>quietK P call tgt X k
noncomputable def callAK (P:Program) (call:CallF) (W:WS) (o:Oper) (c:Call) (ev:Operand→AV) (X:RowT) (k:AV→RowT→Option β):Option β:=match c.callee with
 | .builtin b=>builtinK P b c ev X k
 | .value f=>mapK ev c.args.toList fun args=>goA P call W o (fnOfM P (ev f) args) X k
 | .invoke r name=>(match ev r with
  | .ifc t v=>(match methodOf P t name with
   | some g=>mapK ev c.args.toList fun args=>goA P call W o (some (g,v :: args)) X k
   | none=>none)
  | _=>none)
noncomputable def gvalK (ops:Array Oper) (ev:Operand→AV) (j:Nat) (want:Bool) (yes no:Option β):Option β :=
 match (ops[j]?).bind (·.dst) with
 | some d=>(match ev (.tmp d) with
  | .sc (.bool b)=>(match b,want with
   | true,true=>yes
   | false,false=>yes
   | _,_=>no)
  | .sc (.tuple vs)=>(match vs.isEmpty with
   | true=>no
   | false=>none)
  | _=>none)
 | none=>none
end

abbrev OutE:=Option (Exit × List LS × Tr AV × RowT)
noncomputable def panK (v:AV) (st:List LS) (A:Tr AV) (X:RowT):OutE:=match v with
 | .ifc t y=>(match toV y with
  | some v=>some (.panic [{ v:=.iface t v,recovered:=false }],st,A,X)
  | none=>none)
 | _=>none
noncomputable def stepO (P:Program) (call:CallF) (yld:YieldF) (E:List LoopE) (n:Nat) (o:Oper) (st:List LS) (A:Tr AV) (X:RowT) (ih:List LS→Tr AV→RowT→OutE):OutE :=
 opK P (evT n A) X (fun _ c=>callK P call yld E c (evT n A) st X (fun v st' X'=>putTK n A o.dst v fun A'=>ih st' A' X') (fun x st' X'=>some (.panic [{ v:=x,recovered:=false }],st',A,X'))) (fun x=>panK (evT n A x) st A X) o.op (fun v X'=>putTK n A o.dst v fun A'=>ih st A' X')
noncomputable def evOps (P:Program) (call:CallF) (yld:YieldF) (E:List LoopE) (n:Nat) (ops:Array Oper) (l:List Oper):List LS→Tr AV→RowT→OutE :=
 List.rec (motive:=fun _=>List LS→Tr AV→RowT→OutE) (fun st A X=>some (.normal,st,A,X))
  (fun o _ ih st A X=>match o.guard with
   | none=>stepO P call yld E n o st A X ih
   | some (j,want)=>gvalK ops (evT n A) j want (stepO P call yld E n o st A X ih) (putTK n A o.dst uA fun A'=>ih st A' X)) l
def litAt (W:WS) (o:Oper):Option (TypeId × Nat × Array (Nat × Operand)):=match o.op with
 | .buildSlice t len parts=>(match o.dst with
  | some d=>(match W.lookup d with
   | some .a=>some (t,len,parts)
   | _=>none)
  | none=>none)
 | _=>none
noncomputable def stepA (P:Program) (call:CallF) (W:WS) (n:Nat) (o:Oper) (A:Tr AV) (X:RowT) (ih:Tr AV→RowT→OutE):OutE:=match litAt W o with
 | some (t,len,parts)=>mapK (fun p:Nat × Operand=>evT n A p.2) parts.toList fun xs=>litRK P (slElem P t) len (parts.toList.map (·.1)) xs X fun v X'=>putTK n A o.dst v fun A'=>ih A' X'
 | none=>opK P (evT n A) X (fun k c=>callAK P call W o c (evT n A) X k) (fun _=>none) o.op (fun v X'=>putTK n A o.dst v fun A'=>ih A' X')
noncomputable def evOpsA (P:Program) (call:CallF) (W:WS) (n:Nat) (ops:Array Oper) (st:List LS) (l:List Oper):Tr AV→RowT→OutE :=
 List.rec (motive:=fun _=>Tr AV→RowT→OutE) (fun A X=>some (.normal,st,A,X))
  (fun o _ ih A X=>match o.guard with
   | none=>stepA P call W n o A X ih
   | some (j,want)=>gvalK ops (evT n A) j want (stepA P call W n o A X ih) (putTK n A o.dst uA fun A'=>ih A' X)) l

noncomputable def evLoop (f:List LS→Tr AV→RowT→OutE) (n:Nat):List LS→Tr AV→RowT→OutE :=
 Nat.rec (motive:=fun _=>List LS→Tr AV→RowT→OutE) (fun _ _ _=>none) (fun _ ih st A X=>match f st A X with
  | some (.normal,st,A,X)=>ih st A X
  | r=>r) n

def afterE (A:Tr AV) (n:Nat) (st:List LS) (X:RowT):OutE:=match Nat.beq st.length (n+1),st[n]? with
 | true,some .ready=>some (.normal,st.take n,A,X)
 | true,some (.done .ret)=>some (.ret,st.take n,A,X)
 | true,some (.done (.exit id))=>some (.exit id,st.take n,A,X)
 | _,_=>none

def baseOfApp (ops:List Oper) (d:Nat):Bool:=match ops with
 | []=>false
 | o :: l=>(match o.op with
  | .call c=>(match c.callee with
   | .builtin .append=>(match c.args.toList with
    | .tmp t :: _=>(match Nat.beq t d with
     | true=>true
     | false=>baseOfApp l d)
    | _=>baseOfApp l d)
   | _=>baseOfApp l d)
  | _=>baseOfApp l d)
def litBase (ops:Array Oper) (o:Oper):Option Nat:=match o.op with
 | .buildSlice _ (_+1) _=>(match o.dst with
  | some d=>(match baseOfApp ops.toList d with
   | true=>some d
   | false=>none)
  | none=>none)
 | _=>none
def wset (ops:Array Oper):WS:=ops.toList.filterMap fun o=>match fnCall o with
 | some d=>(match drawOKW [(d,.w)] ops with
  | true=>some (d,.w)
  | false=>(match drawOKW [(d,.a)] ops with
   | true=>some (d,.a)
   | false=>(match drawOKW [(d,.q)] ops && !drawOKW [] ops with
    | true=>some (d,.q)
    | false=>none)))
 | none=>(litBase ops o).map fun d=>(d,.a)
def forceW {β:Type} (p:Nat × MK) (k:Nat × MK→β):β:=match p with
 | (d,.w)=>forceNat d fun d=>k (d,.w)
 | (d,.a)=>forceNat d fun d=>k (d,.a)
 | (d,.q)=>forceNat d fun d=>k (d,.q)
 | p=>k p
def drawSet (ops:Array Oper):Option WS:=forceL forceW (wset ops) fun W=>match drawOKW W ops with
 | true=>some W
 | false=>none
def allq (ops:Array Oper):WS:=ops.toList.filterMap fun o=>(fnCall o).map fun d=>(d,.q)
def rankO (W:WS) (o:Oper):Nat:=match mkindW W o with
 | .n=>0
 | .r=>0
 | .c=>1
 | .q=>1
 | .w=>2
 | .a=>3
def pickO (W:WS) (ops:Array Oper) (B:Array Nat) (done:Nat):List Nat→Option (Nat × Nat)
 | []=>none
 | i :: r=>(match Nat.testBit done i || !Nat.beq (Nat.lor (B.getD i 0) done) done with
  | true=>pickO W ops B done r
  | false=>forceNat (rankO W (opAt ops i)) fun k=>(match pickO W ops B done r with
   | none=>some (k,i)
   | some (m,j)=>(match Nat.ble k m with
    | true=>some (k,i)
    | false=>some (m,j))))
def schedO (W:WS) (ops:Array Oper) (B:Array Nat) (l:List Nat):Nat→Nat→List Nat
 | 0,_=>[]
 | fuel+1,done=>(match pickO W ops B done l with
  | some (_,i)=>i :: schedO W ops B l fuel (Nat.lor done (Nat.shiftLeft 1 i))
  | none=>[])
def floats (ops:Array Oper):List Nat:=ops.size :: (List.range ops.size).filter fun i=>(isAlloc (opAt ops i)).isSome
def findF (W:WS) (ops:Array Oper) (D:DS) (ord:List Nat):List Nat→Option Nat
 | []=>none
 | f :: r=>(match drawOKJ W ops D f ord with
  | true=>some f
  | false=>findF W ops D ord r)
theorem findF_spec {W:WS} {ops:Array Oper} {D:DS} {ord:List Nat}:∀ {l:List Nat} {f:Nat},findF W ops D ord l=some f→drawOKJ W ops D f ord=true
 | [],f,h=>by cases h
 | g :: r,f,h=>by
  unfold findF at h
  split at h
  ·rename_i h1; cases h; exact h1
  ·exact findF_spec h
def planW (W:WS) (ops:Array Oper):Option (WS × List Nat):=forceL forceNat (schedO W ops (befB ops) (List.range ops.size) ops.size 0) fun ord=>match findF W ops [] ord (floats ops),lowOK (befB ops) ops.size with
 | some _,true=>some (W,ord)
 | _,_=>none
def planJ (ops:Array Oper):Option (WS × List Nat):=forceL forceW (wset ops) fun W=>match planW W ops with
 | some r=>some r
 | none=>forceL forceW (allq ops) fun W=>planW W ops
def wsetA (ops:Array Oper):WS:=ops.toList.filterMap fun o=>match fnCall o with
 | some d=>(match drawOKW [(d,.w)] ops with
  | true=>some (d,.w)
  | false=>(match planW [(d,.a)] ops with
   | some _=>some (d,.a)
   | none=>none))
 | none=>(litBase ops o).map fun d=>(d,.a)
def planE (ops:Array Oper):Option (WS × List Nat):=forceL forceW (wsetA ops) fun W=>planW W ops
theorem planW_spec {W W':WS} {ops:Array Oper} {ord:List Nat} (h:planW W ops=some (W',ord)):W'=W∧(∃ f,drawOKJ W ops [] f ord=true)∧lowOK (befB ops) ops.size=true:=by
 unfold planW at h
 rw [forceL_eq (fun x k=>forceNat_eq x k)] at h
 split at h
 ·rename_i f h1 h2
  cases h
  exact ⟨rfl,⟨f,findF_spec h1⟩,h2⟩
 ·cases h
def idxOf (r:Nat):List Nat→Nat→Option Nat
 | [],_=>none
 | m :: ms,k=>match Nat.beq m r with
  | true=>some k
  | false=>idxOf r ms (Nat.succ k)
def addR (n0 r:Nat) (ms:List Nat):List Nat:=match Nat.blt r n0 with
 | true=>ms
 | false=>(match idxOf r ms 0 with
  | some _=>ms
  | none=>ms ++ [r])
def foldA (f:AV→List Nat→List Nat):List AV→List Nat→List Nat
 | [],ms=>ms
 | x :: xs,ms=>foldA f xs (f x ms)
def refsA (n0:Nat):Nat→AV→List Nat→List Nat
 | 0,_,ms=>ms
 | d+1,v,ms=>match v with
  | .ptr r _ _=>addR n0 r ms
  | .sl r _ _=>addR n0 r ms
  | .sub r _ _ _ _=>addR n0 r ms
  | .mp r=>addR n0 r ms
  | .sit r=>addR n0 r ms
  | .yld r=>addR n0 r ms
  | .agg c=>foldA (refsA n0 d) c ms
  | .tup c=>foldA (refsA n0 d) c ms
  | .clo _ a b=>foldA (refsA n0 d) b (foldA (refsA n0 d) a ms)
  | .ifc _ v=>refsA n0 d v ms
  | _=>ms
def refsR (n0:Nat) (R:Option Root) (ms:List Nat):List Nat:=match R with
 | some R=>(match R.ob with
  | some (.map es _)=>foldA (refsA n0 12) (es.map fun e=>e.2.2) (foldA (refsA n0 12) R.els ms)
  | _=>foldA (refsA n0 12) R.els ms)
 | none=>ms
noncomputable def refsLow (n0:Nat) (t:Tr (Option Root)) (d r:Nat) (ms:List Nat):List Nat :=
 Nat.rec (motive:=fun _=>Nat→List Nat→List Nat) (fun _ ms=>ms) (fun _ ih r ms=>forceL forceNat (refsR n0 (Tr.get none (path 3 r) t) ms) fun ms=>ih (Nat.succ r) ms) d r ms
noncomputable def refsAll (n0:Nat) (t:Tr (Option Root)) (d i:Nat) (ms:List Nat):List Nat :=
 Nat.rec (motive:=fun _=>Nat→List Nat→List Nat) (fun _ ms=>ms) (fun _ ih i ms=>match ms[i]? with
  | some r=>forceL forceNat (refsR n0 (Tr.get none (path 3 r) t) ms) fun ms=>ih (Nat.succ i) ms
  | none=>ms) d i ms
def renA (n0:Nat) (ms:List Nat):Nat→AV→Option AV
 | 0,_=>none
 | d+1,v=>match v with
  | .ptr r i j=>(match Nat.blt r n0 with
   | true=>some (.ptr r i j)
   | false=>(match idxOf r ms n0 with
    | some k=>some (.ptr k i j)
    | none=>none))
  | .sl r o n=>(match Nat.blt r n0 with
   | true=>some (.sl r o n)
   | false=>(match idxOf r ms n0 with
    | some k=>some (.sl k o n)
    | none=>none))
  | .sub r i j sz n=>(match Nat.blt r n0 with
   | true=>some (.sub r i j sz n)
   | false=>(match idxOf r ms n0 with
    | some k=>some (.sub k i j sz n)
    | none=>none))
  | .mp r=>(match Nat.blt r n0 with
   | true=>some (.mp r)
   | false=>(match idxOf r ms n0 with
    | some k=>some (.mp k)
    | none=>none))
  | .agg c=>(mapO (renA n0 ms d) c).map .agg
  | .tup c=>(mapO (renA n0 ms d) c).map .tup
  | .clo f a b=>(match mapO (renA n0 ms d) a,mapO (renA n0 ms d) b with
   | some a,some b=>some (.clo f a b)
   | _,_=>none)
  | .ifc t v=>(renA n0 ms d v).map (.ifc t)
  | v=>if belB n0 12 v then some v else none
def renO (n0:Nat) (ms:List Nat) (R:Option Root):Option (Option Root):=match R with
 | none=>some none
 | some R=>(match mapO (renA n0 ms 12) R.els,belO n0 R.ob with
  | some els,true=>forceL (forceV 6) els fun els=>some (some ⟨R.sz,els,R.ob⟩)
  | _,_=>none)
noncomputable def renLow (n0:Nat) (ms:List Nat) (t:Tr (Option Root)) (d r:Nat) (t':Tr (Option Root)):Option (Tr (Option Root)) :=
 Nat.rec (motive:=fun _=>Nat→Tr (Option Root)→Option (Tr (Option Root))) (fun _ t'=>some t') (fun _ ih r t'=>match renO n0 ms (Tr.get none (path 3 r) t) with
  | some R=>Tr.setK R (path 3 r) t' fun t'=>ih (Nat.succ r) t'
  | none=>none) d r t'
noncomputable def renHigh (n0:Nat) (ms:List Nat) (t:Tr (Option Root)) (l:List Nat) (k:Nat) (t':Tr (Option Root)):Option (Tr (Option Root)) :=
 List.rec (motive:=fun _=>Nat→Tr (Option Root)→Option (Tr (Option Root))) (fun _ t'=>some t') (fun r _ ih k t'=>match renO n0 ms (Tr.get none (path 3 r) t) with
  | some R=>Tr.setK R (path 3 k) t' fun t'=>ih (Nat.succ k) t'
  | none=>none) l k t'
def distinctN:List Nat→Bool
 | []=>true
 | m :: ms=>(match idxOf m ms 0 with
  | some _=>false
  | none=>distinctN ms)
def withinN (n0 n:Nat):List Nat→Bool
 | []=>true
 | m :: ms=>(match Nat.ble n0 m && Nat.blt m n with
  | true=>withinN n0 n ms
  | false=>false)
noncomputable def rowsD (n:Nat) (A:Tr AV) (ops:Array Oper):DS:=(List.range ops.size).filterMap fun i=>match memOp (opAt ops i) with
 | some p=>(match ptrRow (evT n A p) with
  | some r=>some (i,r)
  | none=>none)
 | none=>none
def forceP {β:Type} (p:Nat × Nat) (k:Nat × Nat→β):β:=match p with
 | (a,b)=>forceNat a fun a=>forceNat b fun b=>k (a,b)
noncomputable def rowB (n:Nat) (A:Tr AV) (D:DS) (ops:Array Oper) (i:Nat):Bool:=match D.lookup i with
 | none=>true
 | some r=>(match memOp (opAt ops i) with
  | some p=>(match ptrRow (evT n A p) with
   | some q=>Nat.beq q r
   | none=>false)
  | none=>false)
noncomputable def evOpsD (P:Program) (call:CallF) (W:WS) (n:Nat) (ops:Array Oper) (D:DS) (st:List LS) (l:List Nat):Tr AV→RowT→OutE :=
 List.rec (motive:=fun _=>Tr AV→RowT→OutE) (fun A X=>some (.normal,st,A,X))
  (fun i _ ih A X=>ifB (rowB n A D ops i) (match (opAt ops i).guard with
   | none=>stepA P call W n (opAt ops i) A X ih
   | some (j,want)=>gvalK ops (evT n A) j want (stepA P call W n (opAt ops i) A X ih) (putTK n A (opAt ops i).dst uA fun A'=>ih A' X))) l
noncomputable def dstRows (n n0:Nat) (ops:Array Oper) (A:Tr AV):List Nat→List Nat→List Nat
 | [],ms=>ms
 | i :: l,ms=>dstRows n n0 ops A l (match (opAt ops i).dst with
  | some d=>(match evT n A (.tmp d) with
   | .ptr r _ _=>addR n0 r ms
   | .sl r _ _=>addR n0 r ms
   | _=>ms)
  | none=>ms)
noncomputable def slotsB (n n0:Nat) (ms:List Nat) (A Ac:Tr AV) (d i:Nat):Bool :=
 Nat.rec (motive:=fun _=>Nat→Bool) (fun _=>true) (fun _ ih i=>match renA n0 ms 12 (evT n A (.tmp i)) with
  | some v=>(match eqA 12 v (evT n Ac (.tmp i)) with
   | true=>ih (Nat.succ i)
   | false=>false)
  | none=>false) d i
noncomputable def sameR (n0:Nat) (ms:List Nat) (x y:Option Root):Bool:=match renO n0 ms x with
 | some R=>eqRt R y
 | none=>false
noncomputable def lowsB (n0:Nat) (ms:List Nat) (t tc:Tr (Option Root)) (d r:Nat):Bool :=
 Nat.rec (motive:=fun _=>Nat→Bool) (fun _=>true) (fun _ ih r=>match sameR n0 ms (Tr.get none (path 3 r) t) (Tr.get none (path 3 r) tc) with
  | true=>ih (Nat.succ r)
  | false=>false) d r
noncomputable def hisB (n0:Nat) (ms:List Nat) (t tc:Tr (Option Root)) (l:List Nat) (k:Nat):Bool :=
 List.rec (motive:=fun _=>Nat→Bool) (fun _=>true) (fun m _ ih k=>match sameR n0 ms (Tr.get none (path 3 m) t) (Tr.get none (path 3 k) tc) with
  | true=>ih (Nat.succ k)
  | false=>false) l k
noncomputable def chkT (n n0:Nat) (ms:List Nat) (A:Tr AV) (X:RowT) (Ac:Tr AV) (Xc:RowT):Bool :=
 distinctN ms && withinN n0 X.n ms && Nat.beq (Nat.add n0 ms.length) Xc.n && Nat.ble n0 X.n && slotsB n n0 ms A Ac n 0 && lowsB n0 ms X.t Xc.t n0 0 && hisB n0 ms X.t Xc.t ms n0
noncomputable def rowNB (n b0:Nat) (A:Tr AV) (D:DS) (ops:Array Oper) (i:Nat):Bool:=match D.lookup i with
 | none=>true
 | some r=>(match memOp (opAt ops i) with
  | some p=>(match ptrRow (evT n A p) with
   | some q=>(match Nat.blt r b0 with
    | true=>Nat.beq q r
    | false=>Nat.ble b0 q)
   | none=>false)
  | none=>false)
noncomputable def stepTr (P:Program) (call:CallF) (W:WS) (n:Nat) (ops:Array Oper) (b0:Nat) (D:DS) (i:Nat) (k:Tr AV→RowT→OutE) (A:Tr AV) (X:RowT):OutE :=
 ifB (rowNB n b0 A D ops i) (match (opAt ops i).guard with
   | none=>stepA P call W n (opAt ops i) A X k
   | some (j,want)=>gvalK ops (evT n A) j want (stepA P call W n (opAt ops i) A X k) (putTK n A (opAt ops i).dst uA fun A'=>k A' X))
noncomputable def leafT (n:Nat) (ops:Array Oper) (b0:Nat) (st:List LS) (ord:List Nat) (Ac:Tr AV) (Xc:RowT) (A:Tr AV) (X:RowT):OutE :=
 forceL forceNat (dstRows n b0 ops A ord []) fun ms=>ifB (chkT n b0 ms A X Ac Xc) (some (.normal,st,Ac,Xc))
noncomputable def evTree (P:Program) (call:CallF) (W:WS) (n:Nat) (ops:Array Oper) (b0:Nat) (D:DS) (st:List LS) (ord:List Nat) (Ac:Tr AV) (Xc:RowT) (fuel:Nat):Array Bool→Tr AV→RowT→OutE :=
 Nat.rec (motive:=fun _=>Array Bool→Tr AV→RowT→OutE)
  (fun listed A X=>match Region.ready .any ops listed with
   | []=>leafT n ops b0 st ord Ac Xc A X
   | _=>none)
  (fun _ ih listed A X=>match Region.ready .any ops listed with
   | []=>leafT n ops b0 st ord Ac Xc A X
   | x :: l=>(match pickA ops (conflictN W ops b0 D) listed (x :: l) with
    | some y=>stepTr P call W n ops b0 D y (ih (listed.setIfInBounds y true)) A X
    | none=>List.rec (motive:=fun _=>OutE) (some (.normal,st,Ac,Xc)) (fun i _ r=>match stepTr P call W n ops b0 D i (ih (listed.setIfInBounds i true)) A X with
     | some _=>r
     | none=>none) (x :: l))) fuel
noncomputable def evDyn (P:Program) (call:CallF) (n:Nat) (ops:Array Oper) (st:List LS) (A:Tr AV) (X:RowT):OutE :=
 forceL forceW (wset ops) fun W=>forceL forceNat (schedO W ops (befB ops) (List.range ops.size) ops.size 0) fun ord=>match evOpsD P call W n ops [] st ord A X with
  | some (_,_,A1,X1)=>forceL forceP (rowsD n A1 ops) fun D=>(match findF W ops D ord (floats ops),lowOK (befB ops) ops.size with
   | some _,true=>evOpsD P call W n ops D st ord A X
   | _,_=>forceNat X.n fun b0=>evTree P call W n ops b0 D st ord A1 X1 ops.size (Array.replicate ops.size false) A X)
  | none=>none
noncomputable def evE (P:Program) (call:CallF) (n:Nat) (ops:Array Oper) (st:List LS) (A:Tr AV) (X:RowT):OutE:=match planE ops with
 | some (W,ord)=>evOpsD P call W n ops [] st ord A X
 | none=>none
noncomputable def evDraw (P:Program) (call:CallF) (n:Nat) (ops:Array Oper) (st:List LS) (A:Tr AV) (X:RowT):OutE:=match planJ ops with
 | some (W,ord)=>(match evOpsD P call W n ops [] st ord A X with
  | some r=>some r
  | none=>evE P call n ops st A X)
 | none=>evDyn P call n ops st A X
def barFind (W:WS) (ops:Array Oper) (B:Array Nat):List Nat→Option Nat
 | []=>none
 | b :: r=>(match (opAt ops b).op with
  | .call c=>(match c.callee with
   | .builtin _=>barFind W ops B r
   | _=>(match barB W ops B b with
    | true=>some b
    | false=>barFind W ops B r))
  | _=>barFind W ops B r)
def barOf (ops:Array Oper):Option (WS × Nat):=forceL forceW (wset ops) fun W=>match barFind W ops (befB ops) (List.range ops.size) with
 | some b=>forceNat b fun b=>some (W,b)
 | none=>none
noncomputable def evBar (P:Program) (call:CallF) (yld:YieldF) (E:List LoopE) (n:Nat) (ops:Array Oper) (W:WS) (b:Nat) (st:List LS) (A:Tr AV) (X:RowT):OutE :=
 match evOpsA P call W n ops st ((lowL ops b).map (opAt ops)) A X with
 | some (.normal,_,A1,X1)=>(match (opAt ops b).guard with
  | none=>stepO P call yld E n (opAt ops b) st A1 X1 fun st2 A2 X2=>evOpsA P call W n ops st2 ((highL ops b).map (opAt ops)) A2 X2
  | some (j,want)=>gvalK ops (evT n A1) j want (stepO P call yld E n (opAt ops b) st A1 X1 fun st2 A2 X2=>evOpsA P call W n ops st2 ((highL ops b).map (opAt ops)) A2 X2) (putTK n A1 (opAt ops b).dst uA fun A'=>evOpsA P call W n ops st ((highL ops b).map (opAt ops)) A' X1))
 | _=>none
def last2B (ops:Array Oper):Option (Oper × Oper):=match Nat.blt 1 ops.size && feedB ops && guardB ops && feedB ops.pop && guardB ops.pop with
 | true=>(match ops[ops.size - 1]?,ops[ops.size - 2]? with
  | some o2,some o1=>(match o1.guard,o2.guard with
   | none,none=>some (o1,o2)
   | _,_=>none)
  | _,_=>none)
 | false=>none
noncomputable def evLast2 (P:Program) (call:CallF) (yld:YieldF) (E:List LoopE) (n:Nat) (ops:Array Oper) (st:List LS) (A:Tr AV) (X:RowT):OutE:=match last2B ops with
 | some (o1,o2)=>(match evDraw P call n ops.pop.pop st A X with
  | some (.normal,_,A1,X1)=>(match stepO P call yld E n o1 st A1 X1 fun st2 A2 X2=>some (.normal,st2,A2,X2) with
   | some (.normal,st2,A2,X2)=>(match stepO P call yld E n o2 st2 A2 X2 fun st3 A3 X3=>some (.normal,st3,A3,X3) with
    | some (.normal,st3,A3,X3)=>some (.normal,st3,A3,X3)
    | _=>none)
   | _=>none)
  | _=>none)
 | none=>none
noncomputable def evRegion (P:Program) (call:CallF) (yld:YieldF) (E:List LoopE) (n:Nat) (ops:Array Oper) (draw:Bool) (st:List LS) (A:Tr AV) (X:RowT):OutE:=match draw with
 | false=>evOps P call yld E n ops ops.toList st A X
 | true=>(match barOf ops with
  | some (W,b)=>evBar P call yld E n ops W b st A X
  | none=>(match drawSet ops with
   | some W=>(match evOpsA P call W n ops st ops.toList A X with
    | some r=>some r
    | none=>evE P call n ops st A X)
   | none=>(match evDraw P call n ops st A X with
    | some r=>some r
    | none=>evLast2 P call yld E n ops st A X)))
noncomputable def evRange (P:Program) (call:CallF) (E:List LoopE) (n:Nat) (g:AV) (ps:Array Tmp) (assign body:Code) (st:List LS) (A:Tr AV) (X:RowT):OutE:=match fnOf g [.yld X.n] with
 | some (gf,args)=>ifB (callable P gf && roomy X) (X.pushK none fun X1=>match call (E ++ [⟨X.n,ps,assign,body,n,A⟩]) gf args (st ++ [.ready]) X1 with
  | some (.ret _,st',X')=>afterE A E.length st' X'
  | _=>none)
 | none=>none
def evBlock (id:Nat) (r:OutE):OutE:=match r with
 | some (.exit i,st,A,X)=>(match Nat.beq i id with
  | true=>some (.normal,st,A,X)
  | false=>some (.exit i,st,A,X))
 | r=>r
def evScope (r:OutE):OutE:=match r with
 | some (.goto _,_,_,_)=>none
 | r=>r
def evSeq (r:OutE) (fy:List LS→Tr AV→RowT→OutE):OutE:=match r with
 | some (.normal,st,A,X)=>fy st A X
 | r=>r
def evCond (c:AV) (x y:OutE):OutE:=match c with
 | .sc (.bool true)=>x
 | .sc (.bool false)=>y
 | _=>none
noncomputable def evCode (P:Program) (call:CallF) (yld:YieldF) (E:List LoopE) (n k:Nat) (c:Code):List LS→Tr AV→RowT→OutE :=
 Code.rec (motive:=fun _=>List LS→Tr AV→RowT→OutE)
  (fun st A X=>some (.normal,st,A,X))
  (fun _ ops draw st A X=>evRegion P call yld E n ops draw st A X)
  (fun _ _ fx fy st A X=>evSeq (fx st A X) fy)
  (fun c _ _ fx fy st A X=>evCond (evT n A c) (fx st A X) (fy st A X))
  (fun id _ f st A X=>evBlock id (f st A X))
  (fun _ f st A X=>evLoop f k st A X)
  (fun g ps assign body _ _ st A X=>evRange P call E n (evT n A g) ps assign body st A X)
  (fun id st A X=>some (.exit id,st,A,X))
  (fun _ f st A X=>evScope (f st A X))
  (fun _ st A X=>some (.normal,st,A,X))
  (fun _ _ _ _=>none)
  (fun st A X=>some (.ret,st,A,X))
  (fun _ _ _ _=>none) c

noncomputable def resE (P:Program) (ev:Operand→AV) (X:RowT):List ResultVar→Option (List AV)
 | []=>some []
 | .tmp t :: r=>(match resE P ev X r with
  | some vs=>some (ev (.tmp t) :: vs)
  | none=>none)
 | .cell a t :: r=>loadK (packN P t) (ev (.tmp a)) X fun v=>(match resE P ev X r with
  | some vs=>some (v :: vs)
  | none=>none)

noncomputable def gcE (n0:Nat) (v:AV) (n lo:Nat) (t:Tr (Option Root)):Option (AV × Nat × Tr (Option Root)) :=
 forceL forceNat (refsA n0 12 v []) fun ms=>forceL forceNat (refsLow n0 t (Nat.sub n0 lo) lo ms) fun ms=>forceL forceNat (refsAll n0 t (Nat.sub n n0) 0 ms) fun ms =>
  ifB (distinctN ms && withinN n0 n ms && belRows n0 t lo 0 && Nat.ble lo n0) (match renA n0 ms 12 v with
   | some v'=>forceV 6 v' fun v'=>(match renLow n0 ms t (Nat.sub n0 lo) lo t with
    | some t1=>(match renHigh n0 ms t ms n0 t1 with
     | some t2=>forceNat (Nat.add n0 ms.length) fun m=>ifB (Nat.ble m n) (some (v',m,t2))
     | none=>none)
    | none=>none)
   | none=>none)
noncomputable def retE (n0 lo0:Nat) (v:AV) (st:List LS) (X:RowT):Option (Res × List LS × RowT):=match X with
 | ⟨n,lo,t⟩=>(match belB n0 12 v && belRows n0 t (Nat.sub n0 lo) lo with
  | true=>forceNat (minN lo0 lo) fun lo=>some (.ret v,st,⟨n0,lo,t⟩)
  | false=>(match gcE n0 v n lo t with
   | some (v',m,t')=>forceNat (minN lo0 lo) fun lo=>some (.ret v',st,⟨m,lo,t'⟩)
   | none=>forceNat (minN lo0 lo) fun lo=>some (.ret v,st,⟨n,lo,t⟩)))
def deferOf (c:Code):Option (Array Oper × List Oper × Oper × Operand):=match c with
 | .region _ ops false=>(match ops.toList.getLast? with
  | some o=>(match o.op,o.guard with
   | .defer c,none=>(match c.callee,c.args.toList with
    | .value f,[]=>some (ops,ops.toList.dropLast,o,f)
    | _,_=>none)
   | _,_=>none)
  | none=>none)
 | _=>none
abbrev OutD:=Option (Exit × List (FuncId × List AV) × List LS × Tr AV × RowT)
noncomputable def evTail (r:OutE) (ds:List (FuncId × List AV)):OutD:=match r with
 | some (e,st,A,X)=>some (e,ds,st,A,X)
 | none=>none
noncomputable def evSpine (P:Program) (call:CallF) (yld:YieldF) (E:List LoopE) (n k:Nat) (c:Code):List (FuncId × List AV)→List LS→Tr AV→RowT→OutD :=
 Code.rec (motive:=fun _=>List (FuncId × List AV)→List LS→Tr AV→RowT→OutD)
  (fun ds st A X=>some (.normal,ds,st,A,X))
  (fun id ops draw ds st A X=>evTail (evCode P call yld E n k (.region id ops draw) st A X) ds)
  (fun a _ _ fb ds st A X=>match deferOf a with
   | some (ops,l,o,f)=>(match evOps P call yld E n ops l st A X with
    | some (.normal,st1,A1,X1)=>(match fnOf (evT n A1 f) [] with
     | some g=>putTK n A1 o.dst uA fun A2=>fb (g :: ds) st1 A2 X1
     | none=>none)
    | _=>none)
   | none=>(match evCode P call yld E n k a st A X with
    | some (.normal,st1,A1,X1)=>fb ds st1 A1 X1
    | some (e,st1,A1,X1)=>some (e,ds,st1,A1,X1)
    | none=>none))
  (fun c x y _ _ ds st A X=>evTail (evCode P call yld E n k (.cond c x y) st A X) ds)
  (fun id c _ ds st A X=>evTail (evCode P call yld E n k (.block id c) st A X) ds)
  (fun c _ ds st A X=>evTail (evCode P call yld E n k (.loop c) st A X) ds)
  (fun g ps a b _ _ ds st A X=>evTail (evCode P call yld E n k (.rangeFunc g ps a b) st A X) ds)
  (fun id ds st A X=>some (.exit id,ds,st,A,X))
  (fun c _ ds st A X=>evTail (evCode P call yld E n k (.scope c) st A X) ds)
  (fun _ ds st A X=>some (.normal,ds,st,A,X))
  (fun _ _ _ _ _=>none)
  (fun ds st A X=>some (.ret,ds,st,A,X))
  (fun _ _ _ _ _=>none) c
noncomputable def noRange (c:Code):Bool :=
 Code.rec (motive:=fun _=>Bool) true (fun _ _ _=>true) (fun _ _ a b=>a && b) (fun _ _ _ a b=>a && b) (fun _ _ a=>a) (fun _ a=>a) (fun _ _ _ _ _ _=>false) (fun _=>true) (fun _ a=>a) (fun _=>true) (fun _=>true) true (fun _=>true) c
noncomputable def evDef (P:Program) (call:CallF) (yld:YieldF) (k:Nat) (E:List LoopE) (g:FuncId) (args:List AV) (x:Option Value) (st:List LS) (X:RowT):Option (List LS × RowT):=match P.funcs[g]? with
 | some fn=>(match fn.body with
  | some (.seq (.region _ ops false) rest)=>(match ops.toList with
   | o0 :: l=>(match o0.op,o0.guard,recV x with
    | .call c,none,some y=>(match c.callee with
     | .builtin .recover=>ifB (Nat.ble fn.ntmps 512 && Nat.ble args.length fn.ntmps && noRange rest && callable P g) (forceNat fn.ntmps fun n =>
       putTK n (frm n args 0 .nil) o0.dst y fun A=>match evOps P call yld E n ops l st A X with
       | some (.normal,st1,A1,X1)=>(match evCode P call yld E n k rest st1 A1 X1 with
        | some (.normal,st2,A2,X2)=>(match resE P (evT n A2) X2 fn.results.toList with
         | some _=>some (st2,X2)
         | none=>none)
        | some (.ret,st2,A2,X2)=>(match resE P (evT n A2) X2 fn.results.toList with
         | some _=>some (st2,X2)
         | none=>none)
        | _=>none)
       | _=>none)
     | _=>none)
    | _,_,_=>none)
   | []=>none)
  | _=>none)
 | none=>none
noncomputable def evLeave (P:Program) (call:CallF) (yld:YieldF) (k:Nat) (E:List LoopE):List (FuncId × List AV)→Option Value→List LS→RowT→Option (Option Value × List LS × RowT)
 | [],x,st,X=>some (x,st,X)
 | (g,args) :: ds,x,st,X=>(match evDef P call yld k E g args x st X with
  | some (st1,X1)=>evLeave P call yld k E ds none st1 X1
  | none=>none)
noncomputable def finE (P:Program) (n n0 lo0:Nat) (rs:List ResultVar) (A:Tr AV) (r:Option (Option Value × List LS × RowT)):Option (Res × List LS × RowT):=match r with
 | some (none,st,X)=>(match resE P (evT n A) X rs with
  | some vs=>retE n0 lo0 (one? vs) st X
  | none=>none)
 | some (some x,st,⟨m,lo,t⟩)=>forceNat (minN lo0 lo) fun lo=>some (.pan x,st,⟨m,lo,t⟩)
 | none=>none
noncomputable def evBody (P:Program) (call:CallF) (yld:YieldF) (k:Nat) (E:List LoopE) (n:Nat) (c:Code) (rs:List ResultVar) (args:List AV) (st:List LS) (X:RowT):Option (Res × List LS × RowT) :=
 match evSpine P call yld E n k c [] st (frm n args 0 .nil) ⟨X.n,X.n,X.t⟩ with
 | some (e,ds,st1,A,X')=>(match e with
  | .normal | .ret=>finE P n X.n X.lo rs A (evLeave P call yld k E ds none st1 X')
  | .panic [⟨x,false,false⟩]=>finE P n X.n X.lo rs A (evLeave P call yld k E ds (some x) st1 X')
  | _=>none)
 | none=>none
noncomputable def evFun (P:Program) (call:CallF) (yld:YieldF) (k:Nat):CallF:=fun E f args st X=>match P.funcs[f]? with
 | some fn=>(match fn.body with
  | some c=>ifB (Nat.ble fn.ntmps 512 && Nat.ble args.length fn.ntmps) (forceNat fn.ntmps fun n=>evBody P call yld k E n c fn.results.toList args st X)
  | none=>none)
 | none=>none

noncomputable def setT (n:Nat) (t:Tr AV) (ps:List Tmp) (xs:List AV):Tr AV:=match ps,xs with
 | p :: ps,x :: xs=>setT n (fset n t p x) ps xs
 | _,_=>t

noncomputable def evYield (P:Program) (call:CallF) (yld:YieldF) (k:Nat):YieldF:=fun E i e xs st X=>match st[i]? with
 | some .ready=>ifB (Nat.beq xs.length e.ps.size && Nat.ble e.n 512) (match evCode P call yld E e.n k e.assign st (setT e.n e.A e.ps.toList xs) X with
  | some (.normal,st1,A1,X1)=>(match st1[i]? with
   | some .ready=>(match evCode P call yld E e.n k e.body (st1.set i .busy) A1 X1 with
    | some (x,st2,_,X2)=>(match st2[i]?,roundNext x with
     | some .busy,some (b,s)=>some (b,st2.set i s,X2)
     | _,_=>none)
    | none=>none)
   | _=>none)
  | _=>none)
 | _=>none

noncomputable def ev (P:Program) (n:Nat):CallF × YieldF :=
 Nat.rec (motive:=fun _=>CallF × YieldF) (fun _ _ _ _ _=>none,fun _ _ _ _ _ _=>none) (fun n ih=>(evFun P ih.1 ih.2 n,evYield P ih.1 ih.2 n)) n
end Go.Lg
