import Derived.Test.YtmjbflifegmmnaaMeMg
set_option linter.unusedVariables false
set_option linter.unusedSimpArgs false
namespace Go.Lg
open Go.RowKit
variable {P:Program} {β:Type}

def roomy (S:RowT):Bool:=Nat.blt S.n 510
noncomputable def newK (b:Bool) (n:Nat) (z:AV) (X:RowT) (k:AV→RowT→Option β):Option β :=
 ifB (b && z.ok && Nat.beq z.cells.length n && roomy X) (X.pushK (some ⟨n,[z],none⟩) (k (.ptr X.n 0 0)))
noncomputable def allocK (P:Program) (t:TypeId) (X:RowT) (k:AV→RowT→Option β):Option β:=match zeroA P t with
 | some z=>newK true (P.cellsOf t) z X k
 | none=>none
noncomputable def storeK (kn:Bool) (n:Nat) (p x:AV) (X:RowT) (k:AV→RowT→Option β):Option β:=match p with
 | .ptr r i j=>(match X.row r with
  | some R=>nthK R.els i fun e=>ifB (kn && x.ok && Nat.beq x.cells.length n && !Nat.beq x.cells.length 0 && Nat.ble (Nat.add j x.cells.length) R.sz)
    (putElK e j x fun e'=>setLK R.els i e' fun els=>X.setK r (some ⟨R.sz,els,R.ob⟩) (k .any))
  | none=>none)
 | _=>none
where
 putElK (e:AV) (j:Nat) (x:AV) (k:AV→Option β):Option β:=match e with
  | .agg cs=>overK cs j x.cells fun c=>k (.agg c)
  | _=>k x
noncomputable def elemsE (S:Nat) (X:RowT):AV→Option (List AV)
 | .isl sz L=>(match Nat.beq sz S with
  | true=>some L
  | false=>none)
 | .sl r o m=>(match X.row r with
  | some R=>(match Nat.ble (Nat.add o m) R.els.length && Nat.beq R.sz S with
   | true=>some ((R.els.drop o).take m)
   | false=>none)
  | none=>none)
 | .sub r i j sz n=>(match X.row r with
  | some R=>(match Nat.beq sz S && Nat.blt i R.els.length && Nat.ble (Nat.add j (Nat.mul n sz)) R.sz with
   | true=>some ((List.range n).map fun k=>.agg (((R.els.getD i .any).cells.drop (j+k*sz)).take sz))
   | false=>none)
  | none=>none)
 | .sc (.slice none 0 0)=>some []
 | _=>none
noncomputable def dstK (S:Nat) (x:AV) (xs:List AV) (X:RowT) (k:RowT→Option β):Option β:=match x with
 | .sl r o n=>(match X.row r with
  | some R=>ifB (Nat.ble (Nat.add o n) R.els.length && Nat.beq R.sz S && Nat.ble xs.length n) (match xs with
   | []=>k X
   | x :: xs=>overK R.els o (x :: xs) fun els=>X.setK r (some ⟨R.sz,els,R.ob⟩) k)
  | none=>none)
 | .sub r i j sz n=>(match X.row r with
  | some R=>ifB (Nat.beq sz S && !Nat.beq S 0 && Nat.ble (Nat.add j (Nat.mul n S)) R.sz && Nat.ble xs.length n) (nthK R.els i fun e=>match xs with
   | []=>k X
   | x :: xs=>storeK.putElK e j (.agg ((x :: xs).flatMap AV.cells)) fun e'=>setLK R.els i e' fun els=>X.setK r (some ⟨R.sz,els,R.ob⟩) k)
  | none=>none)
 | .sc (.slice none 0 0)=>(match xs with
  | []=>k X
  | _ :: _=>none)
 | _=>none
noncomputable def copyBK (P:Program) (se:Option (TypeId × Nat)) (d s:AV) (X:RowT) (k:AV→RowT→Option β):Option β:=match se with
 | some (e,S)=>(match lenA d,elemsE S X s with
  | some n,some L=>ifB (L.all AV.ok) (takeM n L fun xs=>dstK S d xs X fun X'=>forceNat (minN L.length n) fun m=>k (.sc (.int .i64 (.ofNat m))) X')
  | _,_=>none)
 | none=>none
where takeM (n:Nat) (l:List AV) (k:List AV→Option β):Option β:=copyK (l.take n) k
noncomputable def clearBK (P:Program) (t:TypeId) (se:Option (TypeId × Nat)) (x:AV) (X:RowT) (k:AV→RowT→Option β):Option β:=match x with
 | .sc (.map none)=>ifB (known P t) (k (.tup []) X)
 | .mp r=>ifB (known P t) (match X.row r with
  | some R=>(match R.ob with
   | some (.map _ n)=>X.setK r (some ⟨R.sz,[],some (.map [] n)⟩) (k (.tup []))
   | _=>none)
  | none=>none)
 | x=>(match se with
  | some (e,S)=>(match lenA x,zeroA P e with
   | some n,some z=>ifB (z.ok && Nat.beq z.cells.length S) (copyK (List.replicate n z) fun xs=>dstK S x xs X (k (.tup [])))
   | _,_=>none)
  | none=>none)
noncomputable def baseK (S:Nat) (X:RowT) (s:AV) (k:List AV→RowT→Option β):Option β:=match s with
 | .sl r o n=>(match X.row r with
  | some R=>ifB (Nat.ble (Nat.add o n) R.els.length && Nat.beq R.sz S) (match Nat.beq o 0 && Nat.beq R.els.length n with
   | true=>X.setK r none (k R.els)
   | false=>takeK n (dropN R.els o) fun els=>X.setK r none (k els))
  | none=>none)
 | .sc (.slice none 0 0)=>k [] X
 | _=>none
noncomputable def appendK (P:Program) (se:Option (TypeId × Nat)) (s x:AV) (X:RowT) (k:AV→RowT→Option β):Option β:=match se with
 | some (e,S)=>(match zeroA P e,elemsE S X x with
  | some z,some L=>baseK S X s fun els X1=>ifB (z.ok && Nat.beq z.cells.length S && L.all AV.ok && Nat.ble (Nat.add els.length L.length) 1048576 && Nat.ble (Nat.mul (Nat.add els.length L.length) (P.bytesOf e)) 140737488355328 && roomy X)
    (appK els L fun l=>forceNat (Nat.add els.length L.length) fun n=>X1.pushK (some ⟨S,l,none⟩) (k (.sl X.n 0 n)))
  | _,_=>none)
 | none=>none
noncomputable def makeK (P:Program) (se:Option (TypeId × Nat)) (l c:AV) (X:RowT) (k:AV→RowT→Option β):Option β:=match se,l,c with
 | some (e,S),.sc (.int _ n),.sc (.int _ m)=>(match zeroA P e with
  | some z=>ifB (z.ok && Nat.beq z.cells.length S && inB n m 1048576 && decide (m*P.bytesOf e≤140737488355328) && roomy X)
    (copyK (List.replicate n.toNat z) fun els=>forceNat n.toNat fun q=>X.pushK (some ⟨S,els,none⟩) (k (.sl X.n 0 q)))
  | none=>none)
 | _,_,_=>none
noncomputable def litK (P:Program) (se:Option (TypeId × Nat)) (len:Nat) (is:List Nat) (xs:List AV) (X:RowT) (k:AV→RowT→Option β):Option β:=match se with
 | some (e,S)=>(match zeroA P e with
  | some z=>ifB (Nat.ble (Nat.mul len S) 16777216 && decide (is=List.range len) && xs.all AV.ok && (xs.all fun x=>Nat.beq x.cells.length S) && Nat.beq xs.length is.length)
    (match len with
    | 0=>ifB (roomy X) (X.pushK (some ⟨S,[],none⟩) (k (.sl X.n 0 0)))
    | _+1=>k (.isl S xs) X)
  | none=>none)
 | none=>none
noncomputable def litRK (P:Program) (se:Option (TypeId × Nat)) (len:Nat) (is:List Nat) (xs:List AV) (X:RowT) (k:AV→RowT→Option β):Option β:=match se with
 | some (e,S)=>(match zeroA P e with
  | some z=>ifB (Nat.ble (Nat.mul len S) 16777216 && decide (is=List.range len) && xs.all AV.ok && (xs.all fun x=>Nat.beq x.cells.length S) && Nat.beq xs.length is.length && Nat.blt 0 S && roomy X)
    (X.pushK (some ⟨S,xs,none⟩) (k (.sl X.n 0 len)))
  | none=>none)
 | none=>none
noncomputable def makeMapK (P:Program) (t:TypeId) (r:Option AV) (X:RowT) (k:AV→RowT→Option β):Option β :=
 ifB ((match r with
  | none=>true
  | some (.sc (.int _ _))=>(match P.underlying t with
   | some (.map _ _)=>true
   | _=>false)
  | _=>false) && roomy X) (X.pushK (some ⟨0,[],some (.map [] 0)⟩) (k (.mp X.n)))
noncomputable def findR (P:Program) (kt:TypeId) (k:Value) (l:List (Value × Nat × AV)) (i:Nat) (K:Option Nat→Option β):Option β :=
 List.rec (motive:=fun _=>Nat→Option β) (fun _=>K none) (fun x _ ih i=>match (Op.equal kt k x.1).pv P with
  | some true=>K (some i)
  | some false=>ih (Nat.succ i)
  | none=>none) l i
noncomputable def entK (X:RowT) (x:AV) (k:List (Value × Nat × AV)→Option β):Option β:=match x with
 | .mp r=>(match X.row r with
  | some R=>(match R.ob with
   | some (.map es _)=>k es
   | _=>none)
  | none=>none)
 | .sc (.map none)=>k []
 | _=>none
def mapKind (t:Option TypeDesc):Option (TypeId × TypeId):=match t with
 | some (.map k e)=>some (k,e)
 | _=>none
def okPv (s:Option Unit):Bool:=match s with
 | some ()=>true
 | none=>false
noncomputable def lookupK (P:Program) (t:TypeId) (x i:AV) (ok:Bool) (X:RowT) (k:AV→Option β):Option β:=match mapKind (P.underlying t),toV i with
 | some (kt,et),some kv=>ifB (known P kt) (entK X x fun es=>ifB (okPv ((Instr.checkKey es.isEmpty 10000 kt kv).pv P)) (findR P kt kv es 0 fun hit=>match hit with
  | some j=>(match es[j]? with
   | some e=>(match ok with
    | true=>k (.tup [e.2.2,.sc (.bool true)])
    | false=>k e.2.2)
   | none=>none)
  | none=>(match zeroA P et with
   | some z=>(match ok with
    | true=>k (.tup [z,.sc (.bool false)])
    | false=>k z)
   | none=>none)))
 | _,_=>none
noncomputable def mapUpdateK (P:Program) (t:TypeId) (m i x:AV) (X:RowT) (k:AV→RowT→Option β):Option β:=match mapKind (P.underlying t),toV i,m with
 | some (kt,et),some kv,.mp r=>ifB (known P kt && okPv ((Instr.checkKey false 10000 kt kv).pv P)) (match X.row r with
  | some R=>(match R.ob with
   | some (.map es n)=>findR P kt kv es 0 fun hit=>match hit with
    | some j=>(match es[j]? with
     | some e=>ifB (Instr.sameBits 10000 e.1 kv) (X.setK r (some ⟨R.sz,[],some (.map (es.set j (kv,e.2.1,x)) n)⟩) (k .any))
     | none=>none)
    | none=>X.setK r (some ⟨R.sz,[],some (.map (es ++ [(kv,n,x)]) (n+1))⟩) (k .any)
   | _=>none)
  | none=>none)
 | _,_,_=>none
def notIfc (d:TypeDesc):Bool:=match d with
 | .interface _=>false
 | _=>true
def makeIfcK (P:Program) (t:TypeId) (x:AV) (k:AV→Option β):Option β:=match P.underlying t with
 | some d=>ifB (notIfc d) (k (.ifc t x))
 | none=>none
noncomputable def taFail (P:Program) (as:TypeId) (ok:Bool) (k:AV→Option β):Option β:=match ok with
 | false=>none
 | true=>(match zeroA P as with
  | some z=>k (.tup [z,.sc (.bool false)])
  | none=>none)
def taHold (ok:Bool) (a:AV) (k:AV→Option β):Option β:=match ok with
 | true=>k (.tup [a,.sc (.bool true)])
 | false=>k a
def ifcWant (d:TypeDesc):Option (Array (String × TypeId)):=match d with
 | .interface want=>some want
 | _=>none
noncomputable def typeAssertK (P:Program) (x:AV) (as:TypeId) (ok:Bool) (k:AV→Option β):Option β:=match P.underlying as with
 | some d=>(match x with
  | .ifc t a=>(match ifcWant d with
   | some want=>(match P.info? t with
    | some i=>(match Instr.missingMethod want i.methods with
     | none=>taHold ok (.ifc t a) k
     | some _=>taFail P as ok k)
    | none=>none)
   | none=>(match Nat.beq t as with
    | true=>taHold ok a k
    | false=>taFail P as ok k))
  | .sc .nilIface=>taFail P as ok k
  | _=>none)
 | none=>none
def pureK (v:Option AV) (X:RowT) (k:AV→RowT→Option β):Option β:=plainK v fun v=>k v X
def pickK (c a b:AV) (X:RowT) (k:AV→RowT→Option β):Option β:=match c with
 | .sc (.bool true)=>k a X
 | .sc (.bool false)=>k b X
 | _=>none
def nilK (P:Program) (x:AV) (X:RowT) (k:AV→RowT→Option β):Option β:=match x with
 | .ptr ..=>k x X
 | .iptr _=>k x X
 | .clo (.method name) (.ifc t _ :: _) _=>ifB (methodOf P t name).isSome (k x X)
 | _=>none
noncomputable def indexK (se:Option (TypeId × Nat)) (ae:Option (Nat × TypeId × Nat)) (x i:AV) (X:RowT) (k:AV→RowT→Option β):Option β:=match i with
 | .sc (.int _ n)=>indexAddrK se ae x n X fun v=>k v X
 | _=>none
noncomputable def extractK (x:AV) (i:Nat) (X:RowT) (k:AV→RowT→Option β):Option β:=match x with
 | .tup l=>nthK l i fun v=>k v X
 | _=>none
noncomputable def sliceK (P:Program) (t:TypeId) (x:AV) (lo hi mx:Option AV) (X:RowT) (k:AV→RowT→Option β):Option β:=match mx with
 | none=>pureK (eSlice P t x lo hi X) X k
 | some (.sc (.int _ m))=>(match P.underlying t,hi with
  | some (.slice _),some (.sc (.int _ h))=>bif decide (m=h) then pureK (eSlice P t x lo hi X) X k else none
  | _,_=>none)
 | some _=>none
noncomputable def buildK (P:Program) (t:TypeId) (ev:Operand→AV) (parts:Array (Nat × Operand)) (X:RowT) (k:AV→RowT→Option β):Option β :=
 pureK (eBuild P t (parts.toList.map fun p=>(p.1,ev p.2))) X k

noncomputable def opK (P:Program) (ev:Operand→AV) (X:RowT) (call:(AV→RowT→Option β)→Call→Option β) (pan:Operand→Option β) (o:Op) (k:AV→RowT→Option β):Option β :=
 Op.casesOn (motive:=fun _=>Option β) o
  (fun x=>k (ev x) X)
  (fun x=>k (ev x) X)
  (fun c a b=>pickK (ev c) (ev a) (ev b) X k)
  (fun t=>allocK P t X k)
  (fun t x=>newK true (P.cellsOf t) (ev x) X k)
  (fun t parts=>buildK P t ev parts X k)
  (fun t len parts=>mapK (fun p:Nat × Operand=>ev p.2) parts.toList fun xs=>litK P (slElem P t) len (parts.toList.map (·.1)) xs X k)
  (fun t m i x=>mapUpdateK P t (ev m) (ev i) (ev x) X k)
  (fun t x=>loadK (packN P t) (ev x) X fun v=>k v X)
  (fun t p x=>storeK (known P t) (P.cellsOf t) (ev p) (ev x) X k)
  (fun _=>none)
  (fun _=>none)
  (fun x=>nilK P (ev x) X k)
  (fun op t x y _=>binK P op t x y (ev x) (ev y) fun v=>k v X)
  (fun op _ x=>pureK (eUn P op (ev x)) X k)
  (fun s d x=>pureK (eConv P s d (ev x)) X k)
  (fun _ _=>none)
  (fun t x=>makeIfcK P t (ev x) fun v=>k v X)
  (fun fn fs cs=>mapK ev fs.toList fun fs=>mapK ev cs.toList fun cs=>k (.clo fn fs cs) X)
  (fun t r=>makeMapK P t (r.map ev) X k)
  (fun _ _=>none)
  (fun t l c=>makeK P (slElem P t) (ev l) (ev c) X k)
  (fun t x lo hi mx=>sliceK P t (ev x) (lo.map ev) (hi.map ev) (mx.map ev) X k)
  (fun s x f=>fieldAddrK (fieldOff P s f) (ev x) fun v=>k v X)
  (fun s x f=>pureK (eField P s (ev x) f) X k)
  (fun t x i=>indexK (slElem P t) (arElem P t) (ev x) (ev i) X k)
  (fun t x i=>pureK (eIndex P t (ev x) (ev i)) X k)
  (fun t x i ok=>lookupK P t (ev x) (ev i) ok X fun v=>k v X)
  (fun t m i x=>mapUpdateK P t (ev m) (ev i) (ev x) X k)
  (fun _ _ _=>none)
  (fun _ _ _ _=>none)
  (fun _ _=>none)
  (fun _ _=>none)
  (fun _=>none)
  (fun x _ as ok=>typeAssertK P (ev x) as ok fun v=>k v X)
  (fun t i=>extractK (ev t) i X k)
  (fun c=>call k c)
  (fun _=>none)
  (fun _=>none)
  (fun x=>pan x)
  (fun _ _=>none)
  (fun _ _ _=>none)
  (fun _ _=>none)

end Go.Lg
