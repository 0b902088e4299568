import Derived.Test.YtmjbflifegmmnaaMt
set_option linter.unusedVariables false
set_option linter.unusedSimpArgs false
namespace Go.Lg
open Go.RowKit
variable {P:Program}


section force
variable {β:Type}
def forceInt (z:Int) (k:Int→β):β:=match z with
 | .ofNat n=>forceNat n fun n=>k (.ofNat n)
 | .negSucc n=>forceNat n fun n=>k (.negSucc n)
def forceBool (b:Bool) (k:Bool→β):β:=match b with
 | true=>k true
 | false=>k false
def forceL {α:Type} (f:α→(α→β)→β):List α→(List α→β)→β
 | [],k=>k []
 | x :: xs,k=>f x fun x=>forceL f xs fun xs=>k (x :: xs)
theorem forceL_eq {α:Type} {f:α→(α→β)→β} (hf:∀ x k,f x k=k x):∀ (l:List α) (k:List α→β),forceL f l k=k l
 | [],k=>rfl
 | x :: xs,k=>by simp [forceL,hf,forceL_eq hf xs]
def forceV:Nat→AV→(AV→β)→β
 | 0,v,k=>k v
 | d+1,v,k=>match v with
  | .sc (.int K z)=>forceInt z fun z=>k (.sc (.int K z))
  | .sc (.bool b)=>forceBool b fun b=>k (.sc (.bool b))
  | .ptr r i j=>forceNat r fun r=>forceNat i fun i=>forceNat j fun j=>k (.ptr r i j)
  | .sl r i j=>forceNat r fun r=>forceNat i fun i=>forceNat j fun j=>k (.sl r i j)
  | .sub r i j s n=>forceNat r fun r=>forceNat i fun i=>forceNat j fun j=>forceNat s fun s=>forceNat n fun n=>k (.sub r i j s n)
  | .agg c=>forceL (forceV d) c fun c=>k (.agg c)
  | .isl sz c=>forceL (forceV d) c fun c=>k (.isl sz c)
  | .iptr c=>forceL (forceV d) c fun c=>k (.iptr c)
  | .clo f a b=>forceL (forceV d) a fun a=>forceL (forceV d) b fun b=>k (.clo f a b)
  | .tup c=>forceL (forceV d) c fun c=>k (.tup c)
  | .mp r=>forceNat r fun r=>k (.mp r)
  | .sit r=>forceNat r fun r=>k (.sit r)
  | .ifc t v=>forceV d v fun v=>k (.ifc t v)
  | v=>k v
end force

def inRb (K:IntKind) (z:Int):Bool:=match K with
 | .i64=>(match z with
  | .ofNat n=>Nat.blt n 9223372036854775808
  | .negSucc n=>Nat.blt n 9223372036854775808)
 | K=>decide (K.min≤z) && decide (z≤K.max)
def kindEq (K K':IntKind):Bool:=match K,K' with
 | .i64,.i64=>true
 | K,K'=>decide (K=K')
theorem kindEq_spec {K K'} (h:kindEq K K'=true):K=K':=by
 unfold kindEq at h
 split at h
 ·rfl
 ·simpa using h

def natOf (n:Int) (b:Nat):Option Nat:=match n with
 | .ofNat m=>if Nat.blt m b then some m else none
 | _=>none
def eBinGen (P:Program) (op:BinOp) (t:TypeId) (x y:Operand) (a b:AV):Option AV:=match toV a,toV b with
 | some va,some vb=>((do eqGuard op t x y va vb; binOp op t va vb:Sem Value).pv P).map ofV
 | _,_=>none
def eInt (K:IntKind) (z:Int):Option AV:=if inRb K z then some (.sc (.int K z)) else none
def ifk (b:Bool) (x:Option AV):Option AV:=match b with
 | true=>x
 | false=>none
def eBin (P:Program) (op:BinOp) (t:TypeId) (x y:Operand) (a b:AV):Option AV:=match a,b with
 | .sc (.int K m),.sc (.int K' n)=>(match op with
  | .add=>ifk (kindEq K' K) (eInt K (m+n))
  | .sub=>ifk (kindEq K' K) (eInt K (m - n))
  | .mul=>ifk (kindEq K' K) (eInt K (m*n))
  | .quo=>ifk (kindEq K' K) (if n=0 then none else eInt K (m.tdiv n))
  | .rem=>ifk (kindEq K' K) (if n=0 then none else some (.sc (.int K (m.tmod n))))
  | .eql=>ifk (kindEq K' K) (some (.sc (.bool (decide (m=n)))))
  | .neq=>ifk (kindEq K' K) (some (.sc (.bool (!decide (m=n)))))
  | .lss=>ifk (kindEq K' K) (some (.sc (.bool (decide (m<n)))))
  | .leq=>ifk (kindEq K' K) (some (.sc (.bool (decide (m≤n)))))
  | .gtr=>ifk (kindEq K' K) (some (.sc (.bool (decide (n<m)))))
  | .geq=>ifk (kindEq K' K) (some (.sc (.bool (decide (n≤m)))))
  | op=>eBinGen P op t x y (.sc (.int K m)) (.sc (.int K' n)))
 | a,b=>eBinGen P op t x y a b
def eUn (P:Program) (op:UnOp) (x:AV):Option AV:=match op,x with
 | .not,.sc (.bool b)=>some (.sc (.bool (!b)))
 | .neg,.sc (.int k n)=>eInt k (0 - n)
 | op,x=>(match toV x with
  | some vx=>((Op.unary op vx).pv P).map ofV
  | none=>none)
def eConv (P:Program) (s d:TypeId) (x:AV):Option AV:=match P.underlying d,x with
 | some (.int k),.sc (.int _ n)=>if known P s then some (.sc (.int k (k.wrap n))) else none
 | _,x=>(match toV x with
  | some vx=>((convert s d vx).pv P).map ofV
  | none=>none)
def eField (P:Program) (s:TypeId) (x:AV) (f:Nat):Option AV:=match P.underlying s with
 | some (.struct fs)=>(match fs[f]? with
  | some fd=>(match x with
   | .agg cs=>pack P fd.type (cs.drop fd.offset)
   | _=>none)
  | none=>none)
 | _=>none
def eIndex (P:Program) (t:TypeId) (x i:AV):Option AV:=match i with
 | .sc (.int _ n)=>(match P.underlying t with
  | some (.array len e)=>if known P e then (match natOf n len with
   | some k=>(match x with
    | .agg cs=>pack P e (cs.drop (k*P.cellsOf e))
    | _=>none)
   | none=>none) else none
  | some .string=>(match x with
   | .sc (.string s)=>(match natOf n s.size with
    | some k=>(s[k]?).map fun b=>.sc (.int .u8 b.toNat)
    | none=>none)
   | _=>none)
  | _=>none)
 | _=>none
def inB (l h b:Int):Bool:=decide (0≤l) && decide (l≤h) && decide (h≤b)
noncomputable def eSlice (P:Program) (t:TypeId) (x:AV) (lo hi:Option AV) (X:RowT):Option AV:=match P.underlying t with
 | some (.slice e)=>if known P e then (match x with
  | .isl sz L=>if P.cellsOf e=sz then (match boundOf lo 0,boundOf hi L.length with
   | some l,some h=>if inB l h L.length then some (.isl sz ((L.take h.toNat).drop l.toNat)) else none
   | _,_=>none) else none
  | .sl r o n=>(match X.row r with
   | some R=>if R.sz=P.cellsOf e then (match boundOf lo 0,boundOf hi n with
    | some l,some h=>if inB l h n then some (.sl r (o+l.toNat) (h - l).toNat) else none
    | _,_=>none) else none
   | none=>none)
  | .sub r i j sz n=>if P.cellsOf e=sz then (match boundOf lo 0,boundOf hi n with
    | some l,some h=>if inB l h n then some (.sub r i (j+l.toNat*sz) sz (h - l).toNat) else none
    | _,_=>none) else none
  | _=>none) else none
 | some (.array len e)=>if known P e then (match boundOf lo 0,boundOf hi len with
   | some l,some h=>if inB l h len then (match x with
    | .ptr r i j=>some (.sub r i (j+l.toNat*P.cellsOf e) (P.cellsOf e) (h - l).toNat)
    | .iptr cs=>if len*P.cellsOf e≤cs.length then some (.isl (P.cellsOf e) ((List.range (h - l).toNat).map fun k=>.agg ((cs.drop ((l.toNat+k)*P.cellsOf e)).take (P.cellsOf e)))) else none
    | _=>none) else none
   | _,_=>none) else none
 | _=>none
def eBuild (P:Program) (t:TypeId) (parts:List (Nat × AV)):Option AV:=match zeroA P t,placesOf P t with
 | some z,some pl=>if z.ok && (parts.all fun p=>p.2.ok) then (fillA pl z.cells parts).map .agg else none
 | _,_=>none
def eBuiltin (P:Program) (b:Builtin) (ts:Array TypeId) (args:List AV):Option AV:=match b with
 | .len=>(match args,ts[0]? with
  | [x],some t=>(match P.underlying t with
   | some (.slice _)=>(match x with
    | .isl _ L=>some (.sc (.int .i64 L.length))
    | .sl _ _ n=>some (.sc (.int .i64 n))
    | .sub _ _ _ _ n=>some (.sc (.int .i64 n))
    | .sc (.slice _ n _)=>some (.sc (.int .i64 n))
    | _=>none)
   | some .string=>(match x with
    | .sc (.string s)=>some (.sc (.int .i64 s.size))
    | _=>none)
   | some (.array n _)=>some (.sc (.int .i64 n))
   | _=>none)
  | _,_=>none)
 | .min=>(match args with
  | .sc (.int K m) :: r=>(asInts K r).map fun l=>.sc (.int K (l.foldl min m))
  | _=>none)
 | .max=>(match args with
  | .sc (.int K m) :: r=>(asInts K r).map fun l=>.sc (.int K (l.foldl max m))
  | _=>none)
 | _=>none
end Go.Lg

namespace Go.Lg
open Go.RowKit
variable {P:Program} {β:Type}

def kB (b:Bool) (k:AV→Option β):Option β:=match b with
 | true=>k (.sc (.bool true))
 | false=>k (.sc (.bool false))
def kI (z:Int) (k:AV→Option β):Option β:=match z with
 | .ofNat n=>(match Nat.blt n 9223372036854775808 with
  | true=>forceNat n fun n=>k (.sc (.int .i64 (.ofNat n)))
  | false=>none)
 | .negSucc n=>(match Nat.blt n 9223372036854775808 with
  | true=>forceNat n fun n=>k (.sc (.int .i64 (.negSucc n)))
  | false=>none)
def ltI (m n:Int):Bool:=match m with
 | .ofNat a=>(match n with
  | .ofNat b=>Nat.blt a b
  | .negSucc _=>false)
 | .negSucc a=>(match n with
  | .ofNat _=>true
  | .negSucc b=>Nat.blt b a)
def eqI (m n:Int):Bool:=match m with
 | .ofNat a=>(match n with
  | .ofNat b=>Nat.beq a b
  | .negSucc _=>false)
 | .negSucc a=>(match n with
  | .ofNat _=>false
  | .negSucc b=>Nat.beq a b)
def asI (v:AV) (k:Int→Option β) (e:Option β):Option β:=match v with
 | .sc (.int .i64 z)=>k z
 | _=>e
def plainK (v:Option AV) (k:AV→Option β):Option β:=match v with
 | some v=>forceV 3 v k
 | none=>none
def intK (op:BinOp) (m n:Int) (k:AV→Option β) (e:Option β):Option β:=match op with
 | .add=>kI (Int.add m n) k
 | .sub=>kI (Int.sub m n) k
 | .mul=>kI (Int.mul m n) k
 | .eql=>kB (eqI m n) k
 | .neq=>kB (!eqI m n) k
 | .lss=>kB (ltI m n) k
 | .leq=>kB (!ltI n m) k
 | .gtr=>kB (ltI n m) k
 | .geq=>kB (!ltI m n) k
 | _=>e
def binK (P:Program) (op:BinOp) (t:TypeId) (x y:Operand) (a b:AV) (k:AV→Option β):Option β :=
 asI a (fun m=>asI b (fun n=>intK op m n k (plainK (eBin P op t x y a b) k)) (plainK (eBin P op t x y a b) k)) (plainK (eBin P op t x y a b) k)
noncomputable def nthK (l:List AV) (i:Nat) (k:AV→Option β):Option β :=
 List.rec (motive:=fun _=>Nat→Option β) (fun _=>none) (fun x _ ih i=>Nat.rec (motive:=fun _=>Option β) (k x) (fun m _=>ih m) i) l i
noncomputable def dropN (l:List AV) (j:Nat):List AV :=
 Nat.rec (motive:=fun _=>List AV→List AV) (fun l=>l) (fun _ ih l=>List.rec (motive:=fun _=>List AV) [] (fun _ xs _=>ih xs) l) j l
noncomputable def takeK (n:Nat) (l:List AV) (k:List AV→Option β):Option β :=
 Nat.rec (motive:=fun _=>List AV→(List AV→Option β)→Option β) (fun _ k=>k []) (fun _ ih l k=>List.rec (motive:=fun _=>Option β) none (fun x xs _=>ih xs fun c=>k (x :: c)) l) n l k
noncomputable def copyK (l:List AV) (k:List AV→Option β):Option β :=
 List.rec (motive:=fun _=>(List AV→Option β)→Option β) (fun k=>k []) (fun x _ ih k=>ih fun c=>k (x :: c)) l k
noncomputable def appK (l m:List AV) (k:List AV→Option β):Option β :=
 List.rec (motive:=fun _=>(List AV→Option β)→Option β) (fun k=>copyK m k) (fun x _ ih k=>ih fun c=>k (x :: c)) l k
noncomputable def setLK (l:List AV) (i:Nat) (e:AV) (k:List AV→Option β):Option β :=
 List.rec (motive:=fun _=>Nat→(List AV→Option β)→Option β) (fun _ k=>k []) (fun x xs ih i k=>Nat.rec (motive:=fun _=>Option β) (copyK xs fun c=>k (e :: c)) (fun m _=>ih m fun c=>k (x :: c)) i) l i k
noncomputable def overK (cs:List AV) (j:Nat) (xs:List AV) (k:List AV→Option β):Option β :=
 Nat.rec (motive:=fun _=>List AV→(List AV→Option β)→Option β) (fun cs k=>appK xs (dropN cs xs.length) k)
  (fun _ ih cs k=>List.rec (motive:=fun _=>Option β) none (fun c cs _=>ih cs fun l=>k (c :: l)) cs) j cs k
noncomputable def packK (q:Option (Option Nat)) (cs:List AV) (j:Nat) (k:AV→Option β):Option β:=match q with
 | some (some n)=>takeK n (dropN cs j) fun c=>k (.agg c)
 | some none=>nthK cs j k
 | none=>none
noncomputable def loadK (q:Option (Option Nat)) (x:AV) (X:RowT) (k:AV→Option β):Option β:=match x with
 | .ptr r i j=>(match X.row r with
  | some R=>nthK R.els i fun e=>packK q e.cells j k
  | none=>none)
 | .iptr cs=>packK q cs 0 k
 | _=>none
noncomputable def fieldAddrK (fo:Option (Nat × Option (Option Nat))) (x:AV) (k:AV→Option β):Option β:=match fo with
 | some (off,_)=>(match x with
  | .ptr r i j=>forceNat (Nat.add j off) fun m=>k (.ptr r i m)
  | .iptr cs=>copyK (dropN cs off) fun c=>k (.iptr c)
  | _=>none)
 | none=>none
def idxK (n:Int) (b:Nat) (k:Nat→Option β):Option β:=match n with
 | .ofNat m=>(match Nat.blt m b with
  | true=>k m
  | false=>none)
 | .negSucc _=>none
def ifB (b:Bool) (x:Option β):Option β:=match b with
 | true=>x
 | false=>none
noncomputable def indexAddrK (se:Option (TypeId × Nat)) (ae:Option (Nat × TypeId × Nat)) (x:AV) (n:Int) (X:RowT) (k:AV→Option β):Option β:=match se with
 | some (_,S)=>(match x with
  | .isl sz L=>ifB (Nat.beq S sz) (idxK n L.length fun m=>nthK L m fun e=>k (.iptr e.cells))
  | .sl r o m=>(match X.row r with
   | some R=>ifB (Nat.beq R.sz S) (idxK n m fun i=>forceNat (Nat.add o i) fun i=>k (.ptr r i 0))
   | none=>none)
  | .sub r i j sz m=>ifB (Nat.beq S sz) (idxK n m fun q=>forceNat (Nat.add j (Nat.mul q sz)) fun j=>k (.ptr r i j))
  | _=>none)
 | none=>(match ae with
  | some (len,_,S)=>idxK n len fun q=>(match x with
   | .ptr r i j=>forceNat (Nat.add j (Nat.mul q S)) fun j=>k (.ptr r i j)
   | .iptr cs=>copyK (dropN cs (Nat.mul q S)) fun c=>k (.iptr c)
   | _=>none)
  | none=>none)
noncomputable def mapK {α:Type} (f:α→AV) (l:List α) (k:List AV→Option β):Option β :=
 List.rec (motive:=fun _=>(List AV→Option β)→Option β) (fun k=>k []) (fun x _ ih k=>ih fun c=>k (f x :: c)) l k
end Go.Lg
