import Derived.Test.YtpdcajchppoocaaC5
set_option linter.unusedVariables false
set_option linter.unusedSimpArgs false
namespace Go.Lg
open Go.RowKit
variable {P:Program}

inductive SV:Type where
 | any
 | int (k:IntKind) (z:Int)
 | dec (p:Prop) (i:Decidable p)
 | bool (b:Bool)
 | val (v:Value)
 | ptr (r i j:Nat)
 | ptd (r i j:Nat)
 | sl (r o n:Nat)
 | sub (r i j sz n:Nat)
 | lst (sz n:Nat) (f:Nat→SV)
 | ipt (c:List SV)
 | ipd (c:List SV) (j:Nat)
 | agg (c:List SV)
 | tup (c:List SV)
 | clo (fn:Fn) (first captured:List SV)
 | yld (r:Nat)
 | mp (r:Nat)
 | ifc (t:TypeId) (v:SV)

mutual
def SV.den:SV→AV
 | .any=>.any
 | .int k z=>.sc (.int k z)
 | .dec p i=>.sc (.bool (@decide p i))
 | .bool b=>.sc (.bool b)
 | .val v=>.sc v
 | .ptr r i j=>.ptr r i j
 | .ptd r i j=>.ptr r i j
 | .sl r o n=>.sl r o n
 | .sub r i j sz n=>.sub r i j sz n
 | .lst sz n f=>.isl sz ((List.range n).map fun i=>(f i).den)
 | .ipt c=>.iptr (SV.denL c)
 | .ipd c j=>.iptr ((SV.denL c).drop j)
 | .agg c=>.agg (SV.denL c)
 | .tup c=>.tup (SV.denL c)
 | .clo fn a b=>.clo fn (SV.denL a) (SV.denL b)
 | .yld r=>.yld r
 | .mp r=>.mp r
 | .ifc t v=>.ifc t v.den
def SV.denL:List SV→List AV
 | []=>[]
 | x :: xs=>x.den :: SV.denL xs
end
theorem denL_eq:∀ l:List SV,SV.denL l=l.map SV.den
 | []=>by simp [SV.denL]
 | x :: xs=>by simp [SV.denL,denL_eq xs]
theorem denL_length (l:List SV):(SV.denL l).length=l.length:=by rw [denL_eq]; simp
def SV.cells:SV→List SV
 | .agg c=>c
 | v=>[v]
theorem den_cells (v:SV):v.den.cells=SV.denL v.cells:=by
 cases v <;> simp [SV.den,SV.cells,AV.cells,SV.denL]
end Go.Lg

namespace Go.Lg
open Go.RowKit
variable {P:Program}

section
variable {α β:Type}
def Tr.map (g:α→β):Tr α→Tr β
 | .nil=>.nil
 | .leaf v=>.leaf (g v)
 | .node a0 a1 a2 a3 a4 a5 a6 a7=>.node (a0.map g) (a1.map g) (a2.map g) (a3.map g) (a4.map g) (a5.map g) (a6.map g) (a7.map g)
theorem Tr.get_map (g:α→β) (d:α):∀ (p:List Dg) (t:Tr α),Tr.get (g d) p (t.map g)=g (Tr.get d p t)
 | [],t=>by cases t <;> rfl
 | c :: p,t=>by
  cases t with
  | nil=>rfl
  | leaf v=>rfl
  | node a0 a1 a2 a3 a4 a5 a6 a7=>cases c <;> exact Tr.get_map g d p _
theorem Tr.map_put (g:α→β) (c:Dg) (x a0 a1 a2 a3 a4 a5 a6 a7:Tr α):(Dg.put c x a0 a1 a2 a3 a4 a5 a6 a7).map g=Dg.put c (x.map g) (a0.map g) (a1.map g) (a2.map g) (a3.map g) (a4.map g) (a5.map g) (a6.map g) (a7.map g):=by
 cases c <;> rfl
theorem Tr.set_map (g:α→β) (v:α):∀ (p:List Dg) (t:Tr α),(Tr.set v p t).map g=Tr.set (g v) p (t.map g)
 | [],t=>rfl
 | c :: p,t=>by
  cases t with
  | nil =>
   show (Dg.put c (Tr.set v p .nil) .nil .nil .nil .nil .nil .nil .nil .nil).map g=_
   rw [Tr.map_put,Tr.set_map g v p .nil]; rfl
  | leaf u =>
   show (Dg.put c (Tr.set v p .nil) .nil .nil .nil .nil .nil .nil .nil .nil).map g=_
   rw [Tr.map_put,Tr.set_map g v p .nil]; rfl
  | node a0 a1 a2 a3 a4 a5 a6 a7 =>
   show (Dg.put c (Tr.set v p (Dg.pick c a0 a1 a2 a3 a4 a5 a6 a7)) a0 a1 a2 a3 a4 a5 a6 a7).map g=_
   rw [Tr.map_put,Tr.set_map g v p]
   show Dg.put c (Tr.set (g v) p ((Dg.pick c a0 a1 a2 a3 a4 a5 a6 a7).map g)) _ _ _ _ _ _ _ _=Dg.put c (Tr.set (g v) p (Dg.pick c (a0.map g) (a1.map g) (a2.map g) (a3.map g) (a4.map g) (a5.map g) (a6.map g) (a7.map g))) _ _ _ _ _ _ _ _
   congr 2
   cases c <;> rfl
end

abbrev FS:=Tr SV
noncomputable def sget (n:Nat) (t:FS) (i:Nat):SV:=Bool.rec (motive:=fun _=>SV) .any (Tr.get .any (path (dep n) i) t) (Nat.blt i n)
noncomputable def sset (n:Nat) (t:FS) (i:Nat) (v:SV):FS:=Bool.rec (motive:=fun _=>FS) t (Tr.set v (path (dep n) i) t) (Nat.blt i n)
noncomputable def frD (n:Nat) (t:FS):List AV:=fL n (t.map SV.den)
theorem sget_den (n:Nat) (t:FS) (i:Nat):(frD n t).getD i .any=(sget n t i).den:=by
 rw [frD,fL_get]
 unfold fget sget
 cases Nat.blt i n
 ·simp [SV.den]
 ·have:=Tr.get_map SV.den .any (path (dep n) i) t
  simpa [SV.den] using this
theorem sset_den {n:Nat} (hn:n≤512) (t:FS) (i:Nat) (v:SV):(frD n t).set i v.den=frD n (sset n t i v):=by
 rw [frD,fL_set hn,frD]
 congr 1
 unfold fset sset
 cases Nat.blt i n
 ·rfl
 ·exact (Tr.set_map SV.den v _ _).symm
noncomputable def sev (n:Nat) (t:FS) (x:Operand):SV:=match x with
 | .tmp i=>sget n t i
 | .const v=>(match v with
  | .int k z=>.int k z
  | .bool b=>.bool b
  | v=>.val v)
 | .global _=>.any
 | .func f=>.val (.func (.func f) #[] #[])
theorem sev_den (n:Nat) (t:FS) (x:Operand):aev (frD n t) x=(sev n t x).den:=by
 cases x with
 | tmp i=>exact sget_den n t i
 | const v=>cases v <;> rfl
 | global g=>rfl
 | func f=>rfl
noncomputable def sput (n:Nat) (t:FS) (d:Option Tmp) (v:SV):FS:=match d with
 | none=>t
 | some d=>sset n t d v
theorem sput_den {n:Nat} (hn:n≤512) (t:FS) (d:Option Tmp) (v:SV):putA (frD n t) d v.den=frD n (sput n t d v):=by
 cases d with
 | none=>rfl
 | some d=>exact sset_den hn t d v

structure SRow where
 sz:Nat
 n:Nat
 f:Nat→SV
 /-- a variable: n=1 -/
 var:Bool
def SRow.els (R:SRow):List AV:=(List.range R.n).map fun i=>(R.f i).den
def keyA:AV→Value
 | .tup (k :: _)=>(toV k).getD undef
 | _=>undef
def valA:AV→AV
 | .tup (_ :: v :: _)=>v
 | _=>.any
def entsV (c:Nat) (g:Nat→SV):List (Value × Nat × AV):=(List.range c).map fun i=>(keyA (g i).den,i,valA (g i).den)
def mapOb:SV→Option ObjA
 | .lst _ c g=>some (.map (entsV c g) c)
 | _=>none
def SRow.obj (R:SRow):Option ObjA:=match R.var with
 | true=>(match R.n with
  | 0=>mapOb (R.f 0)
  | _=>none)
 | false=>none
theorem SRow.obj_n {R:SRow} (h:R.n≠0):R.obj=none:=by
 unfold SRow.obj
 cases R.var with
 | false=>rfl
 | true =>
  cases hn:R.n with
  | zero=>exact absurd hn h
  | succ m=>rfl
theorem SRow.obj_f {R:SRow} (h:R.var=false):R.obj=none:=by unfold SRow.obj; rw [h]
@[simp] theorem SRow.obj_nv (sz n:Nat) (f:Nat→SV):(SRow.mk sz n f false).obj=none:=rfl
@[simp] theorem SRow.obj_1 (sz n:Nat) (f:Nat→SV) (b:Bool):(SRow.mk sz (n+1) f b).obj=none:=by cases b <;> rfl
def SRow.den (R:SRow):Root:=⟨R.sz,R.els,R.obj⟩
structure XS where
 n:Nat
 t:Tr (Option SRow)
theorem SRow.den_n {R:SRow} (h:R.n≠0):R.den=⟨R.sz,R.els,none⟩:=by unfold SRow.den; rw [SRow.obj_n h]
def noMap (R:SRow):Bool:=match R.var with
 | true=>Nat.beq R.n 1
 | false=>true
theorem noMap_spec {R:SRow} (h:noMap R=true):R.obj=none:=by
 unfold noMap at h
 split at h
 ·exact SRow.obj_n (by have:=Nat.eq_of_beq_eq_true h; omega)
 ·rename_i h1; exact SRow.obj_f h1
def denR (x:Option SRow):Option Root:=x.map SRow.den
def XS.rt (X:XS):RowT:=⟨X.n,0,X.t.map denR⟩
noncomputable def XS.den (X:XS):Store:=X.rt.L
noncomputable def XS.row (X:XS) (r:Nat):Option SRow:=Bool.rec (motive:=fun _=>Option SRow) none (Tr.get none (path 3 r) X.t) (Nat.blt r X.n)
theorem XS.row_rt {X:XS} {r:Nat} {R:SRow} (h:X.row r=some R):X.rt.row r=some R.den:=by
 unfold XS.row at h
 unfold RowT.row
 show Bool.rec (motive:=fun _=>Option Root) none (Tr.get none (path 3 r) (X.t.map denR)) (Nat.blt r X.n)=_
 have e:Tr.get none (path 3 r) (X.t.map denR)=denR (Tr.get none (path 3 r) X.t):=Tr.get_map denR none _ _
 rw [e]
 cases hb:Nat.blt r X.n
 ·rw [hb] at h; cases h
 ·rw [hb] at h
  have h:Tr.get none (path 3 r) X.t=some R:=h
  rw [h]; rfl
theorem XS.row_get {X:XS} {r:Nat} {R:SRow} (h:X.row r=some R):X.den[r]?=some (some R.den):=RowT.get (X.row_rt h)
theorem XS.row_lt {X:XS} {r:Nat} {R:SRow} (h:X.row r=some R):r<X.n:=RowT.row_lt (X.row_rt h)
noncomputable def XS.push (X:XS) (x:Option SRow):XS:=⟨Nat.succ X.n,Tr.set x (path 3 X.n) X.t⟩
noncomputable def XS.set (X:XS) (r:Nat) (x:Option SRow):XS:=⟨X.n,Tr.set x (path 3 r) X.t⟩
theorem XS.length (X:XS):X.den.length=X.n:=RowT.length _
theorem XS.push_den {X:XS} (hn:X.n<512) (x:Option SRow):(X.push x).den=X.den ++ [denR x]:=by
 have:=RowT.push_L (S:=X.rt) hn (denR x)
 have e:(X.push x).den=(X.rt.push (denR x)).L:=by
  unfold XS.den RowT.L
  show List.map (fun r'=>Tr.get none (path 3 r') ((Tr.set x (path 3 X.n) X.t).map denR)) (List.range (Nat.succ X.n))=List.map (fun r'=>Tr.get none (path 3 r') (Tr.set (denR x) (path 3 X.n) (X.t.map denR))) (List.range (Nat.succ X.n))
  rw [Tr.set_map]
 rw [e,this]; rfl
theorem XS.set_den {X:XS} (hn:X.n≤512) {r:Nat} (hr:r<X.n) (x:Option SRow):(X.set r x).den=X.den.set r (denR x):=by
 have:=RowT.set_L (S:=X.rt) hn hr (denR x)
 have e:(X.set r x).den=(X.rt.set r (denR x)).L:=by
  unfold XS.den RowT.L
  show List.map (fun r'=>Tr.get none (path 3 r') ((Tr.set x (path 3 r) X.t).map denR)) (List.range X.n)=List.map (fun r'=>Tr.get none (path 3 r') (Tr.set (denR x) (path 3 r) (X.t.map denR))) (List.range X.n)
  rw [Tr.set_map]
 rw [e,this]; rfl
end Go.Lg

namespace Go.Lg
open Go.RowKit
variable {P:Program}

abbrev KS:=SV→XS→Prop
def rngP (K:IntKind) (z:Int):Prop:=match K with
 | .i64=>-9223372036854775808≤z∧z≤9223372036854775807
 | K=>K.min≤z∧z≤K.max
theorem rngP_spec {K:IntKind} {z:Int} (h:rngP K z):inR K z:=by
 unfold rngP at h
 unfold inR
 split at h
 ·simp only [IntKind.min,IntKind.max,IntKind.signed,IntKind.bits]; simpa using h
 ·exact h
def ifP (b:Bool) (x:Prop):Prop:=match b with
 | true=>x
 | false=>False
theorem ifP_spec {b:Bool} {x:Prop} (h:ifP b x):b=true∧x:=by cases b <;> first | exact h.elim | exact ⟨rfl,h⟩

def SV.one:SV→Bool
 | .val v=>v.oneCell'
 | .int .. | .dec .. | .bool _ | .ptr .. | .ptd .. | .sl .. | .sub .. | .lst .. | .ipt _ | .ipd .. | .clo .. | .yld _ | .mp _ | .ifc ..=>true
 | _=>false
theorem one_den {v:SV} (h:v.one=true):v.den.one=true:=by
 cases v with
 | val v=>simpa [SV.one,SV.den,AV.one] using h
 | any=>cases h
 | agg c=>cases h
 | tup c=>cases h
 | _=>rfl
def SV.ok (x:SV):Bool:=match x with
 | .agg c=>allL SV.one c
 | x=>x.one
theorem ok_den {v:SV} (h:v.ok=true):v.den.ok=true:=by
 cases v with
 | agg c =>
  simp only [SV.ok] at h
  simp only [SV.den,AV.ok,denL_eq,List.all_map,List.all_eq_true]
  intro x hx
  exact one_den (allL_spec h x hx)
 | _=>exact one_den (by simpa [SV.ok] using h)
def ofS:Value→SV
 | .int k z=>.int k z
 | .bool b=>.bool b
 | .agg cs=>.agg (cs.toList.map fun v=>match v with
  | .int k z=>.int k z
  | .bool b=>.bool b
  | v=>.val v)
 | v=>.val v
theorem ofS_den (v:Value):(ofS v).den=ofV v:=by
 cases v with
 | agg cs =>
  simp only [ofS,SV.den,ofV,denL_eq,List.map_map]
  congr 1
  apply List.map_congr_left
  intro x _
  simp only [Function.comp]
  cases x <;> rfl
 | _=>rfl
def zeroS (P:Program) (t:TypeId):Option SV:=((P.info? t).bind (·.zero)).map ofS
theorem zeroS_spec {t:TypeId} {z:SV} (h:zeroS P t=some z):zeroA P t=some z.den:=by
 unfold zeroS at h
 unfold zeroA
 cases hz:(P.info? t).bind (·.zero) with
 | none=>simp [hz] at h
 | some v=>simp only [hz,Option.map_some,Option.some.injEq] at h ⊢; rw [← h,ofS_den]

noncomputable def nthS (l:List SV) (i:Nat) (k:SV→Prop):Prop :=
 List.rec (motive:=fun _=>Nat→Prop) (fun _=>False) (fun x _ ih i=>Nat.rec (motive:=fun _=>Prop) (k x) (fun m _=>ih m) i) l i
theorem nthS_spec {k:SV→Prop}:∀ {l:List SV} {i:Nat},nthS l i k→∃ e,l[i]?=some e∧k e
 | [],i,h=>h.elim
 | x :: l,0,h=>⟨x,rfl,h⟩
 | x :: l,i+1,h=>by
  obtain ⟨e,h1,h2⟩:=nthS_spec (l:=l) (i:=i) h
  exact ⟨e,by simpa using h1,h2⟩
noncomputable def dropS (l:List SV) (j:Nat):List SV :=
 Nat.rec (motive:=fun _=>List SV→List SV) (fun l=>l) (fun _ ih l=>List.rec (motive:=fun _=>List SV) [] (fun _ xs _=>ih xs) l) j l
theorem dropS_eq:∀ (j:Nat) (l:List SV),dropS l j=l.drop j
 | 0,l=>rfl
 | j+1,[]=>rfl
 | j+1,x :: l=>dropS_eq j l
noncomputable def takeS (n:Nat) (l:List SV) (k:List SV→Prop):Prop :=
 Nat.rec (motive:=fun _=>List SV→(List SV→Prop)→Prop) (fun _ k=>k []) (fun _ ih l k=>List.rec (motive:=fun _=>Prop) False (fun x xs _=>ih xs fun c=>k (x :: c)) l) n l k
theorem takeS_spec:∀ {n:Nat} {l:List SV} {k:List SV→Prop},takeS n l k→n≤l.length∧k (l.take n)
 | 0,l,k,h=>⟨Nat.zero_le _,h⟩
 | n+1,[],k,h=>h.elim
 | n+1,x :: l,k,h=>by
  obtain ⟨h1,h2⟩:=takeS_spec (n:=n) (l:=l) (k:=fun c=>k (x :: c)) h
  exact ⟨by simpa using h1,h2⟩
noncomputable def overS (cs:List SV) (j:Nat) (xs:List SV) (k:List SV→Prop):Prop :=
 Nat.rec (motive:=fun _=>List SV→(List SV→Prop)→Prop) (fun cs k=>k (xs ++ dropS cs xs.length))
  (fun _ ih cs k=>List.rec (motive:=fun _=>Prop) False (fun c cs _=>ih cs fun l=>k (c :: l)) cs) j cs k
theorem overS_spec {xs:List SV}:∀ {j:Nat} {cs:List SV} {k:List SV→Prop},overS cs j xs k→k (cs.take j ++ xs ++ cs.drop (j+xs.length))
 | 0,cs,k,h=>by
  have h:k (xs ++ dropS cs xs.length):=h
  rw [dropS_eq] at h; simpa using h
 | j+1,[],k,h=>h.elim
 | j+1,c :: cs,k,h=>by
  have:=overS_spec (j:=j) (cs:=cs) (k:=fun l=>k (c :: l)) h
  rw [show j+1+xs.length=j+xs.length+1 by omega]; simpa using this
theorem denL_drop (l:List SV) (j:Nat):SV.denL (l.drop j)=(SV.denL l).drop j:=by rw [denL_eq,denL_eq,List.map_drop]
theorem denL_take (l:List SV) (j:Nat):SV.denL (l.take j)=(SV.denL l).take j:=by rw [denL_eq,denL_eq,List.map_take]
theorem denL_append (l m:List SV):SV.denL (l ++ m)=SV.denL l ++ SV.denL m:=by rw [denL_eq,denL_eq,denL_eq,List.map_append]
theorem denL_get {l:List SV} {i:Nat} {e:SV} (h:l[i]?=some e):(SV.denL l)[i]?=some e.den:=by rw [denL_eq,List.getElem?_map,h]; rfl

noncomputable def selOK0:SV→SV→Bool
 | .int k _,.int k' _=>kindEq k k'
 | .dec ..,.dec ..=>true
 | .dec ..,.bool _=>true
 | .bool _,.dec ..=>true
 | .bool _,.bool _=>true
 | _,_=>false
noncomputable def selOKZ:List SV→List SV→Bool
 | [],[]=>true
 | x :: xs,y :: ys=>selOK0 x y && selOKZ xs ys
 | _,_=>false
noncomputable def sel0 (p:Prop) (i:Decidable p):SV→SV→SV
 | .int k z,.int _ z'=>.int k (@ite _ p i z z')
 | .dec a ia,.dec b ib=>.dec ((p∧a)∨(¬ p∧b)) inferInstance
 | .dec a ia,.bool b=>.dec ((p∧a)∨(¬ p∧b=true)) inferInstance
 | .bool a,.dec b ib=>.dec ((p∧a=true)∨(¬ p∧b)) inferInstance
 | .bool a,.bool b=>.dec ((p∧a=true)∨(¬ p∧b=true)) inferInstance
 | _,_=>.any
noncomputable def selZ (p:Prop) (i:Decidable p):List SV→List SV→List SV
 | x :: xs,y :: ys=>sel0 p i x y :: selZ p i xs ys
 | _,_=>[]
theorem sel0_den (p:Prop) (i:Decidable p) (x y:SV) (h:selOK0 x y=true):(sel0 p i x y).den=if p then x.den else y.den:=by
 cases x <;> cases y <;> first | (simp [selOK0] at h; done) | skip
 case int.int k z k' z' =>
  have:=kindEq_spec (by simpa [selOK0] using h)
  subst this
  by_cases hp:p <;> simp [sel0,SV.den,hp]
 all_goals by_cases hp:p <;> simp [sel0,SV.den,hp]
theorem selZ_den (p:Prop) (i:Decidable p):∀ (x y:List SV),selOKZ x y=true→SV.denL (selZ p i x y)=if p then SV.denL x else SV.denL y
 | [],[],_=>by simp [selZ,SV.denL]
 | x :: xs,y :: ys,h=>by
  simp only [selOKZ,Bool.and_eq_true] at h
  have h1:=sel0_den p i x y h.1
  have h2:=selZ_den p i xs ys h.2
  simp only [selZ,SV.denL,h1,h2]
  by_cases hp:p <;> simp [hp]
 | [],_ :: _,h=>by simp [selOKZ] at h
 | _ :: _,[],h=>by simp [selOKZ] at h
mutual
noncomputable def selOK:SV→SV→Bool
 | .int k _,.int k' _=>kindEq k k'
 | .dec ..,.dec ..=>true
 | .dec ..,.bool _=>true
 | .bool _,.dec ..=>true
 | .bool _,.bool _=>true
 | .agg c,.agg c'=>selOKL c c'
 | .ipt c,.ipt c'=>selOKZ c c'
 | .clo (.func g) [] b,.clo (.func g') [] b'=>Nat.beq g g' && selOKL b b'
 | _,_=>false
noncomputable def selOKL:List SV→List SV→Bool
 | [],[]=>true
 | x :: xs,y :: ys=>selOK x y && selOKL xs ys
 | _,_=>false
end
mutual
noncomputable def sel (p:Prop) (i:Decidable p):SV→SV→SV
 | .int k z,.int _ z'=>.int k (@ite _ p i z z')
 | .dec a ia,.dec b ib=>.dec ((p∧a)∨(¬ p∧b)) inferInstance
 | .dec a ia,.bool b=>.dec ((p∧a)∨(¬ p∧b=true)) inferInstance
 | .bool a,.dec b ib=>.dec ((p∧a=true)∨(¬ p∧b)) inferInstance
 | .bool a,.bool b=>.dec ((p∧a=true)∨(¬ p∧b=true)) inferInstance
 | .agg c,.agg c'=>.agg (selL p i c c')
 | .ipt c,.ipt c'=>.ipt (selZ p i c c')
 | .clo (.func g) [] b,.clo (.func _) [] b'=>.clo (.func g) [] (selL p i b b')
 | _,_=>.any
noncomputable def selL (p:Prop) (i:Decidable p):List SV→List SV→List SV
 | x :: xs,y :: ys=>sel p i x y :: selL p i xs ys
 | _,_=>[]
end
mutual
theorem sel_den (p:Prop) (i:Decidable p):∀ (x y:SV),selOK x y=true→(sel p i x y).den=if p then x.den else y.den
 | .int k z,.int k' z',h=>by
  have:=kindEq_spec (by simpa [selOK] using h)
  subst this
  by_cases hp:p <;> simp [sel,SV.den,hp]
 | .dec a ia,.dec b ib,_=>by by_cases hp:p <;> simp [sel,SV.den,hp]
 | .dec a ia,.bool b,_=>by by_cases hp:p <;> simp [sel,SV.den,hp]
 | .bool a,.dec b ib,_=>by by_cases hp:p <;> simp [sel,SV.den,hp]
 | .bool a,.bool b,_=>by by_cases hp:p <;> simp [sel,SV.den,hp]
 | .agg c,.agg c',h=>by
  have:=selL_den p i c c' (by simpa [selOK] using h)
  simp only [sel,SV.den,this]
  by_cases hp:p <;> simp [hp]
 | .ipt c,.ipt c',h=>by
  have:=selZ_den p i c c' (by simpa [selOK] using h)
  simp only [sel,SV.den,this]
  by_cases hp:p <;> simp [hp]
 | .clo (.func g) [] b,.clo (.func g') [] b',h=>by
  simp only [selOK,Bool.and_eq_true] at h
  have:=selL_den p i b b' h.2
  obtain rfl:=Nat.eq_of_beq_eq_true h.1
  simp only [sel,SV.den,this]
  by_cases hp:p <;> simp [hp]
 | .any,_,h=>by simp [selOK] at h
 | .val _,_,h=>by simp [selOK] at h
 | .ptr ..,_,h=>by simp [selOK] at h
 | .sl ..,_,h=>by simp [selOK] at h
 | .sub ..,_,h=>by simp [selOK] at h
 | .lst ..,_,h=>by simp [selOK] at h
 | .ptd ..,_,h=>by simp [selOK] at h
 | .ipd ..,_,h=>by simp [selOK] at h
 | .tup _,_,h=>by simp [selOK] at h
 | .clo (.func _) (_ :: _) _,_,h=>by simp [selOK] at h
 | .clo (.method ..) _ _,_,h=>by simp [selOK] at h
 | .clo (.methodOf ..) _ _,_,h=>by simp [selOK] at h
 | .clo (.func _) [] _,.clo (.func _) (_ :: _) _,h=>by simp [selOK] at h
 | .clo (.func _) [] _,.clo (.method ..) _ _,h=>by simp [selOK] at h
 | .clo (.func _) [] _,.clo (.methodOf ..) _ _,h=>by simp [selOK] at h
 | .ipt _,.any,h | .ipt _,.ptd ..,h | .ipt _,.ipd ..,h | .ipt _,.int ..,h | .ipt _,.dec ..,h | .ipt _,.bool _,h | .ipt _,.val _,h | .ipt _,.ptr ..,h | .ipt _,.sl ..,h | .ipt _,.sub ..,h | .ipt _,.lst ..,h | .ipt _,.agg _,h | .ipt _,.tup _,h | .ipt _,.clo ..,h | .ipt _,.yld _,h | .ipt _,.mp _,h | .ipt _,.ifc ..,h=>by simp [selOK] at h
 | .clo (.func _) [] _,.any,h | .clo (.func _) [] _,.ptd ..,h | .clo (.func _) [] _,.ipd ..,h | .clo (.func _) [] _,.int ..,h | .clo (.func _) [] _,.dec ..,h | .clo (.func _) [] _,.bool _,h | .clo (.func _) [] _,.val _,h | .clo (.func _) [] _,.ptr ..,h | .clo (.func _) [] _,.sl ..,h | .clo (.func _) [] _,.sub ..,h | .clo (.func _) [] _,.lst ..,h | .clo (.func _) [] _,.agg _,h | .clo (.func _) [] _,.tup _,h | .clo (.func _) [] _,.ipt ..,h | .clo (.func _) [] _,.yld _,h | .clo (.func _) [] _,.mp _,h | .clo (.func _) [] _,.ifc ..,h=>by simp [selOK] at h
 | .yld _,_,h=>by simp [selOK] at h
 | .mp _,_,h=>by simp [selOK] at h
 | .ifc ..,_,h=>by simp [selOK] at h
 | .int ..,.any,h | .int ..,.ptd ..,h | .int ..,.ipd ..,h | .int ..,.dec ..,h | .int ..,.bool _,h | .int ..,.val _,h | .int ..,.ptr ..,h | .int ..,.sl ..,h | .int ..,.sub ..,h | .int ..,.lst ..,h | .int ..,.ipt _,h | .int ..,.agg _,h | .int ..,.tup _,h | .int ..,.clo ..,h | .int ..,.yld _,h | .int ..,.mp _,h | .int ..,.ifc ..,h=>by simp [selOK] at h
 | .dec ..,.any,h | .dec ..,.ptd ..,h | .dec ..,.ipd ..,h | .dec ..,.int ..,h | .dec ..,.val _,h | .dec ..,.ptr ..,h | .dec ..,.sl ..,h | .dec ..,.sub ..,h | .dec ..,.lst ..,h | .dec ..,.ipt _,h | .dec ..,.agg _,h | .dec ..,.tup _,h | .dec ..,.clo ..,h | .dec ..,.yld _,h | .dec ..,.mp _,h | .dec ..,.ifc ..,h=>by simp [selOK] at h
 | .bool _,.any,h | .bool _,.ptd ..,h | .bool _,.ipd ..,h | .bool _,.int ..,h | .bool _,.val _,h | .bool _,.ptr ..,h | .bool _,.sl ..,h | .bool _,.sub ..,h | .bool _,.lst ..,h | .bool _,.ipt _,h | .bool _,.agg _,h | .bool _,.tup _,h | .bool _,.clo ..,h | .bool _,.yld _,h | .bool _,.mp _,h | .bool _,.ifc ..,h=>by simp [selOK] at h
 | .agg _,.any,h | .agg _,.ptd ..,h | .agg _,.ipd ..,h | .agg _,.int ..,h | .agg _,.dec ..,h | .agg _,.bool _,h | .agg _,.val _,h | .agg _,.ptr ..,h | .agg _,.sl ..,h | .agg _,.sub ..,h | .agg _,.lst ..,h | .agg _,.ipt _,h | .agg _,.tup _,h | .agg _,.clo ..,h | .agg _,.yld _,h | .agg _,.mp _,h | .agg _,.ifc ..,h=>by simp [selOK] at h
theorem selL_den (p:Prop) (i:Decidable p):∀ (x y:List SV),selOKL x y=true→SV.denL (selL p i x y)=if p then SV.denL x else SV.denL y
 | [],[],_=>by simp [selL,SV.denL]
 | x :: xs,y :: ys,h=>by
  simp only [selOKL,Bool.and_eq_true] at h
  have h1:=sel_den p i x y h.1
  have h2:=selL_den p i xs ys h.2
  simp only [selL,SV.denL,h1,h2]
  by_cases hp:p <;> simp [hp]
 | [],_ :: _,h=>by simp [selOKL] at h
 | _ :: _,[],h=>by simp [selOKL] at h
end
end Go.Lg
