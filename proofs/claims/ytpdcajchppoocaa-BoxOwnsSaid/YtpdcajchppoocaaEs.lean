import Derived.ProofKit
import Derived.Carry
import Derived.Test.YtpdcajchppoocaaC7
set_option linter.unusedVariables false
set_option linter.unusedSimpArgs false
set_option maxRecDepth 100000
namespace Go.Proofs.Ytpdcajchppoocaa
open Go.Lg Go.ChangeShapes Go.WideShapes Go.ChangeAt Go.RowKit
attribute [local irreducible] bodyH
variable {H:Type} {enc:TypeId × Value→H} {w:World}
theorem read_ints {P:Program} {t:TypeId} {fs:Array Field} {n:Nat} {cs:List Value} {y:DataW H × List MemPlace} (hu:P.underlying t=some (.struct fs))
  (hf:∀ (i:Nat) (f:Field),fs[i]?=some f→P.underlying f.type=some (.int .i64)∧f.offset=i∧P.cellsOf f.type=1) (hc:P.cellsOf t=fs.size)
  (h:DataW.trod enc P w 0 (fun _=>true) true n t cs=some y) :
  cs.length=fs.size∧∀ i,i<fs.size→∃ z,cs[i]?=some (.int .i64 z):=by
 obtain ⟨xs,k,_,_,hlen,hxs,hel⟩:=DataW.trod_struct hu h
 rw [hc] at hlen
 refine ⟨hlen,fun i hi=>?_⟩
 have hfi:fs[i]?=some fs[i]:=Array.getElem?_eq_getElem hi
 obtain ⟨h1,h2,h3⟩:=hf i _ hfi
 have h4:=hel i _ hfi
 rw [h2,h3] at h4
 have hx:xs[i]?=some (xs[i]'(by omega)):=List.getElem?_eq_getElem (by omega)
 rw [hx] at h4
 obtain ⟨z,h5,_,h6⟩:=DataW.trod_int h1 h4
 refine ⟨z,?_⟩
 have:=congrArg (fun l=>l[0]?) h5
 simpa [List.getElem?_take,List.getElem?_drop] using this
structure I2 where
 a:Int
 b:Int
def I2.cs (m:I2):List Value:=[.int .i64 m.a,.int .i64 m.b]
def I2.av (m:I2):AV:=.agg [.sc (.int .i64 m.a),.sc (.int .i64 m.b)]
structure I3 where
 a:Int
 b:Int
 c:Int
def I3.cs (m:I3):List Value:=[.int .i64 m.a,.int .i64 m.b,.int .i64 m.c]
def I3.av (m:I3):AV:=.agg [.sc (.int .i64 m.a),.sc (.int .i64 m.b),.sc (.int .i64 m.c)]
theorem read_span (n:Nat) (cs:List Value) (y:DataW H × List MemPlace) (h:DataW.trod enc Try.prog w 0 (fun _=>true) true n 59 cs=some y):∃ m:I2,cs=m.cs∧m.cs.length=2:=by
 obtain ⟨hl,hi⟩:=read_ints Try.underlying59 (by
  intro i e he
  match i,he with
  | 0,he=>simp at he; subst he; exact ⟨Try.underlying3,rfl,by kernel_rfl⟩
  | 1,he=>simp at he; subst he; exact ⟨Try.underlying3,rfl,by kernel_rfl⟩
  | i+2,he=>simp at he) (by kernel_rfl) h
 obtain ⟨a,ha⟩:=hi 0 (by simp)
 obtain ⟨b,hb⟩:=hi 1 (by simp)
 refine ⟨⟨a,b⟩,?_,rfl⟩
 match cs,hl,ha,hb with
 | [x,y],_,ha,hb=>simp at ha hb; subst ha hb; rfl
theorem read_box (n:Nat) (cs:List Value) (y:DataW H × List MemPlace) (h:DataW.trod enc Try.prog w 0 (fun _=>true) true n 43 cs=some y):∃ m:I3,cs=m.cs∧m.cs.length=3:=by
 obtain ⟨hl,hi⟩:=read_ints Try.underlying43 (by
  intro i e he
  match i,he with
  | 0,he=>simp at he; subst he; exact ⟨Try.underlying3,rfl,by kernel_rfl⟩
  | 1,he=>simp at he; subst he; exact ⟨Try.underlying3,rfl,by kernel_rfl⟩
  | 2,he=>simp at he; subst he; exact ⟨Try.underlying3,rfl,by kernel_rfl⟩
  | i+3,he=>simp at he) (by kernel_rfl) h
 obtain ⟨a,ha⟩:=hi 0 (by simp)
 obtain ⟨b,hb⟩:=hi 1 (by simp)
 obtain ⟨c,hc⟩:=hi 2 (by simp)
 refine ⟨⟨a,b,c⟩,?_,rfl⟩
 match cs,hl,ha,hb,hc with
 | [x,y,z],_,ha,hb,hc=>simp at ha hb hc; subst ha hb hc; rfl
def boC (m:Bool):List Value:=[.bool m]
def boA (m:Bool):AV:=.sc (.bool m)
theorem read_bo (n:Nat) (cs:List Value) (y:DataW H × List MemPlace) (h:DataW.trod enc Try.prog w 0 (fun _=>true) true n 4 cs=some y):∃ m:Bool,cs=boC m∧(boC m).length=1:=by
 obtain ⟨b,h5,_⟩:=DataW.trod_bool Try.underlying4 h
 exact ⟨b,h5,rfl⟩
def trOf (bs:List I3) (ls:List I2) (we rv re wo ti:Int):Tn :=
 ⟨bs.length,fun i=>(bs.getD i ⟨0,0,0⟩).a,fun i=>(bs.getD i ⟨0,0,0⟩).b,fun i=>(bs.getD i ⟨0,0,0⟩).c,we,rv,re,wo,ti,ls.length,fun i=>(ls.getD i ⟨0,0⟩).a,fun i=>(ls.getD i ⟨0,0⟩).b⟩
theorem bx_den (bs:List I3) (ls:List I2) (we rv re wo ti:Int):(bxL (trOf bs ls we rv re wo ti)).den=.isl 3 (bs.map I3.av):=by
 simp only [trOf,bxL,SV.den]
 congr 1
 apply List.ext_getElem
 ·simp
 ·intro i h1 h2
  simp at h1 h2
  simp [bxV,b6,SV.denL,SV.den,I3.av,h2]
theorem ld_den (bs:List I3) (ls:List I2) (we rv re wo ti:Int):(SV.lst 2 (trOf bs ls we rv re wo ti).nl (ldV (trOf bs ls we rv re wo ti))).den=.isl 2 (ls.map I2.av):=by
 simp only [trOf,SV.den]
 congr 1
 apply List.ext_getElem
 ·simp
 ·intro i h1 h2
  simp at h1 h2
  simp [ldV,b6,SV.denL,SV.den,I2.av,h2]
theorem tw_den (ms:List Bool):(twL ms.length fun i=>ms.getD i false).den=.isl 1 (ms.map boA):=by
 simp only [twL,SV.den]
 congr 1
 apply List.ext_getElem
 ·simp
 ·intro i h1 h2
  simp at h1 h2
  simp [boA,h2]
theorem int_fld {n:Nat} {c:Value} {x:DataW H × List MemPlace} (h:DataW.trod enc Try.prog w 0 (fun _=>true) true n 3 [c]=some x):∃ z,c=.int .i64 z:=by
 obtain ⟨z,h5,_,_⟩:=DataW.trod_int Try.underlying3 h
 exact ⟨z,by simpa using h5⟩
theorem cells3:Try.prog.cellsOf 3=1:=by kernel_rfl
theorem cells22:Try.prog.cellsOf 22=1:=by kernel_rfl
theorem cells23:Try.prog.cellsOf 23=1:=by kernel_rfl
theorem read_train {base:Nat} {v:Value} {d:DataW H} {p:List MemPlace} (hv:Value.okWide Try.prog w .any base 25 v) (h:DataW.Trod enc Try.prog w 0 (fun _=>true) true 25 v d p) :
  ∃ T:Tn,Rel (cellf w) (fun b=>b<w.heap.size) 0 noβ (tV T).den v:=by
 obtain ⟨fuel,h⟩:=h
 unfold Value.okWide at hv
 rw [Try.underlying25] at hv
 obtain ⟨cs,rfl,hsz,_⟩:=hv
 obtain ⟨xs,k,_,_,hlen,hxs,hel⟩:=DataW.trod_struct Try.underlying25 h
 simp at hxs
 have hsz2:cs.size=7:=by rw [hsz]; kernel_rfl
 have get:∀ i,i<7→∃ x,xs[i]?=some x:=fun i hi=>⟨_,List.getElem?_eq_getElem (by omega)⟩
 obtain ⟨L⟩:=cs
 match L,hsz2 with
 | [c0,c1,c2,c3,c4,c5,c6],_ =>
  have fld:∀ (i:Nat) (hi:i<7) (f:Field) {cs':List Value},xs[i]?=DataW.trod enc Try.prog w 0 (fun _=>true) true k f.type cs'→∃ y,DataW.trod enc Try.prog w 0 (fun _=>true) true k f.type cs'=some y:=fun i hi f cs' e=>by
   obtain ⟨x,hx⟩:=get i hi
   exact ⟨x,by rw [← e,hx]⟩
  obtain ⟨_,h0⟩:=fld 0 (by omega) _ (hel 0 _ rfl).symm
  obtain ⟨_,h1⟩:=fld 1 (by omega) _ (hel 1 _ rfl).symm
  obtain ⟨_,h2⟩:=fld 2 (by omega) _ (hel 2 _ rfl).symm
  obtain ⟨_,h3⟩:=fld 3 (by omega) _ (hel 3 _ rfl).symm
  obtain ⟨_,h4⟩:=fld 4 (by omega) _ (hel 4 _ rfl).symm
  obtain ⟨_,h5⟩:=fld 5 (by omega) _ (hel 5 _ rfl).symm
  obtain ⟨_,h6⟩:=fld 6 (by omega) _ (hel 6 _ rfl).symm
  replace h0:DataW.trod enc Try.prog w 0 (fun _=>true) true k 22 ([c0,c1,c2,c3,c4,c5,c6].take (Try.prog.cellsOf 22))=some _:=h0
  replace h1:DataW.trod enc Try.prog w 0 (fun _=>true) true k 3 ([c1,c2,c3,c4,c5,c6].take (Try.prog.cellsOf 3))=some _:=h1
  replace h2:DataW.trod enc Try.prog w 0 (fun _=>true) true k 3 ([c2,c3,c4,c5,c6].take (Try.prog.cellsOf 3))=some _:=h2
  replace h3:DataW.trod enc Try.prog w 0 (fun _=>true) true k 3 ([c3,c4,c5,c6].take (Try.prog.cellsOf 3))=some _:=h3
  replace h4:DataW.trod enc Try.prog w 0 (fun _=>true) true k 3 ([c4,c5,c6].take (Try.prog.cellsOf 3))=some _:=h4
  replace h5:DataW.trod enc Try.prog w 0 (fun _=>true) true k 3 ([c5,c6].take (Try.prog.cellsOf 3))=some _:=h5
  replace h6:DataW.trod enc Try.prog w 0 (fun _=>true) true k 23 ([c6].take (Try.prog.cellsOf 23))=some _:=h6
  rw [cells3] at h1 h2 h3 h4 h5
  rw [cells22] at h0
  rw [cells23] at h6
  obtain ⟨z1,rfl⟩:=int_fld h1
  obtain ⟨z2,rfl⟩:=int_fld h2
  obtain ⟨z3,rfl⟩:=int_fld h3
  obtain ⟨z4,rfl⟩:=int_fld h4
  obtain ⟨z5,rfl⟩:=int_fld h5
  obtain ⟨v0,bs,e0,r0,_,_⟩:=rel_slice I3.cs I3.av (fun m=>rfl) (show Try.prog.cellsOf 43=3 by kernel_rfl) (by omega) Try.underlying22 read_box h0
  obtain ⟨v6,ls,e6,r6,_,_⟩:=rel_slice I2.cs I2.av (fun m=>rfl) (show Try.prog.cellsOf 59=2 by kernel_rfl) (by omega) Try.underlying23 read_span h6
  simp at e0 e6
  subst e0 e6
  refine ⟨trOf bs ls z1 z2 z3 z4 z5,?_⟩
  rw [← bx_den bs ls z1 z2 z3 z4 z5] at r0
  rw [← ld_den bs ls z1 z2 z3 z4 z5] at r6
  exact RelL.agg (RelL.mk r0 (RelL.mk (.sc _) (RelL.mk (.sc _) (RelL.mk (.sc _) (RelL.mk (.sc _) (RelL.mk (.sc _) (RelL.mk r6 RelL.mk_nil)))))))
theorem read_turns {base:Nat} {v:Value} {d:DataW H} {p:List MemPlace} (hv:Value.okWide Try.prog w .any base 26 v) (h:DataW.Trod enc Try.prog w 0 (fun _=>true) true 26 v d p) :
  ∃ (n:Nat) (t:Nat→Bool),Rel (cellf w) (fun b=>b<w.heap.size) 0 noβ (twL n t).den v:=by
 obtain ⟨fuel,h⟩:=h
 have hc:v.cells.toList=[v]:=by
  unfold Value.okWide at hv
  rw [Try.underlying26] at hv
  cases v <;> first | rfl | (simp [Cell.okWide,Cell.ok,Try.underlying26] at hv)
 rw [hc] at h
 obtain ⟨v',ms,e,hr,_,_⟩:=rel_slice boC boA (fun m=>rfl) (show Try.prog.cellsOf 4=1 by kernel_rfl) (by omega) Try.underlying26 read_bo h
 cases e
 refine ⟨ms.length,fun i=>ms.getD i false,?_⟩
 rw [tw_den]
 exact hr
theorem own:ownKnob Try.prog.godebug=none:=by kernel_rfl
theorem laid:laidOutB Try.prog=true:=by kernel_rfl
theorem read25:Try.prog.readableRec 25=true∧25<Try.prog.types.size:=⟨by kernel_rfl,of_decide_eq_true (by kernel_rfl)⟩
theorem read26:Try.prog.readableRec 26=true∧26<Try.prog.types.size:=⟨by kernel_rfl,of_decide_eq_true (by kernel_rfl)⟩
end Go.Proofs.Ytpdcajchppoocaa
