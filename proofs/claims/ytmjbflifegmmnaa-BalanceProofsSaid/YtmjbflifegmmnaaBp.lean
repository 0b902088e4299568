import Derived.ProofKit
import Derived.Carry
import Derived.Test.YtmjbflifegmmnaaBcBcVBdBeBf
import Derived.Test.YtmjbflifegmmnaaLwLv
set_option linter.unusedVariables false
set_option linter.unusedSimpArgs false
set_option maxRecDepth 100000
namespace Go.Proofs.Ytmjbflifegmmnaa
open Go.Lg Go.ChangeShapes Go.WideShapes Go.ChangeAt Go.RowKit
attribute [local irreducible] bodyH
variable {H:Type} {enc:TypeId × Value→H} {w:World}
theorem read_ints {P:Program} {t:TypeId} {fs:Array Field} {n:Nat} {cs:List Value} {y:DataW H × List MemPlace} (hu:P.underlying t=some (.struct fs))
  (hf:∀ (i:Nat) (f:Field),fs[i]?=some f→P.underlying f.type=some (.int .i64)∧f.offset=i∧P.cellsOf f.type=1) (hc:P.cellsOf t=fs.size)
  (h:DataW.trod enc P w 0 (fun _=>true) true n t cs=some y) :
  cs.length=fs.size∧∀ i,i<fs.size→∃ z,cs[i]?=some (.int .i64 z):=by
 obtain ⟨xs,k,_,_,hlen,hxs,hel⟩:=DataW.trod_struct hu h
 rw [hc] at hlen
 refine ⟨hlen,fun i hi=>?_⟩
 have hfi:fs[i]?=some fs[i]:=Array.getElem?_eq_getElem hi
 obtain ⟨h1,h2,h3⟩:=hf i _ hfi
 have h4:=hel i _ hfi
 rw [h2,h3] at h4
 have hx:xs[i]?=some (xs[i]'(by omega)):=List.getElem?_eq_getElem (by omega)
 rw [hx] at h4
 obtain ⟨z,h5,_,h6⟩:=DataW.trod_int h1 h4
 refine ⟨z,?_⟩
 have:=congrArg (fun l=>l[0]?) h5
 simpa [List.getElem?_take,List.getElem?_drop] using this
theorem read_two {n:Nat} {cs:List Value} {y:DataW H × List MemPlace} (h:DataW.trod enc Try.prog w 0 (fun _=>true) true n 45 cs=some y) :
  ∃ a b:Int,cs=[.int .i64 a,.int .i64 b]:=by
 obtain ⟨hl,hi⟩:=read_ints Try.underlying45 (by
  intro i e he
  match i,he with
  | 0,he=>simp at he; subst he; exact ⟨Try.underlying3,rfl,by kernel_rfl⟩
  | 1,he=>simp at he; subst he; exact ⟨Try.underlying3,rfl,by kernel_rfl⟩
  | i+2,he=>simp at he) (by kernel_rfl) h
 obtain ⟨a,ha⟩:=hi 0 (by simp)
 obtain ⟨b,hb⟩:=hi 1 (by simp)
 refine ⟨a,b,?_⟩
 match cs,hl,ha,hb with
 | [x,y],_,ha,hb=>simp at ha hb; subst ha hb; rfl
structure M4 where
 a:Int
 b:Int
 c:Int
 d:Int
def M4.cs (m:M4):List Value:=[.int .i64 m.a,.int .i64 m.b,.int .i64 m.c,.int .i64 m.d]
def M4.av (m:M4):AV:=.agg [.sc (.int .i64 m.a),.sc (.int .i64 m.b),.sc (.int .i64 m.c),.sc (.int .i64 m.d)]
theorem int_fld {n:Nat} {c:Value} {x:DataW H × List MemPlace} (h:DataW.trod enc Try.prog w 0 (fun _=>true) true n 3 [c]=some x):∃ z,c=.int .i64 z:=by
 obtain ⟨z,h5,_,_⟩:=DataW.trod_int Try.underlying3 h
 exact ⟨z,by simpa using h5⟩
theorem cells3:Try.prog.cellsOf 3=1:=by kernel_rfl
theorem cells45:Try.prog.cellsOf 45=2:=by kernel_rfl
theorem read_flow (n:Nat) (cs:List Value) (y:DataW H × List MemPlace) (h:DataW.trod enc Try.prog w 0 (fun _=>true) true n 47 cs=some y):∃ m:M4,cs=m.cs∧m.cs.length=4:=by
 obtain ⟨xs,k,_,_,hlen,hxs,hel⟩:=DataW.trod_struct Try.underlying47 h
 simp at hxs
 have hsz2:cs.length=4:=by rw [hlen]; kernel_rfl
 have get:∀ i,i<3→∃ x,xs[i]?=some x:=fun i hi=>⟨_,List.getElem?_eq_getElem (by omega)⟩
 match cs,hsz2 with
 | [c0,c1,c2,c3],_ =>
  have fld:∀ (i:Nat) (hi:i<3) (f:Field) {cs':List Value},xs[i]?=DataW.trod enc Try.prog w 0 (fun _=>true) true k f.type cs'→∃ y,DataW.trod enc Try.prog w 0 (fun _=>true) true k f.type cs'=some y:=fun i hi f cs' e=>by
   obtain ⟨x,hx⟩:=get i hi
   exact ⟨x,by rw [← e,hx]⟩
  obtain ⟨_,h0⟩:=fld 0 (by omega) _ (hel 0 _ rfl).symm
  obtain ⟨_,h1⟩:=fld 1 (by omega) _ (hel 1 _ rfl).symm
  obtain ⟨_,h2⟩:=fld 2 (by omega) _ (hel 2 _ rfl).symm
  replace h0:DataW.trod enc Try.prog w 0 (fun _=>true) true k 3 ([c0,c1,c2,c3].take (Try.prog.cellsOf 3))=some _:=h0
  replace h1:DataW.trod enc Try.prog w 0 (fun _=>true) true k 3 ([c1,c2,c3].take (Try.prog.cellsOf 3))=some _:=h1
  replace h2:DataW.trod enc Try.prog w 0 (fun _=>true) true k 45 ([c2,c3].take (Try.prog.cellsOf 45))=some _:=h2
  rw [cells3] at h0 h1
  rw [cells45] at h2
  obtain ⟨z0,rfl⟩:=int_fld h0
  obtain ⟨z1,rfl⟩:=int_fld h1
  obtain ⟨a,b,e2⟩:=read_two h2
  simp at e2
  obtain ⟨rfl,rfl⟩:=e2
  exact ⟨⟨z0,z1,a,b⟩,rfl,rfl⟩
def flOf (ms:List M4):Fl:=⟨ms.length,fun k=>(ms.getD k ⟨0,0,0,0⟩).a,fun k=>(ms.getD k ⟨0,0,0,0⟩).b,fun k=>(ms.getD k ⟨0,0,0,0⟩).c,fun k=>(ms.getD k ⟨0,0,0,0⟩).d⟩
theorem fl_den (ms:List M4):(flOf ms).sv.den=.isl 4 (ms.map M4.av):=by
 simp only [flOf,Fl.sv,SV.den]
 congr 1
 apply List.ext_getElem
 ·simp
 ·intro i h1 h2
  simp at h1 h2
  simp [SV.denL,SV.den,M4.av,Fl.el,h2]
theorem read_plant {base:Nat} {v:Value} {d:DataW H} {p:List MemPlace} (hv:Value.okWide Try.prog w .any base 24 v) (h:DataW.Trod enc Try.prog w 0 (fun _=>true) true 24 v d p) :
  ∃ x:Pl,Rel (cellf w) (fun b=>b<w.heap.size) 0 noβ x.sv.den v:=by
 obtain ⟨fuel,h⟩:=h
 unfold Value.okWide at hv
 rw [Try.underlying24] at hv
 obtain ⟨cs,rfl,hsz,_⟩:=hv
 obtain ⟨xs,k,_,_,hlen,hxs,hel⟩:=DataW.trod_struct Try.underlying24 h
 simp at hxs
 have hsz2:cs.size=2:=by rw [hsz]; kernel_rfl
 have c22:Try.prog.cellsOf 22=1:=by kernel_rfl
 have get:∀ i,i<2→∃ x,xs[i]?=some x:=fun i hi=>⟨_,List.getElem?_eq_getElem (by omega)⟩
 obtain ⟨L⟩:=cs
 match L,hsz2 with
 | [c0,c1],_ =>
  have fld:∀ (i:Nat) (hi:i<2) (f:Field) {cs':List Value},xs[i]?=DataW.trod enc Try.prog w 0 (fun _=>true) true k f.type cs'→∃ y,DataW.trod enc Try.prog w 0 (fun _=>true) true k f.type cs'=some y:=fun i hi f cs' e=>by
   obtain ⟨x,hx⟩:=get i hi
   exact ⟨x,by rw [← e,hx]⟩
  obtain ⟨_,h0⟩:=fld 0 (by omega) _ (hel 0 _ rfl).symm
  obtain ⟨_,h1⟩:=fld 1 (by omega) _ (hel 1 _ rfl).symm
  replace h0:DataW.trod enc Try.prog w 0 (fun _=>true) true k 3 ([c0,c1].take (Try.prog.cellsOf 3))=some _:=h0
  replace h1:DataW.trod enc Try.prog w 0 (fun _=>true) true k 22 ([c1].take (Try.prog.cellsOf 22))=some _:=h1
  rw [cells3] at h0
  rw [c22] at h1
  obtain ⟨z,rfl⟩:=int_fld h0
  obtain ⟨v1,ms,e1,r1,_,_⟩:=rel_slice M4.cs M4.av (fun m=>rfl) (show Try.prog.cellsOf 47=4 by kernel_rfl) (by omega) Try.underlying22 read_flow h1
  simp at e1
  subst e1
  refine ⟨⟨z,flOf ms⟩,?_⟩
  rw [← fl_den] at r1
  simp only [Pl.sv,SV.den,SV.denL]
  exact RelL.agg (RelL.mk (.sc _) (RelL.mk r1 RelL.mk_nil))
theorem own_:ownKnob Try.prog.godebug=none:=by kernel_rfl
theorem laid:laidOutB Try.prog=true:=by kernel_rfl
theorem read24:Try.prog.readableRec 24=true∧24<Try.prog.types.size:=⟨by kernel_rfl,of_decide_eq_true (by kernel_rfl)⟩
theorem read3:Try.prog.readableRec 3=true∧3<Try.prog.types.size:=⟨by kernel_rfl,of_decide_eq_true (by kernel_rfl)⟩
theorem read4:Try.prog.readableRec 4=true∧4<Try.prog.types.size:=⟨by kernel_rfl,of_decide_eq_true (by kernel_rfl)⟩
end Go.Proofs.Ytmjbflifegmmnaa
