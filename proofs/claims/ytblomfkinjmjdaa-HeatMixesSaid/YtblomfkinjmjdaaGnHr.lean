import Derived.ProofKit
import Derived.Carry
import Derived.Test.YtblomfkinjmjdaaGjGkGl1
import Derived.Test.YtblomfkinjmjdaaLwLv
import Derived.Test.YtblomfkinjmjdaaHhHhVHiHjHk
set_option linter.unusedVariables false
set_option linter.unusedSimpArgs false
set_option maxRecDepth 100000
namespace Go.Proofs.Ytblomfkinjmjdaa
open Go.Lg Go.ChangeShapes Go.WideShapes Go.ChangeAt Go.RowKit
attribute [local irreducible] bodyH funS
variable {H:Type} {enc:TypeId × Value→H} {w:World}
def i64P (z:Int):Prop:=-9223372036854775808≤z∧z≤9223372036854775807
structure C4 where
 t:Tst
 h:i64P t.h∧i64P t.s∧i64P t.lo∧i64P t.hi
instance:Inhabited C4:=⟨⟨⟨0,0,0,0⟩,by unfold i64P; decide⟩⟩
def C4.cs (c:C4):List Value:=[.int .i64 c.t.h,.int .i64 c.t.s,.int .i64 c.t.lo,.int .i64 c.t.hi]
def C4.av (c:C4):AV:=.agg [.sc (.int .i64 c.t.h),.sc (.int .i64 c.t.s),.sc (.int .i64 c.t.lo),.sc (.int .i64 c.t.hi)]
theorem wf_i64 {z:Int} (h:(Lit.int .i64 z).wf=true):i64P z:=by
 have h:(decide (IntKind.min .i64≤z) && decide (z≤IntKind.max .i64))=true:=h
 simp only [Bool.and_eq_true,decide_eq_true_eq] at h
 have e1:IntKind.min .i64=-9223372036854775808:=by decide
 have e2:IntKind.max .i64=9223372036854775807:=by decide
 rw [e1,e2] at h
 exact h
theorem cells3:Try.prog.cellsOf 3=1:=by kernel_rfl
theorem cells26:Try.prog.cellsOf 26=2:=by kernel_rfl
theorem int_fld {n:Nat} {c:Value} {x:DataW H × List MemPlace} (h:DataW.trod enc Try.prog w 0 (fun _=>true) true n 3 [c]=some x):∃ z,c=.int .i64 z∧i64P z:=by
 obtain ⟨z,h5,_,h6⟩:=DataW.trod_int Try.underlying3 h
 exact ⟨z,by simpa using h5,wf_i64 h6⟩
theorem spn_fld {n:Nat} {c0 c1:Value} {y:DataW H × List MemPlace} (h:DataW.trod enc Try.prog w 0 (fun _=>true) true n 26 [c0,c1]=some y):∃ a b,c0=.int .i64 a∧c1=.int .i64 b∧i64P a∧i64P b:=by
 obtain ⟨xs,k,_,_,hlen,hxs,hel⟩:=DataW.trod_struct Try.underlying26 h
 simp at hxs
 have get:∀ i,i<2→∃ x,xs[i]?=some x:=fun i hi=>⟨_,List.getElem?_eq_getElem (by omega)⟩
 have fld:∀ (i:Nat) (hi:i<2) (f:Field) {cs':List Value},xs[i]?=DataW.trod enc Try.prog w 0 (fun _=>true) true k f.type cs'→∃ y,DataW.trod enc Try.prog w 0 (fun _=>true) true k f.type cs'=some y:=fun i hi f cs' e=>by
  obtain ⟨x,hx⟩:=get i hi
  exact ⟨x,by rw [← e,hx]⟩
 obtain ⟨_,h0⟩:=fld 0 (by omega) _ (hel 0 _ rfl).symm
 obtain ⟨_,h1⟩:=fld 1 (by omega) _ (hel 1 _ rfl).symm
 replace h0:DataW.trod enc Try.prog w 0 (fun _=>true) true k 3 ([c0,c1].take (Try.prog.cellsOf 3))=some _:=h0
 replace h1:DataW.trod enc Try.prog w 0 (fun _=>true) true k 3 ([c1].take (Try.prog.cellsOf 3))=some _:=h1
 rw [cells3] at h0 h1
 obtain ⟨a,rfl,g1⟩:=int_fld h0
 obtain ⟨b,rfl,g2⟩:=int_fld h1
 exact ⟨a,b,rfl,rfl,g1,g2⟩
theorem own:ownKnob Try.prog.godebug=none:=by kernel_rfl
theorem laid:laidOutB Try.prog=true:=by kernel_rfl
theorem read3:Try.prog.readableRec 3=true∧3<Try.prog.types.size:=⟨by kernel_rfl,of_decide_eq_true (by kernel_rfl)⟩
section
variable {P:Program} {base:Nat} {spare:Nat→Bool} {held:Bool}
end
end Go.Proofs.Ytblomfkinjmjdaa

set_option maxRecDepth 100000
namespace Go.Proofs.Ytblomfkinjmjdaa
open Go.Lg Go.ChangeShapes Go.WideShapes Go.ChangeAt Go.RowKit
attribute [local irreducible] bodyH funS
variable {H:Type} {enc:TypeId × Value→H} {w:World}
structure C5 where
 t:Sup
 h:i64P t.lo∧i64P t.hi∧i64P t.v∧i64P t.mo∧i64P t.pay
instance:Inhabited C5:=⟨⟨⟨0,0,0,0,0⟩,by unfold i64P; decide⟩⟩
def C5.cs (c:C5):List Value:=[.int .i64 c.t.lo,.int .i64 c.t.hi,.int .i64 c.t.v,.int .i64 c.t.mo,.int .i64 c.t.pay]
def C5.av (c:C5):AV:=.agg [.sc (.int .i64 c.t.lo),.sc (.int .i64 c.t.hi),.sc (.int .i64 c.t.v),.sc (.int .i64 c.t.mo),.sc (.int .i64 c.t.pay)]
theorem read_sup (n:Nat) (cs:List Value) (y:DataW H × List MemPlace) (h:DataW.trod enc Try.prog w 0 (fun _=>true) true n 28 cs=some y):∃ m:C5,cs=m.cs∧m.cs.length=5:=by
 obtain ⟨xs,k,_,_,hlen,hxs,hel⟩:=DataW.trod_struct Try.underlying28 h
 simp at hxs
 have hsz2:cs.length=5:=by rw [hlen]; kernel_rfl
 have get:∀ i,i<4→∃ x,xs[i]?=some x:=fun i hi=>⟨_,List.getElem?_eq_getElem (by omega)⟩
 match cs,hsz2 with
 | [c0,c1,c2,c3,c4],_ =>
  have fld:∀ (i:Nat) (hi:i<4) (f:Field) {cs':List Value},xs[i]?=DataW.trod enc Try.prog w 0 (fun _=>true) true k f.type cs'→∃ y,DataW.trod enc Try.prog w 0 (fun _=>true) true k f.type cs'=some y:=fun i hi f cs' e=>by
   obtain ⟨x,hx⟩:=get i hi
   exact ⟨x,by rw [← e,hx]⟩
  obtain ⟨_,h0⟩:=fld 0 (by omega) _ (hel 0 _ rfl).symm
  obtain ⟨_,h1⟩:=fld 1 (by omega) _ (hel 1 _ rfl).symm
  obtain ⟨_,h2⟩:=fld 2 (by omega) _ (hel 2 _ rfl).symm
  obtain ⟨_,h3⟩:=fld 3 (by omega) _ (hel 3 _ rfl).symm
  replace h0:DataW.trod enc Try.prog w 0 (fun _=>true) true k 26 ([c0,c1,c2,c3,c4].take (Try.prog.cellsOf 26))=some _:=h0
  replace h1:DataW.trod enc Try.prog w 0 (fun _=>true) true k 3 ([c2,c3,c4].take (Try.prog.cellsOf 3))=some _:=h1
  replace h2:DataW.trod enc Try.prog w 0 (fun _=>true) true k 3 ([c3,c4].take (Try.prog.cellsOf 3))=some _:=h2
  replace h3:DataW.trod enc Try.prog w 0 (fun _=>true) true k 3 ([c4].take (Try.prog.cellsOf 3))=some _:=h3
  rw [cells3] at h1 h2 h3
  rw [cells26] at h0
  obtain ⟨z0,z1,rfl,rfl,g0,g1⟩:=spn_fld h0
  obtain ⟨z2,rfl,g2⟩:=int_fld h1
  obtain ⟨z3,rfl,g3⟩:=int_fld h2
  obtain ⟨z4,rfl,g4⟩:=int_fld h3
  exact ⟨⟨⟨z0,z1,z2,z3,z4⟩,g0,g1,g2,g3,g4⟩,rfl,rfl⟩
def slC (ms:List C5):Sl:=⟨ms.length,fun k=>(ms.getD k default).t⟩
theorem sl_den (ms:List C5):(slC ms).sv.den=.isl 5 (ms.map C5.av):=by
 simp only [slC,Sl.sv,SV.den]
 congr 1
 apply List.ext_getElem
 ·simp
 ·intro i h1 h2
  simp at h1 h2
  simp [Sup.sv,SV.denL,SV.den,C5.av,h2]
theorem read_sups {base:Nat} {v:Value} {d:DataW H} {p:List MemPlace} (hv:Value.okWide Try.prog w .any base 22 v) (h:DataW.Trod enc Try.prog w 0 (fun _=>true) true 22 v d p) :
  ∃ L:Sl,Rel (cellf w) (fun b=>b<w.heap.size) 0 noβ L.sv.den v:=by
 obtain ⟨fuel,h⟩:=h
 have hc:v.cells.toList=[v]:=by
  unfold Value.okWide at hv
  rw [Try.underlying22] at hv
  cases v <;> first | rfl | (simp [Cell.okWide,Cell.ok,Try.underlying22] at hv)
 rw [hc] at h
 obtain ⟨v',ms,e,hr,_,_⟩:=rel_slice C5.cs C5.av (fun m=>rfl) (show Try.prog.cellsOf 28=5 by kernel_rfl) (by omega) Try.underlying22 read_sup h
 cases e
 refine ⟨slC ms,?_⟩
 rw [sl_den]
 exact hr
theorem read22:Try.prog.readableRec 22=true∧22<Try.prog.types.size:=⟨by kernel_rfl,of_decide_eq_true (by kernel_rfl)⟩
section
variable {P:Program} {base:Nat} {spare:Nat→Bool} {held:Bool}
end
end Go.Proofs.Ytblomfkinjmjdaa
