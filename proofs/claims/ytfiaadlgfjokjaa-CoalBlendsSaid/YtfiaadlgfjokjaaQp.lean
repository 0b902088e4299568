import Derived.ProofKit
import Derived.Carry
import Derived.Test.YtfiaadlgfjokjaaQaQaVQb
import Derived.Test.YtfiaadlgfjokjaaLwLv
set_option linter.unusedVariables false
set_option linter.unusedSimpArgs false
set_option maxRecDepth 100000
namespace Go.Proofs.Ytfiaadlgfjokjaa
open Go.Lg Go.ChangeShapes Go.WideShapes Go.ChangeAt Go.RowKit
attribute [local irreducible] bodyH funS
variable {H:Type} {enc:TypeId × Value→H} {w:World}
theorem cells3:Try.prog.cellsOf 3=1:=by kernel_rfl
theorem cells39:Try.prog.cellsOf 39=2:=by kernel_rfl
theorem cells22:Try.prog.cellsOf 22=1:=by kernel_rfl
theorem cells23:Try.prog.cellsOf 23=1:=by kernel_rfl
theorem int_fld {n:Nat} {c:Value} {x:DataW H × List MemPlace} (h:DataW.trod enc Try.prog w 0 (fun _=>true) true n 3 [c]=some x):∃ z,c=.int .i64 z:=by
 obtain ⟨z,h5,_,h6⟩:=DataW.trod_int Try.underlying3 h
 exact ⟨z,by simpa using h5⟩
theorem spn_fld {n:Nat} {c0 c1:Value} {y:DataW H × List MemPlace} (h:DataW.trod enc Try.prog w 0 (fun _=>true) true n 39 [c0,c1]=some y):∃ a b,c0=.int .i64 a∧c1=.int .i64 b:=by
 obtain ⟨xs,k,_,_,hlen,hxs,hel⟩:=DataW.trod_struct Try.underlying39 h
 simp at hxs
 have get:∀ i,i<2→∃ x,xs[i]?=some x:=fun i hi=>⟨_,List.getElem?_eq_getElem (by omega)⟩
 have fld:∀ (i:Nat) (hi:i<2) (f:Field) {cs':List Value},xs[i]?=DataW.trod enc Try.prog w 0 (fun _=>true) true k f.type cs'→∃ y,DataW.trod enc Try.prog w 0 (fun _=>true) true k f.type cs'=some y:=fun i hi f cs' e=>by
  obtain ⟨x,hx⟩:=get i hi
  exact ⟨x,by rw [← e,hx]⟩
 obtain ⟨_,h0⟩:=fld 0 (by omega) _ (hel 0 _ rfl).symm
 obtain ⟨_,h1⟩:=fld 1 (by omega) _ (hel 1 _ rfl).symm
 replace h0:DataW.trod enc Try.prog w 0 (fun _=>true) true k 3 ([c0,c1].take (Try.prog.cellsOf 3))=some _:=h0
 replace h1:DataW.trod enc Try.prog w 0 (fun _=>true) true k 3 ([c1].take (Try.prog.cellsOf 3))=some _:=h1
 rw [cells3] at h0 h1
 obtain ⟨a,rfl⟩:=int_fld h0
 obtain ⟨b,rfl⟩:=int_fld h1
 exact ⟨a,b,rfl,rfl⟩
def Co.cs (c:Co):List Value:=[.int .i64 c.g0,.int .i64 c.g1,.int .i64 c.t0,.int .i64 c.t1,.int .i64 c.s0,.int .i64 c.s1,.int .i64 c.k0,.int .i64 c.k1]
def Co.av (c:Co):AV:=.agg [.sc (.int .i64 c.g0),.sc (.int .i64 c.g1),.sc (.int .i64 c.t0),.sc (.int .i64 c.t1),.sc (.int .i64 c.s0),.sc (.int .i64 c.s1),.sc (.int .i64 c.k0),.sc (.int .i64 c.k1)]
theorem read_co (n:Nat) (cs:List Value) (y:DataW H × List MemPlace) (h:DataW.trod enc Try.prog w 0 (fun _=>true) true n 57 cs=some y):∃ m:Co,cs=m.cs∧m.cs.length=8:=by
 obtain ⟨xs,k,_,_,hlen,hxs,hel⟩:=DataW.trod_struct Try.underlying57 h
 simp at hxs
 have hsz2:cs.length=8:=by rw [hlen]; kernel_rfl
 have get:∀ i,i<4→∃ x,xs[i]?=some x:=fun i hi=>⟨_,List.getElem?_eq_getElem (by omega)⟩
 match cs,hsz2 with
 | [c0,c1,c2,c3,c4,c5,c6,c7],_ =>
  have fld:∀ (i:Nat) (hi:i<4) (f:Field) {cs':List Value},xs[i]?=DataW.trod enc Try.prog w 0 (fun _=>true) true k f.type cs'→∃ y,DataW.trod enc Try.prog w 0 (fun _=>true) true k f.type cs'=some y:=fun i hi f cs' e=>by
   obtain ⟨x,hx⟩:=get i hi
   exact ⟨x,by rw [← e,hx]⟩
  obtain ⟨_,h0⟩:=fld 0 (by omega) _ (hel 0 _ rfl).symm
  obtain ⟨_,h1⟩:=fld 1 (by omega) _ (hel 1 _ rfl).symm
  obtain ⟨_,h2⟩:=fld 2 (by omega) _ (hel 2 _ rfl).symm
  obtain ⟨_,h3⟩:=fld 3 (by omega) _ (hel 3 _ rfl).symm
  replace h0:DataW.trod enc Try.prog w 0 (fun _=>true) true k 39 ([c0,c1,c2,c3,c4,c5,c6,c7].take (Try.prog.cellsOf 39))=some _:=h0
  replace h1:DataW.trod enc Try.prog w 0 (fun _=>true) true k 39 ([c2,c3,c4,c5,c6,c7].take (Try.prog.cellsOf 39))=some _:=h1
  replace h2:DataW.trod enc Try.prog w 0 (fun _=>true) true k 39 ([c4,c5,c6,c7].take (Try.prog.cellsOf 39))=some _:=h2
  replace h3:DataW.trod enc Try.prog w 0 (fun _=>true) true k 39 ([c6,c7].take (Try.prog.cellsOf 39))=some _:=h3
  rw [cells39] at h0 h1 h2 h3
  obtain ⟨z0,z1,rfl,rfl⟩:=spn_fld h0
  obtain ⟨z2,z3,rfl,rfl⟩:=spn_fld h1
  obtain ⟨z4,z5,rfl,rfl⟩:=spn_fld h2
  obtain ⟨z6,z7,rfl,rfl⟩:=spn_fld h3
  exact ⟨⟨z0,z1,z2,z3,z4,z5,z6,z7⟩,rfl,rfl⟩
def coF (ms:List Co) (i:Nat):Co:=match ms[i]? with
 | some m=>m
 | none=>⟨0,0,0,0,0,0,0,0⟩
theorem co_den (ms:List Co):(Cl.sv ⟨ms.length,coF ms⟩).den=.isl 8 (ms.map Co.av):=by
 simp only [Cl.sv,SV.den]
 congr 1
 apply List.ext_getElem
 ·simp
 ·intro i h1 h2
  simp at h1 h2
  simp [coF,Co.sv,SV.denL,SV.den,Co.av,h2]
def Mv.cs (c:Mv):List Value:=[.int .i64 c.hr,.int .i64 c.co,.int .i64 c.tn]
def Mv.av (c:Mv):AV:=.agg [.sc (.int .i64 c.hr),.sc (.int .i64 c.co),.sc (.int .i64 c.tn)]
theorem read_mv (n:Nat) (cs:List Value) (y:DataW H × List MemPlace) (h:DataW.trod enc Try.prog w 0 (fun _=>true) true n 63 cs=some y):∃ m:Mv,cs=m.cs∧m.cs.length=3:=by
 obtain ⟨xs,k,_,_,hlen,hxs,hel⟩:=DataW.trod_struct Try.underlying63 h
 simp at hxs
 have hsz2:cs.length=3:=by rw [hlen]; kernel_rfl
 have get:∀ i,i<3→∃ x,xs[i]?=some x:=fun i hi=>⟨_,List.getElem?_eq_getElem (by omega)⟩
 match cs,hsz2 with
 | [c0,c1,c2],_ =>
  have fld:∀ (i:Nat) (hi:i<3) (f:Field) {cs':List Value},xs[i]?=DataW.trod enc Try.prog w 0 (fun _=>true) true k f.type cs'→∃ y,DataW.trod enc Try.prog w 0 (fun _=>true) true k f.type cs'=some y:=fun i hi f cs' e=>by
   obtain ⟨x,hx⟩:=get i hi
   exact ⟨x,by rw [← e,hx]⟩
  obtain ⟨_,h0⟩:=fld 0 (by omega) _ (hel 0 _ rfl).symm
  obtain ⟨_,h1⟩:=fld 1 (by omega) _ (hel 1 _ rfl).symm
  obtain ⟨_,h2⟩:=fld 2 (by omega) _ (hel 2 _ rfl).symm
  replace h0:DataW.trod enc Try.prog w 0 (fun _=>true) true k 3 ([c0,c1,c2].take (Try.prog.cellsOf 3))=some _:=h0
  replace h1:DataW.trod enc Try.prog w 0 (fun _=>true) true k 3 ([c1,c2].take (Try.prog.cellsOf 3))=some _:=h1
  replace h2:DataW.trod enc Try.prog w 0 (fun _=>true) true k 3 ([c2].take (Try.prog.cellsOf 3))=some _:=h2
  rw [cells3] at h0 h1 h2
  obtain ⟨z0,rfl⟩:=int_fld h0
  obtain ⟨z1,rfl⟩:=int_fld h1
  obtain ⟨z2,rfl⟩:=int_fld h2
  exact ⟨⟨z0,z1,z2⟩,rfl,rfl⟩
def mvF (ms:List Mv) (i:Nat):Mv:=match ms[i]? with
 | some m=>m
 | none=>⟨0,0,0⟩
theorem mv_den (ms:List Mv):(Ms.sv ⟨ms.length,mvF ms⟩).den=.isl 3 (ms.map Mv.av):=by
 simp only [Ms.sv,SV.den]
 congr 1
 apply List.ext_getElem
 ·simp
 ·intro i h1 h2
  simp at h1 h2
  simp [mvF,Mv.sv,SV.denL,SV.den,Mv.av,h2]
theorem read_cos {fuel:Nat} {cs:List Value} {y:DataW H × List MemPlace} (h:DataW.trod enc Try.prog w 0 (fun _=>true) true fuel 22 cs=some y):∃ (v:Value) (C:Cl),cs=[v]∧Rel (cellf w) (fun b=>b<w.heap.size) 0 noβ C.sv.den v:=by
 obtain ⟨v',ms,e,hr,_,_⟩:=rel_slice Co.cs Co.av (fun m=>rfl) (show Try.prog.cellsOf 57=8 by kernel_rfl) (by omega) Try.underlying22 read_co h
 exact ⟨v',⟨ms.length,coF ms⟩,e,by rw [co_den]; exact hr⟩
theorem read_mvs {fuel:Nat} {cs:List Value} {y:DataW H × List MemPlace} (h:DataW.trod enc Try.prog w 0 (fun _=>true) true fuel 23 cs=some y):∃ (v:Value) (M:Ms),cs=[v]∧Rel (cellf w) (fun b=>b<w.heap.size) 0 noβ M.sv.den v:=by
 obtain ⟨v',ms,e,hr,_,_⟩:=rel_slice Mv.cs Mv.av (fun m=>rfl) (show Try.prog.cellsOf 63=3 by kernel_rfl) (by omega) Try.underlying23 read_mv h
 exact ⟨v',⟨ms.length,mvF ms⟩,e,by rw [mv_den]; exact hr⟩
theorem read_yd {base:Nat} {v:Value} {d:DataW H} {p:List MemPlace} (hv:Value.okWide Try.prog w .any base 25 v) (h:DataW.Trod enc Try.prog w 0 (fun _=>true) true 25 v d p) :
  ∃ Y:Yd,Rel (cellf w) (fun b=>b<w.heap.size) 0 noβ Y.sv.den v:=by
 obtain ⟨fuel,h⟩:=h
 unfold Value.okWide at hv
 rw [Try.underlying25] at hv
 obtain ⟨cs,rfl,hsz,_⟩:=hv
 obtain ⟨xs,k,_,_,hlen,hxs,hel⟩:=DataW.trod_struct Try.underlying25 h
 simp at hxs
 have hsz2:cs.size=2:=by rw [hsz]; kernel_rfl
 have get:∀ i,i<2→∃ x,xs[i]?=some x:=fun i hi=>⟨_,List.getElem?_eq_getElem (by omega)⟩
 obtain ⟨L⟩:=cs
 match L,hsz2 with
 | [c0,c1],_ =>
  have fld:∀ (i:Nat) (hi:i<2) (f:Field) {cs':List Value},xs[i]?=DataW.trod enc Try.prog w 0 (fun _=>true) true k f.type cs'→∃ y,DataW.trod enc Try.prog w 0 (fun _=>true) true k f.type cs'=some y:=fun i hi f cs' e=>by
   obtain ⟨x,hx⟩:=get i hi
   exact ⟨x,by rw [← e,hx]⟩
  obtain ⟨_,h0⟩:=fld 0 (by omega) _ (hel 0 _ rfl).symm
  obtain ⟨_,h1⟩:=fld 1 (by omega) _ (hel 1 _ rfl).symm
  replace h0:DataW.trod enc Try.prog w 0 (fun _=>true) true k 22 ([c0,c1].take (Try.prog.cellsOf 22))=some _:=h0
  replace h1:DataW.trod enc Try.prog w 0 (fun _=>true) true k 23 ([c1].take (Try.prog.cellsOf 23))=some _:=h1
  rw [cells22] at h0
  rw [cells23] at h1
  obtain ⟨v0,C,e0,r0⟩:=read_cos h0
  obtain ⟨v1,M,e1,r1⟩:=read_mvs h1
  have e0:c0=v0:=by simpa using e0
  have e1:c1=v1:=by simpa using e1
  subst e0 e1
  refine ⟨⟨C,M⟩,?_⟩
  simp only [Yd.sv,SV.den,SV.denL]
  exact RelL.agg (RelL.mk r0 (RelL.mk r1 RelL.mk_nil))
theorem own:ownKnob Try.prog.godebug=none:=by kernel_rfl
theorem laid:laidOutB Try.prog=true:=by kernel_rfl
theorem rdb (t:TypeId) (h:(Try.prog.readableRec t && decide (t<Try.prog.types.size))=true):Try.prog.readableRec t=true∧t<Try.prog.types.size:=by
 simpa using h
end Go.Proofs.Ytfiaadlgfjokjaa
