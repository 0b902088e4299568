import Derived.Test.YtfobgmecnlehaaaEkEkVElEmEnEnVEp
import Derived.Test.YtfobgmecnlehaaaDcDcVDdDeDg
set_option linter.unusedVariables false
set_option linter.unusedSimpArgs false
set_option maxRecDepth 100000
namespace Go.Proofs.Ytfobgmecnlehaaa
open Go.Lg Go.ChangeShapes Go.WideShapes Go.ChangeAt Go.RowKit
attribute [local irreducible] bodyH funS
variable {H:Type} {enc:TypeId × Value→H} {w:World}
theorem one_cell {base:Nat} {v:Value} {t e:TypeId} (ht:Try.prog.underlying t=some (.slice e)) (hv:Value.okWide Try.prog w .any base t v):v.cells.toList=[v]:=by
 unfold Value.okWide at hv
 rw [ht] at hv
 cases v <;> first | rfl | (simp [Cell.okWide,Cell.ok,ht] at hv)
structure CY where
 t:Yr
 h:i64P t.pr∧i64P t.cp∧i64P t.pf
def CY.cs (c:CY):List Value:=[.int .i64 c.t.pr,.int .i64 c.t.cp,.int .i64 c.t.pf]
theorem read_yr0 (n:Nat) (cs:List Value) (y:DataW H × List MemPlace) (h:DataW.trod enc Try.prog w 0 (fun _=>true) true n 47 cs=some y):∃ m:CY,cs=m.cs∧m.cs.length=3:=by
 obtain ⟨xs,k,_,_,hlen,hxs,hel⟩:=DataW.trod_struct Try.underlying47 h
 simp at hxs
 have hsz2:cs.length=3:=by rw [hlen]; kernel_rfl
 have get:∀ i,i<3→∃ x,xs[i]?=some x:=fun i hi=>⟨_,List.getElem?_eq_getElem (by omega)⟩
 match cs,hsz2 with
 | [c0,c1,c2],_ =>
  have fld:∀ (i:Nat) (hi:i<3) (f:Field) {cs':List Value},xs[i]?=DataW.trod enc Try.prog w 0 (fun _=>true) true k f.type cs'→∃ y,DataW.trod enc Try.prog w 0 (fun _=>true) true k f.type cs'=some y:=fun i hi f cs' e=>by
   obtain ⟨x,hx⟩:=get i hi
   exact ⟨x,by rw [← e,hx]⟩
  obtain ⟨_,h0⟩:=fld 0 (by omega) _ (hel 0 _ rfl).symm
  obtain ⟨_,h1⟩:=fld 1 (by omega) _ (hel 1 _ rfl).symm
  obtain ⟨_,h2⟩:=fld 2 (by omega) _ (hel 2 _ rfl).symm
  replace h0:DataW.trod enc Try.prog w 0 (fun _=>true) true k 3 ([c0,c1,c2].take (Try.prog.cellsOf 3))=some _:=h0
  replace h1:DataW.trod enc Try.prog w 0 (fun _=>true) true k 3 ([c1,c2].take (Try.prog.cellsOf 3))=some _:=h1
  replace h2:DataW.trod enc Try.prog w 0 (fun _=>true) true k 3 ([c2].take (Try.prog.cellsOf 3))=some _:=h2
  rw [cells3] at h0 h1 h2
  obtain ⟨z0,rfl,g0⟩:=int_fld h0
  obtain ⟨z1,rfl,g1⟩:=int_fld h1
  obtain ⟨z2,rfl,g2⟩:=int_fld h2
  exact ⟨⟨⟨z0,z1,z2⟩,g0,g1,g2⟩,rfl,rfl⟩
instance:Inhabited CY:=⟨⟨⟨0,0,0⟩,by unfold i64P; decide⟩⟩
def CY.av (c:CY):AV:=.agg [.sc (.int .i64 c.t.pr),.sc (.int .i64 c.t.cp),.sc (.int .i64 c.t.pf)]
def yrC (ms:List CY) (i:Nat):Yr:=(ms.getD i default).t
theorem yrC_den (ms:List CY):(yrL ms.length (yrC ms)).den=.isl 3 (ms.map CY.av):=by
 simp only [yrL,SV.den]
 congr 1
 apply List.ext_getElem
 ·simp
 ·intro i h1 h2
  simp at h1 h2
  simp [yrC,Yr.sv,SV.denL,SV.den,CY.av,h2]
theorem read_yrs {base:Nat} {v:Value} {d:DataW H} {p:List MemPlace} (hv:Value.okWide Try.prog w .any base 29 v) (h:DataW.Trod enc Try.prog w 0 (fun _=>true) true 29 v d p) :
  ∃ (n:Nat) (f:Nat→Yr),Rel (cellf w) (fun b=>b<w.heap.size) 0 noβ (yrL n f).den v:=by
 obtain ⟨fuel,h⟩:=h
 rw [one_cell Try.underlying29 hv] at h
 obtain ⟨v',ms,e,hr,_,_⟩:=rel_slice CY.cs CY.av (fun m=>rfl) (show Try.prog.cellsOf 47=3 by kernel_rfl) (by omega) Try.underlying29 read_yr0 h
 cases e
 refine ⟨ms.length,yrC ms,?_⟩
 rw [yrC_den]
 exact hr
structure CP where
 t:Pay
 h:i64P t.rt∧i64P t.du∧i64P t.pd∧i64P t.ar∧i64P t.rs∧i64P t.rb
def CP.cs (c:CP):List Value:=[.int .i64 c.t.rt,.int .i64 c.t.du,.int .i64 c.t.pd,.int .i64 c.t.ar,.int .i64 c.t.rs,.int .i64 c.t.rb]
theorem read_py0 (n:Nat) (cs:List Value) (y:DataW H × List MemPlace) (h:DataW.trod enc Try.prog w 0 (fun _=>true) true n 45 cs=some y):∃ m:CP,cs=m.cs∧m.cs.length=6:=by
 obtain ⟨xs,k,_,_,hlen,hxs,hel⟩:=DataW.trod_struct Try.underlying45 h
 simp at hxs
 have hsz2:cs.length=6:=by rw [hlen]; kernel_rfl
 have get:∀ i,i<6→∃ x,xs[i]?=some x:=fun i hi=>⟨_,List.getElem?_eq_getElem (by omega)⟩
 match cs,hsz2 with
 | [c0,c1,c2,c3,c4,c5],_ =>
  have fld:∀ (i:Nat) (hi:i<6) (f:Field) {cs':List Value},xs[i]?=DataW.trod enc Try.prog w 0 (fun _=>true) true k f.type cs'→∃ y,DataW.trod enc Try.prog w 0 (fun _=>true) true k f.type cs'=some y:=fun i hi f cs' e=>by
   obtain ⟨x,hx⟩:=get i hi
   exact ⟨x,by rw [← e,hx]⟩
  obtain ⟨_,h0⟩:=fld 0 (by omega) _ (hel 0 _ rfl).symm
  obtain ⟨_,h1⟩:=fld 1 (by omega) _ (hel 1 _ rfl).symm
  obtain ⟨_,h2⟩:=fld 2 (by omega) _ (hel 2 _ rfl).symm
  obtain ⟨_,h3⟩:=fld 3 (by omega) _ (hel 3 _ rfl).symm
  obtain ⟨_,h4⟩:=fld 4 (by omega) _ (hel 4 _ rfl).symm
  obtain ⟨_,h5⟩:=fld 5 (by omega) _ (hel 5 _ rfl).symm
  replace h0:DataW.trod enc Try.prog w 0 (fun _=>true) true k 3 ([c0,c1,c2,c3,c4,c5].take (Try.prog.cellsOf 3))=some _:=h0
  replace h1:DataW.trod enc Try.prog w 0 (fun _=>true) true k 3 ([c1,c2,c3,c4,c5].take (Try.prog.cellsOf 3))=some _:=h1
  replace h2:DataW.trod enc Try.prog w 0 (fun _=>true) true k 3 ([c2,c3,c4,c5].take (Try.prog.cellsOf 3))=some _:=h2
  replace h3:DataW.trod enc Try.prog w 0 (fun _=>true) true k 3 ([c3,c4,c5].take (Try.prog.cellsOf 3))=some _:=h3
  replace h4:DataW.trod enc Try.prog w 0 (fun _=>true) true k 3 ([c4,c5].take (Try.prog.cellsOf 3))=some _:=h4
  replace h5:DataW.trod enc Try.prog w 0 (fun _=>true) true k 3 ([c5].take (Try.prog.cellsOf 3))=some _:=h5
  rw [cells3] at h0 h1 h2 h3 h4 h5
  obtain ⟨z0,rfl,g0⟩:=int_fld h0
  obtain ⟨z1,rfl,g1⟩:=int_fld h1
  obtain ⟨z2,rfl,g2⟩:=int_fld h2
  obtain ⟨z3,rfl,g3⟩:=int_fld h3
  obtain ⟨z4,rfl,g4⟩:=int_fld h4
  obtain ⟨z5,rfl,g5⟩:=int_fld h5
  exact ⟨⟨⟨z0,z1,z2,z3,z4,z5⟩,g0,g1,g2,g3,g4,g5⟩,rfl,rfl⟩
instance:Inhabited CP:=⟨⟨⟨0,0,0,0,0,0⟩,by unfold i64P; decide⟩⟩
def CP.av (c:CP):AV:=.agg [.sc (.int .i64 c.t.rt),.sc (.int .i64 c.t.du),.sc (.int .i64 c.t.pd),.sc (.int .i64 c.t.ar),.sc (.int .i64 c.t.rs),.sc (.int .i64 c.t.rb)]
def pyC (ms:List CP) (i:Nat):Pay:=(ms.getD i default).t
theorem pyC_den (ms:List CP):(pyL ms.length (pyC ms)).den=.isl 6 (ms.map CP.av):=by
 simp only [pyL,SV.den]
 congr 1
 apply List.ext_getElem
 ·simp
 ·intro i h1 h2
  simp at h1 h2
  simp [pyC,Pay.sv,SV.denL,SV.den,CP.av,h2]
theorem read_pys {base:Nat} {v:Value} {d:DataW H} {p:List MemPlace} (hv:Value.okWide Try.prog w .any base 30 v) (h:DataW.Trod enc Try.prog w 0 (fun _=>true) true 30 v d p) :
  ∃ (n:Nat) (f:Nat→Pay),Rel (cellf w) (fun b=>b<w.heap.size) 0 noβ (pyL n f).den v:=by
 obtain ⟨fuel,h⟩:=h
 rw [one_cell Try.underlying30 hv] at h
 obtain ⟨v',ms,e,hr,_,_⟩:=rel_slice CP.cs CP.av (fun m=>rfl) (show Try.prog.cellsOf 45=6 by kernel_rfl) (by omega) Try.underlying30 read_py0 h
 cases e
 refine ⟨ms.length,pyC ms,?_⟩
 rw [pyC_den]
 exact hr
end Go.Proofs.Ytfobgmecnlehaaa
