import Derived.ProofKit
import Derived.Carry
import Derived.Test.YtfobgmecnlehaaaRows
import Derived.Test.YtfobgmecnlehaaaDaDaVDb
import Derived.Test.YtfobgmecnlehaaaYb
import Derived.Test.YtfobgmecnlehaaaLwLv
set_option linter.unusedVariables false
set_option linter.unusedSimpArgs false
namespace Go.Proofs.Ytfobgmecnlehaaa
open Go Go.Lg
attribute [local irreducible] bodyH funS
def two (n e:Int):SV:=.tup [i6 n,i6 e]
def grN (a:Act) (r:Int):Nat→Int
 | 0=>if r≤rtA a 0 then 0 else -1
 | k+1=>if r≤rtA a ((k+1:Nat):Int) then ((k+1:Nat):Int) else grN a r k
def dst (a:Act) (r:Int):Int:=grN a r 100000
structure seI (a:Act) (r:Int) (z:Nat × Nat):Prop where
 le:z.1≤z.2
 n:z.2≤100001
 lo:∀ p:Nat,p<z.1→r≤rtA a p
 hi:∀ p:Nat,z.2≤p→p≤100000→rtA a p<r
end Go.Proofs.Ytfobgmecnlehaaa

set_option maxRecDepth 100000
namespace Go.Proofs.Ytfobgmecnlehaaa
open Go Go.Lg
end Go.Proofs.Ytfobgmecnlehaaa

set_option maxRecDepth 100000
namespace Go.Proofs.Ytfobgmecnlehaaa
open Go Go.Lg
attribute [local irreducible] funS bodyH
theorem a_fold (a:Act):Act.mk a.pr a.dv a.st a.gn a.mo a.ba=a:=rfl
theorem ch1' (a:Int):(SV.lst 1 1 (chainF [SV.int IntKind.i64 a])=inL 1 (iOf (chainF [SV.int IntKind.i64 a])))=True:=eq_true rfl
theorem two_plain (n e:Int):plainS (two n e):=by simp [two,plainS,plainS.plainL]
end Go.Proofs.Ytfobgmecnlehaaa

namespace Go.Proofs.Ytfobgmecnlehaaa
open Go Go.Lg
attribute [local irreducible] bodyH funS
noncomputable def awC:Ctr:=⟨15,fun args k=>match args with
 | []=>k (.bool true)
 | _=>False⟩
theorem aw_ok:awC.Ok Try.prog:=by
 refine ⟨by kernel_rfl,fun x k hk=>?_⟩
 simp only [awC] at hk
 split at hk
 ·exact ⟨.bool true,Does.plain (res:=.bool true) Yb_does trivial,hk⟩
 ·exact hk.elim
end Go.Proofs.Ytfobgmecnlehaaa

set_option maxRecDepth 100000
namespace Go.Proofs.Ytfobgmecnlehaaa
open Go.Lg Go.ChangeShapes Go.WideShapes Go.ChangeAt Go.RowKit
attribute [local irreducible] bodyH funS
variable {H:Type} {enc:TypeId × Value→H} {w:World}
def i64P (z:Int):Prop:=-9223372036854775808≤z∧z≤9223372036854775807
theorem wf_i64 {z:Int} (h:(Lit.int .i64 z).wf=true):i64P z:=by
 have h:(decide (IntKind.min .i64≤z) && decide (z≤IntKind.max .i64))=true:=h
 simp only [Bool.and_eq_true,decide_eq_true_eq] at h
 have e1:IntKind.min .i64=-9223372036854775808:=by decide
 have e2:IntKind.max .i64=9223372036854775807:=by decide
 rw [e1,e2] at h
 exact h
theorem cells3:Try.prog.cellsOf 3=1:=by kernel_rfl
theorem int_fld {n:Nat} {c:Value} {x:DataW H × List MemPlace} (h:DataW.trod enc Try.prog w 0 (fun _=>true) true n 3 [c]=some x):∃ z,c=.int .i64 z∧i64P z:=by
 obtain ⟨z,h5,_,h6⟩:=DataW.trod_int Try.underlying3 h
 exact ⟨z,by simpa using h5,wf_i64 h6⟩
structure C6 where
 t:Act
 h:i64P t.pr∧i64P t.dv∧i64P t.st∧i64P t.gn∧i64P t.mo∧i64P t.ba
def C6.cs (c:C6):List Value:=[.int .i64 c.t.pr,.int .i64 c.t.dv,.int .i64 c.t.st,.int .i64 c.t.gn,.int .i64 c.t.mo,.int .i64 c.t.ba]
theorem read_act0 (n:Nat) (cs:List Value) (y:DataW H × List MemPlace) (h:DataW.trod enc Try.prog w 0 (fun _=>true) true n 23 cs=some y):∃ m:C6,cs=m.cs∧m.cs.length=6:=by
 obtain ⟨xs,k,_,_,hlen,hxs,hel⟩:=DataW.trod_struct Try.underlying23 h
 simp at hxs
 have hsz2:cs.length=6:=by rw [hlen]; kernel_rfl
 have get:∀ i,i<6→∃ x,xs[i]?=some x:=fun i hi=>⟨_,List.getElem?_eq_getElem (by omega)⟩
 match cs,hsz2 with
 | [c0,c1,c2,c3,c4,c5],_ =>
  have fld:∀ (i:Nat) (hi:i<6) (f:Field) {cs':List Value},xs[i]?=DataW.trod enc Try.prog w 0 (fun _=>true) true k f.type cs'→∃ y,DataW.trod enc Try.prog w 0 (fun _=>true) true k f.type cs'=some y:=fun i hi f cs' e=>by
   obtain ⟨x,hx⟩:=get i hi
   exact ⟨x,by rw [← e,hx]⟩
  obtain ⟨_,h0⟩:=fld 0 (by omega) _ (hel 0 _ rfl).symm
  obtain ⟨_,h1⟩:=fld 1 (by omega) _ (hel 1 _ rfl).symm
  obtain ⟨_,h2⟩:=fld 2 (by omega) _ (hel 2 _ rfl).symm
  obtain ⟨_,h3⟩:=fld 3 (by omega) _ (hel 3 _ rfl).symm
  obtain ⟨_,h4⟩:=fld 4 (by omega) _ (hel 4 _ rfl).symm
  obtain ⟨_,h5⟩:=fld 5 (by omega) _ (hel 5 _ rfl).symm
  replace h0:DataW.trod enc Try.prog w 0 (fun _=>true) true k 3 ([c0,c1,c2,c3,c4,c5].take (Try.prog.cellsOf 3))=some _:=h0
  replace h1:DataW.trod enc Try.prog w 0 (fun _=>true) true k 3 ([c1,c2,c3,c4,c5].take (Try.prog.cellsOf 3))=some _:=h1
  replace h2:DataW.trod enc Try.prog w 0 (fun _=>true) true k 3 ([c2,c3,c4,c5].take (Try.prog.cellsOf 3))=some _:=h2
  replace h3:DataW.trod enc Try.prog w 0 (fun _=>true) true k 3 ([c3,c4,c5].take (Try.prog.cellsOf 3))=some _:=h3
  replace h4:DataW.trod enc Try.prog w 0 (fun _=>true) true k 3 ([c4,c5].take (Try.prog.cellsOf 3))=some _:=h4
  replace h5:DataW.trod enc Try.prog w 0 (fun _=>true) true k 3 ([c5].take (Try.prog.cellsOf 3))=some _:=h5
  rw [cells3] at h0 h1 h2 h3 h4 h5
  obtain ⟨z0,rfl,g0⟩:=int_fld h0
  obtain ⟨z1,rfl,g1⟩:=int_fld h1
  obtain ⟨z2,rfl,g2⟩:=int_fld h2
  obtain ⟨z3,rfl,g3⟩:=int_fld h3
  obtain ⟨z4,rfl,g4⟩:=int_fld h4
  obtain ⟨z5,rfl,g5⟩:=int_fld h5
  exact ⟨⟨⟨z0,z1,z2,z3,z4,z5⟩,g0,g1,g2,g3,g4,g5⟩,rfl,rfl⟩
theorem read_act {base:Nat} {v:Value} {d:DataW H} {p:List MemPlace} (hv:Value.okWide Try.prog w .any base 23 v) (h:DataW.Trod enc Try.prog w 0 (fun _=>true) true 23 v d p) :
  ∃ t:Act,Rel (cellf w) (fun b=>b<w.heap.size) 0 noβ t.sv.den v:=by
 obtain ⟨fuel,h⟩:=h
 unfold Value.okWide at hv
 rw [Try.underlying23] at hv
 obtain ⟨cs,rfl,hsz,_⟩:=hv
 obtain ⟨m,e,_⟩:=read_act0 _ _ _ h
 refine ⟨m.t,?_⟩
 obtain ⟨L⟩:=cs
 have e:L=m.cs:=e
 subst e
 simp only [Act.sv,Act.cells,SV.den,SV.denL,C6.cs]
 exact RelL.agg (RelL.mk (.sc _) (RelL.mk (.sc _) (RelL.mk (.sc _) (RelL.mk (.sc _) (RelL.mk (.sc _) (RelL.mk (.sc _) RelL.mk_nil))))))
theorem own:ownKnob Try.prog.godebug=none:=by kernel_rfl
theorem laid:laidOutB Try.prog=true:=by kernel_rfl
theorem rdb (t:TypeId) (h:(Try.prog.readableRec t && decide (t<Try.prog.types.size))=true):Try.prog.readableRec t=true∧t<Try.prog.types.size:=by
 simpa using h
end Go.Proofs.Ytfobgmecnlehaaa
