import Derived.ProofKit
import Derived.Carry
import Derived.Test.YtbedomoilakcaaaIaIaVIbIcIcVIdIeIeVIf
import Derived.Test.YtbedomoilakcaaaLwLv
set_option linter.unusedVariables false
set_option linter.unusedSimpArgs false
set_option maxRecDepth 100000
namespace Go.Proofs.Ytbedomoilakcaaa
open Go.Lg Go.ChangeShapes Go.WideShapes Go.ChangeAt Go.RowKit
attribute [local irreducible] bodyH funS
variable {H:Type} {enc:TypeId × Value→H} {w:World}
def i64P (z:Int):Prop:=-9223372036854775808≤z∧z≤9223372036854775807
theorem wf_i64 {z:Int} (h:(Lit.int .i64 z).wf=true):i64P z:=by
 have h:(decide (IntKind.min .i64≤z) && decide (z≤IntKind.max .i64))=true:=h
 simp only [Bool.and_eq_true,decide_eq_true_eq] at h
 have e1:IntKind.min .i64=-9223372036854775808:=by decide
 have e2:IntKind.max .i64=9223372036854775807:=by decide
 rw [e1,e2] at h
 exact h
theorem cells3:Try.prog.cellsOf 3=1:=by kernel_rfl
theorem cells41:Try.prog.cellsOf 41=2:=by kernel_rfl
theorem int_fld {n:Nat} {c:Value} {x:DataW H × List MemPlace} (h:DataW.trod enc Try.prog w 0 (fun _=>true) true n 3 [c]=some x):∃ z,c=.int .i64 z∧i64P z:=by
 obtain ⟨z,h5,_,h6⟩:=DataW.trod_int Try.underlying3 h
 exact ⟨z,by simpa using h5,wf_i64 h6⟩
theorem spn_fld {n:Nat} {c0 c1:Value} {y:DataW H × List MemPlace} (h:DataW.trod enc Try.prog w 0 (fun _=>true) true n 41 [c0,c1]=some y):∃ a b,c0=.int .i64 a∧c1=.int .i64 b∧i64P a∧i64P b:=by
 obtain ⟨xs,k,_,_,hlen,hxs,hel⟩:=DataW.trod_struct Try.underlying41 h
 simp at hxs
 have get:∀ i,i<2→∃ x,xs[i]?=some x:=fun i hi=>⟨_,List.getElem?_eq_getElem (by omega)⟩
 have fld:∀ (i:Nat) (hi:i<2) (f:Field) {cs':List Value},xs[i]?=DataW.trod enc Try.prog w 0 (fun _=>true) true k f.type cs'→∃ y,DataW.trod enc Try.prog w 0 (fun _=>true) true k f.type cs'=some y:=fun i hi f cs' e=>by
  obtain ⟨x,hx⟩:=get i hi
  exact ⟨x,by rw [← e,hx]⟩
 obtain ⟨_,h0⟩:=fld 0 (by omega) _ (hel 0 _ rfl).symm
 obtain ⟨_,h1⟩:=fld 1 (by omega) _ (hel 1 _ rfl).symm
 replace h0:DataW.trod enc Try.prog w 0 (fun _=>true) true k 3 ([c0,c1].take (Try.prog.cellsOf 3))=some _:=h0
 replace h1:DataW.trod enc Try.prog w 0 (fun _=>true) true k 3 ([c1].take (Try.prog.cellsOf 3))=some _:=h1
 rw [cells3] at h0 h1
 obtain ⟨a,rfl,g1⟩:=int_fld h0
 obtain ⟨b,rfl,g2⟩:=int_fld h1
 exact ⟨a,b,rfl,rfl,g1,g2⟩
structure C4 where
 t:Wg
 h:i64P t.elo∧i64P t.ehi∧i64P t.flo∧i64P t.fhi
instance:Inhabited C4:=⟨⟨⟨0,0,0,0⟩,by unfold i64P; decide⟩⟩
def C4.cs (c:C4):List Value:=[.int .i64 c.t.elo,.int .i64 c.t.ehi,.int .i64 c.t.flo,.int .i64 c.t.fhi]
def C4.av (c:C4):AV:=.agg [.sc (.int .i64 c.t.elo),.sc (.int .i64 c.t.ehi),.sc (.int .i64 c.t.flo),.sc (.int .i64 c.t.fhi)]
structure UC (K:IntKind) where
 z:Int
 h:(Lit.int K z).wf=true
def UC.cs {K:IntKind} (m:UC K):List Value:=[.int K m.z]
def UC.av {K:IntKind} (m:UC K):AV:=.sc (.int K m.z)
theorem read_uc {K:IntKind} {e:TypeId} (he:Try.prog.underlying e=some (.int K)) (n:Nat) (cs:List Value) (y:DataW H × List MemPlace) (h:DataW.trod enc Try.prog w 0 (fun _=>true) true n e cs=some y):∃ m:UC K,cs=m.cs∧m.cs.length=1:=by
 obtain ⟨z,h5,_,hw⟩:=DataW.trod_int he h
 exact ⟨⟨z,hw⟩,h5,rfl⟩
def uL (K:IntKind) (m:Nat) (b:Nat→Int):SV:=.lst 1 m fun i=>.int K (b i)
def ucF {K:IntKind} (ms:List (UC K)) (i:Nat):Int:=match ms[i]? with
 | some m=>m.z
 | none=>0
theorem uc_den {K:IntKind} (ms:List (UC K)):(uL K ms.length (ucF ms)).den=.isl 1 (ms.map UC.av):=by
 simp only [uL,SV.den]
 congr 1
 apply List.ext_getElem
 ·simp
 ·intro i h1 h2
  simp at h1 h2
  simp [ucF,UC.av,h2]
theorem own:ownKnob Try.prog.godebug=none:=by kernel_rfl
theorem laid:laidOutB Try.prog=true:=by kernel_rfl
theorem rdb (t:TypeId) (h:(Try.prog.readableRec t && decide (t<Try.prog.types.size))=true):Try.prog.readableRec t=true∧t<Try.prog.types.size:=by
 simpa using h
end Go.Proofs.Ytbedomoilakcaaa
