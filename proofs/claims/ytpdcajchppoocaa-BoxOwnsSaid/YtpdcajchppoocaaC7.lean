import Derived.Deep.Slices
import Derived.ProofKit
import Derived.Carry
import Derived.Test.YtpdcajchppoocaaC6
import Derived.Test.YtpdcajchppoocaaC5
import Derived.Test.YtpdcajchppoocaaHgHgVHgV2HhHi
import Derived.Test.YtpdcajchppoocaaGaGaVGb
import Derived.Test.YtpdcajchppoocaaLmLm2
import Derived.Test.YtpdcajchppoocaaC1
set_option linter.unusedVariables false
set_option linter.unusedSimpArgs false
set_option maxRecDepth 100000
namespace Go.Proofs.Ytpdcajchppoocaa
open Go Go.Lg
attribute [local irreducible] bodyH
end Go.Proofs.Ytpdcajchppoocaa

set_option maxRecDepth 100000
namespace Go.Proofs.Ytpdcajchppoocaa
open Go Go.Lg
attribute [local irreducible] bodyH
end Go.Proofs.Ytpdcajchppoocaa

set_option maxRecDepth 100000
namespace Go.Proofs.Ytpdcajchppoocaa
open Go Go.Lg
end Go.Proofs.Ytpdcajchppoocaa

set_option maxRecDepth 100000
namespace Go.Proofs.Ytpdcajchppoocaa
open Go Go.Lg
attribute [local irreducible] bodyH
end Go.Proofs.Ytpdcajchppoocaa

set_option maxRecDepth 100000
namespace Go.Proofs.Ytpdcajchppoocaa
open Go Go.Lg
end Go.Proofs.Ytpdcajchppoocaa

set_option maxRecDepth 100000
namespace Go.Proofs.Ytpdcajchppoocaa
open Go Go.Lg
attribute [local irreducible] bodyH
section
variable {T:Tn} {a b:Nat→Int}
end
section
variable {T:Tn} {w:Nat→Bool} (h:okR T w)
include h
end
end Go.Proofs.Ytpdcajchppoocaa

namespace Go.Lg
open Go.RowKit Go.ChangeShapes Go.WideShapes
variable {P:Program} {H:Type} {enc:TypeId × Value→H}

theorem trodAll_stays (hl:laidOutB P=true) {W W':World} {sp':Nat→Bool}:∀ {ts:List TypeId} {vs:List Value} {ds:List (DataW H)} {ps:List MemPlace},(∀ t ∈ ts,P.readableRec t=true∧t<P.types.size) →
  DataW.TrodAll enc P W 0 (fun _=>true) true ts vs ds ps→(∀ p ∈ ps,W.sameAt W' p)→(∀ p ∈ ps,sp' p.block=true)→DataW.TrodAll enc P W' 0 sp' true ts vs ds ps
 | [],[],[],_,_,h,_,_=>h
 | t :: ts,v :: vs,d :: ds,_,hr,h,hs,hp=>by
  obtain ⟨p,q,h1,h2,rfl⟩:=h
  exact ⟨p,q,WideElems.Trod_stays hl (hr t (by simp)).1 (hr t (by simp)).2 h1 (fun x hx=>hs x (by simp [hx])) (fun x hx=>hp x (by simp [hx])),
   trodAll_stays hl (fun t ht=>hr t (by simp [ht])) h2 (fun x hx=>hs x (by simp [hx])) (fun x hx=>hp x (by simp [hx])),rfl⟩
 | [],_ :: _,_,_,_,h,_,_=>h.elim
 | [],[],_ :: _,_,_,h,_,_=>h.elim
 | _ :: _,[],_,_,_,h,_,_=>h.elim
 | _ :: _,_ :: _,[],_,_,h,_,_=>h.elim

theorem law_calls (hl:laidOutB P=true) {f:FuncId} {fn:Func} {s:ChangeSpec} {tb:TypeId} (hread:∀ t ∈ fn.params.toList,P.readableRec t=true∧t<P.types.size) (hvars:s.vars=[])
  (hres:fn.resultTypes=#[tb]) (hbool:P.underlying tb=some .bool) {W:World} {args:Array Value} {ds gs:List (DataW H)} {before:List MemPlace}
  (hfn:s.fn H (ds ++ gs)={ results:=[.lit (.bool true)],args:=ds })
  (hW:DataW.Whole enc P fn.params.toList s.vars false W args.toList ds gs before)
  {avs:List AV} (hrel:RelL (cellf W) (fun b=>b<W.heap.size) 0 noβ avs args.toList) (hd:Does P f false avs (.sc (.bool true))) :
  Calls P f args W fun e W'=>∃ v,e=.returned v∧s.post enc P fn false true false false W args v W':=by
 refine (hd W _ args (fun b h=>h) hrel).mono ?_
 rintro e W' ⟨u,I',rfl,hk,_,_,hu⟩
 cases hu
 refine ⟨_,rfl,?_⟩
 have hb:Below W.heap.size W W':=⟨hk.os,hk.tape,hk.output,hk.size,fun k h=>hk.block k h⟩
 have hlt:∀ p ∈ before,p.block<W.heap.size:=fun p hp=>hW.lt p hp
 have hW':=hW
 obtain ⟨p,q,hA,hV,rfl,_,_⟩:=hW
 rw [hvars] at hV
 obtain ⟨rfl,rfl⟩:=trodVars_none hV
 refine ⟨ds,[],p ++ [],[],p,[],hW',?_,?_,?_,World.keptBut_mono (fun x hx=>⟨hx,.inr (.inl (by simpa using hx))⟩) (hb.frame (· ∈ p ++ [])),fun h=>by cases h⟩
 ·rw [hfn,hres]
  exact trodAll_mk1 (shut_bool hbool _)
 ·rw [hfn]
  exact trodAll_stays hl hread hA (fun x hx=>hb.same (hlt x (by simp [hx]))) (fun x hx=>by simpa using hlt x (by simp [hx]))
 ·rw [hfn,hvars]
  trivial
end Go.Lg

namespace Go.Lg
variable {P:Program} {H:Type} {enc:TypeId × Value→H} {w:World}

theorem rel_slice {T:Type} {t e:TypeId} {S:Nat} (E:T→List Value) (av:T→AV) (hav:∀ m,(av m).cells=(E m).map AV.sc) (hS:P.cellsOf e=S) (hS0:0<S)
  (ht:P.underlying t=some (.slice e)) (hE:∀ n cs y,DataW.trod enc P w 0 (fun _=>true) true n e cs=some y→∃ m,cs=E m∧(E m).length=S)
  {fuel:Nat} {cs:List Value} {x:DataW H × List MemPlace} (h:DataW.trod enc P w 0 (fun _=>true) true fuel t cs=some x) :
  ∃ (v:Value) (ms:List T),cs=[v]∧Rel (cellf w) (fun b=>b<w.heap.size) 0 noβ (.isl S (ms.map av)) v∧(∃ a cap,v=.slice a ms.length cap)∧ms.length≤maxLen:=by
 rcases Go.Deep.open_slice ht h with ⟨rfl,_⟩ | ⟨a,len,cap,m,n,D,Pl,rfl,_,hlc,hcm,hm,_,hx⟩
 ·exact ⟨_,[],rfl,.islz _ _,⟨none,0,rfl⟩,by simp⟩
 ·simp only [if_true] at hm
  have hex:∀ i,i<cap→∃ y:T,w.cells? 0 (a.add (i*S)) S=some (E y)∧(E y).length=S:=by
   intro i hi
   obtain ⟨cs',h1,h2⟩:=hx i (by rw [hm]; exact hi)
   obtain ⟨y,rfl,hy⟩:=hE _ _ _ h2
   rw [hS] at h1
   exact ⟨y,h1,hy⟩
  obtain ⟨F,hF⟩:∃ F:(i:Nat)→i<cap→T,∀ i hi,w.cells? 0 (a.add (i*S)) S=some (E (F i hi))∧(E (F i hi)).length=S:=⟨fun i hi=>(hex i hi).choose,fun i hi=>(hex i hi).choose_spec⟩
  clear hex hx h
  have hlt:∀ i (hi:i<cap) j,j<S→w.cell? ((a.add (i*S)).add j)=(E (F i hi))[j]?:=fun i hi j hj=>(World.cells?_some (hF i hi).1).2.2 j hj
  have hsome:∀ i (hi:i<cap) j,j<S→∃ u,(E (F i hi))[j]?=some u:=fun i hi j hj=>by
   have:=(hF i hi).2
   exact ⟨_,List.getElem?_eq_getElem (by omega)⟩
  by_cases hc0:cap=0
  ·subst hc0
   have:len=0:=by omega
   subst this
   exact ⟨_,[],rfl,.islz _ _,⟨some a,0,rfl⟩,by simp⟩
  have hspot:a.spot=none∧a.block<w.heap.size:=by
   obtain ⟨u,hu⟩:=hsome 0 (by omega) 0 hS0
   have h1:=hlt 0 (by omega) 0 hS0
   rw [hu] at h1
   simp only [Nat.zero_mul,Addr.add,if_true] at h1
   unfold World.cell? at h1
   split at h1
   ·rename_i c e' fz hb
    refine ⟨?_,(Array.getElem?_eq_some_iff.1 hb).1⟩
    cases hs:a.spot with
    | none=>rfl
    | some q=>simp [hs] at h1
   ·cases h1
  obtain ⟨b,off,sp⟩:=a
  obtain ⟨rfl,hblk⟩:=hspot
  have hcell:∀ i (hi:i<cap) j,j<S→cellf w b (off+i*S+j)=(E (F i hi))[j]?:=by
   intro i hi j hj
   have:=hlt i hi j hj
   rw [add_none,add_none] at this
   exact this
  have hpm:∀ i ∈ List.range len,i<cap:=by
   intro i hi
   have:i<len:=by simpa using hi
   omega
  let ms:List T:=(List.range len).pmap F hpm
  have hml:ms.length=len:=by simp [ms]
  have hmg:∀ i (hi:i<len),ms[i]?=some (F i (by omega)):=by
   intro i hi
   simp only [ms,List.getElem?_pmap]
   simp [hi]
  have hmap:∀ i (hi:i<len),(ms.map av).getD i .any=av (F i (by omega)):=by
   intro i hi
   unfold List.getD
   rw [List.getElem?_map,hmg i hi]; rfl
  have hget:∀ (l:List Value) j u,l[j]?=some u→(l.map AV.sc).getD j .any=.sc u:=by
   intro l j u h
   unfold List.getD
   rw [List.getElem?_map,h]; rfl
  refine ⟨_,ms,rfl,?_,⟨_,cap,by rw [hml]⟩,by omega⟩
  have hl2:(ms.map av).length=len:=by simp [hml]
  rw [← hl2]
  refine .isl S _ b off cap (fun i j=>(cellf w b (off+i*S+j)).getD undef) hblk (by omega) (fun i hi=>?_) (fun i hi j hj=>?_) (fun i hi j hj=>?_)
  ·rw [hl2] at hi
   rw [hmap i hi,hav]; simpa using (hF i (by omega)).2
  ·rw [hl2] at hi
   obtain ⟨u,hu⟩:=hsome i (by omega) j hj
   rw [hcell i (by omega) j hj,hu]; rfl
  ·rw [hl2] at hi
   obtain ⟨u,hu⟩:=hsome i (by omega) j hj
   rw [hmap i hi,hav,hget _ _ _ hu,hcell i (by omega) j hj,hu]
   exact .sc u
end Go.Lg
