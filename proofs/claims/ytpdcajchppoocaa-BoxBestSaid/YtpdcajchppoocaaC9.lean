import Derived.Deep.Slices
import Derived.ProofKit
import Derived.Carry
import Derived.Test.YtpdcajchppoocaaC8
import Derived.Test.YtpdcajchppoocaaC7
import Derived.Test.YtpdcajchppoocaaHgHgVHgV2HhHi
import Derived.Test.YtpdcajchppoocaaGaGaVGb
import Derived.Test.YtpdcajchppoocaaLmLm2
import Derived.Test.YtpdcajchppoocaaC1
set_option linter.unusedVariables false
set_option linter.unusedSimpArgs false
set_option maxRecDepth 100000
namespace Go.Proofs.Ytpdcajchppoocaa
open Go Go.Lg
attribute [local irreducible] bodyH
end Go.Proofs.Ytpdcajchppoocaa

set_option maxRecDepth 100000
namespace Go.Proofs.Ytpdcajchppoocaa
open Go Go.Lg
attribute [local irreducible] bodyH
end Go.Proofs.Ytpdcajchppoocaa

set_option maxRecDepth 100000
namespace Go.Proofs.Ytpdcajchppoocaa
open Go Go.Lg
local notation "Z0"=>(0:Int)
end Go.Proofs.Ytpdcajchppoocaa

set_option maxRecDepth 100000
namespace Go.Proofs.Ytpdcajchppoocaa
open Go Go.Lg
attribute [local irreducible] bodyH
def trS (T:Tn) (r i:Nat):SV:=.agg [bxL T,b6 T.we,b6 T.rv,b6 T.re,b6 T.wo,b6 T.ti,.sl r 0 i]
end Go.Proofs.Ytpdcajchppoocaa

set_option maxRecDepth 100000
namespace Go.Proofs.Ytpdcajchppoocaa
open Go Go.Lg
local notation "Z0"=>(0:Int)
local notation "N0"=>(0:Nat)
local notation "N1"=>(1:Nat)
local notation "N2"=>(2:Nat)
end Go.Proofs.Ytpdcajchppoocaa

set_option maxRecDepth 100000
namespace Go.Proofs.Ytpdcajchppoocaa
open Go Go.Lg
attribute [local irreducible] bodyH
section
variable {T:Tn} {a b:Nat→Int}
end
section
variable {T:Tn} {w:Nat→Bool} (h:okR T w)
include h
end
end Go.Proofs.Ytpdcajchppoocaa

namespace Go.Lg
open Go.RowKit Go.ChangeShapes Go.WideShapes
variable {P:Program} {H:Type} {enc:TypeId × Value→H}

theorem trodAll_stays (hl:laidOutB P=true) {W W':World} {sp':Nat→Bool}:∀ {ts:List TypeId} {vs:List Value} {ds:List (DataW H)} {ps:List MemPlace},(∀ t ∈ ts,P.readableRec t=true∧t<P.types.size) →
  DataW.TrodAll enc P W 0 (fun _=>true) true ts vs ds ps→(∀ p ∈ ps,W.sameAt W' p)→(∀ p ∈ ps,sp' p.block=true)→DataW.TrodAll enc P W' 0 sp' true ts vs ds ps
 | [],[],[],_,_,h,_,_=>h
 | t :: ts,v :: vs,d :: ds,_,hr,h,hs,hp=>by
  obtain ⟨p,q,h1,h2,rfl⟩:=h
  exact ⟨p,q,WideElems.Trod_stays hl (hr t (by simp)).1 (hr t (by simp)).2 h1 (fun x hx=>hs x (by simp [hx])) (fun x hx=>hp x (by simp [hx])),
   trodAll_stays hl (fun t ht=>hr t (by simp [ht])) h2 (fun x hx=>hs x (by simp [hx])) (fun x hx=>hp x (by simp [hx])),rfl⟩
 | [],_ :: _,_,_,_,h,_,_=>h.elim
 | [],[],_ :: _,_,_,h,_,_=>h.elim
 | _ :: _,[],_,_,_,h,_,_=>h.elim
 | _ :: _,_ :: _,[],_,_,h,_,_=>h.elim

theorem law_calls (hl:laidOutB P=true) {f:FuncId} {fn:Func} {s:ChangeSpec} {tb:TypeId} (hread:∀ t ∈ fn.params.toList,P.readableRec t=true∧t<P.types.size) (hvars:s.vars=[])
  (hres:fn.resultTypes=#[tb]) (hbool:P.underlying tb=some .bool) {W:World} {args:Array Value} {ds gs:List (DataW H)} {before:List MemPlace}
  (hfn:s.fn H (ds ++ gs)={ results:=[.lit (.bool true)],args:=ds })
  (hW:DataW.Whole enc P fn.params.toList s.vars false W args.toList ds gs before)
  {avs:List AV} (hrel:RelL (cellf W) (fun b=>b<W.heap.size) 0 noβ avs args.toList) (hd:Does P f false avs (.sc (.bool true))) :
  Calls P f args W fun e W'=>∃ v,e=.returned v∧s.post enc P fn false true false false W args v W':=by
 refine (hd W _ args (fun b h=>h) hrel).mono ?_
 rintro e W' ⟨u,I',rfl,hk,_,_,hu⟩
 cases hu
 refine ⟨_,rfl,?_⟩
 have hb:Below W.heap.size W W':=⟨hk.os,hk.tape,hk.output,hk.size,fun k h=>hk.block k h⟩
 have hlt:∀ p ∈ before,p.block<W.heap.size:=fun p hp=>hW.lt p hp
 have hW':=hW
 obtain ⟨p,q,hA,hV,rfl,_,_⟩:=hW
 rw [hvars] at hV
 obtain ⟨rfl,rfl⟩:=trodVars_none hV
 refine ⟨ds,[],p ++ [],[],p,[],hW',?_,?_,?_,World.keptBut_mono (fun x hx=>⟨hx,.inr (.inl (by simpa using hx))⟩) (hb.frame (· ∈ p ++ [])),fun h=>by cases h⟩
 ·rw [hfn,hres]
  exact trodAll_mk1 (shut_bool hbool _)
 ·rw [hfn]
  exact trodAll_stays hl hread hA (fun x hx=>hb.same (hlt x (by simp [hx]))) (fun x hx=>by simpa using hlt x (by simp [hx]))
 ·rw [hfn,hvars]
  trivial
end Go.Lg

namespace Go.Lg
variable {P:Program} {H:Type} {enc:TypeId × Value→H} {w:World}

theorem rel_slice {T:Type} {t e:TypeId} {S:Nat} (E:T→List Value) (av:T→AV) (hav:∀ m,(av m).cells=(E m).map AV.sc) (hS:P.cellsOf e=S) (hS0:0<S)
  (ht:P.underlying t=some (.slice e)) (hE:∀ n cs y,DataW.trod enc P w 0 (fun _=>true) true n e cs=some y→∃ m,cs=E m∧(E m).length=S)
  {fuel:Nat} {cs:List Value} {x:DataW H × List MemPlace} (h:DataW.trod enc P w 0 (fun _=>true) true fuel t cs=some x) :
  ∃ (v:Value) (ms:List T),cs=[v]∧Rel (cellf w) (fun b=>b<w.heap.size) 0 noβ (.isl S (ms.map av)) v∧(∃ a cap,v=.slice a ms.length cap)∧ms.length≤maxLen:=by
 rcases Go.Deep.open_slice ht h with ⟨rfl,_⟩ | ⟨a,len,cap,m,n,D,Pl,rfl,_,hlc,hcm,hm,_,hx⟩
 ·exact ⟨_,[],rfl,.islz _ _,⟨none,0,rfl⟩,by simp⟩
 ·simp only [if_true] at hm
  have hex:∀ i,i<cap→∃ y:T,w.cells? 0 (a.add (i*S)) S=some (E y)∧(E y).length=S:=by
   intro i hi
   obtain ⟨cs',h1,h2⟩:=hx i (by rw [hm]; exact hi)
   obtain ⟨y,rfl,hy⟩:=hE _ _ _ h2
   rw [hS] at h1
   exact ⟨y,h1,hy⟩
  obtain ⟨F,hF⟩:∃ F:(i:Nat)→i<cap→T,∀ i hi,w.cells? 0 (a.add (i*S)) S=some (E (F i hi))∧(E (F i hi)).length=S:=⟨fun i hi=>(hex i hi).choose,fun i hi=>(hex i hi).choose_spec⟩
  clear hex hx h
  have hlt:∀ i (hi:i<cap) j,j<S→w.cell? ((a.add (i*S)).add j)=(E (F i hi))[j]?:=fun i hi j hj=>(World.cells?_some (hF i hi).1).2.2 j hj
  have hsome:∀ i (hi:i<cap) j,j<S→∃ u,(E (F i hi))[j]?=some u:=fun i hi j hj=>by
   have:=(hF i hi).2
   exact ⟨_,List.getElem?_eq_getElem (by omega)⟩
  by_cases hc0:cap=0
  ·subst hc0
   have:len=0:=by omega
   subst this
   exact ⟨_,[],rfl,.islz _ _,⟨some a,0,rfl⟩,by simp⟩
  have hspot:a.spot=none∧a.block<w.heap.size:=by
   obtain ⟨u,hu⟩:=hsome 0 (by omega) 0 hS0
   have h1:=hlt 0 (by omega) 0 hS0
   rw [hu] at h1
   simp only [Nat.zero_mul,Addr.add,if_true] at h1
   unfold World.cell? at h1
   split at h1
   ·rename_i c e' fz hb
    refine ⟨?_,(Array.getElem?_eq_some_iff.1 hb).1⟩
    cases hs:a.spot with
    | none=>rfl
    | some q=>simp [hs] at h1
   ·cases h1
  obtain ⟨b,off,sp⟩:=a
  obtain ⟨rfl,hblk⟩:=hspot
  have hcell:∀ i (hi:i<cap) j,j<S→cellf w b (off+i*S+j)=(E (F i hi))[j]?:=by
   intro i hi j hj
   have:=hlt i hi j hj
   rw [add_none,add_none] at this
   exact this
  have hpm:∀ i ∈ List.range len,i<cap:=by
   intro i hi
   have:i<len:=by simpa using hi
   omega
  let ms:List T:=(List.range len).pmap F hpm
  have hml:ms.length=len:=by simp [ms]
  have hmg:∀ i (hi:i<len),ms[i]?=some (F i (by omega)):=by
   intro i hi
   simp only [ms,List.getElem?_pmap]
   simp [hi]
  have hmap:∀ i (hi:i<len),(ms.map av).getD i .any=av (F i (by omega)):=by
   intro i hi
   unfold List.getD
   rw [List.getElem?_map,hmg i hi]; rfl
  have hget:∀ (l:List Value) j u,l[j]?=some u→(l.map AV.sc).getD j .any=.sc u:=by
   intro l j u h
   unfold List.getD
   rw [List.getElem?_map,h]; rfl
  refine ⟨_,ms,rfl,?_,⟨_,cap,by rw [hml]⟩,by omega⟩
  have hl2:(ms.map av).length=len:=by simp [hml]
  rw [← hl2]
  refine .isl S _ b off cap (fun i j=>(cellf w b (off+i*S+j)).getD undef) hblk (by omega) (fun i hi=>?_) (fun i hi j hj=>?_) (fun i hi j hj=>?_)
  ·rw [hl2] at hi
   rw [hmap i hi,hav]; simpa using (hF i (by omega)).2
  ·rw [hl2] at hi
   obtain ⟨u,hu⟩:=hsome i (by omega) j hj
   rw [hcell i (by omega) j hj,hu]; rfl
  ·rw [hl2] at hi
   obtain ⟨u,hu⟩:=hsome i (by omega) j hj
   rw [hmap i hi,hav,hget _ _ _ hu,hcell i (by omega) j hj,hu]
   exact .sc u
end Go.Lg

set_option maxRecDepth 100000
namespace Go.Proofs.Ytpdcajchppoocaa
open Go.Lg Go.ChangeShapes Go.WideShapes Go.ChangeAt Go.RowKit
attribute [local irreducible] bodyH
variable {H:Type} {enc:TypeId × Value→H} {w:World}
theorem read_ints {P:Program} {t:TypeId} {fs:Array Field} {n:Nat} {cs:List Value} {y:DataW H × List MemPlace} (hu:P.underlying t=some (.struct fs))
  (hf:∀ (i:Nat) (f:Field),fs[i]?=some f→P.underlying f.type=some (.int .i64)∧f.offset=i∧P.cellsOf f.type=1) (hc:P.cellsOf t=fs.size)
  (h:DataW.trod enc P w 0 (fun _=>true) true n t cs=some y) :
  cs.length=fs.size∧∀ i,i<fs.size→∃ z,cs[i]?=some (.int .i64 z):=by
 obtain ⟨xs,k,_,_,hlen,hxs,hel⟩:=DataW.trod_struct hu h
 rw [hc] at hlen
 refine ⟨hlen,fun i hi=>?_⟩
 have hfi:fs[i]?=some fs[i]:=Array.getElem?_eq_getElem hi
 obtain ⟨h1,h2,h3⟩:=hf i _ hfi
 have h4:=hel i _ hfi
 rw [h2,h3] at h4
 have hx:xs[i]?=some (xs[i]'(by omega)):=List.getElem?_eq_getElem (by omega)
 rw [hx] at h4
 obtain ⟨z,h5,_,h6⟩:=DataW.trod_int h1 h4
 refine ⟨z,?_⟩
 have:=congrArg (fun l=>l[0]?) h5
 simpa [List.getElem?_take,List.getElem?_drop] using this
structure I2 where
 a:Int
 b:Int
def I2.cs (m:I2):List Value:=[.int .i64 m.a,.int .i64 m.b]
def I2.av (m:I2):AV:=.agg [.sc (.int .i64 m.a),.sc (.int .i64 m.b)]
structure I3 where
 a:Int
 b:Int
 c:Int
def I3.cs (m:I3):List Value:=[.int .i64 m.a,.int .i64 m.b,.int .i64 m.c]
def I3.av (m:I3):AV:=.agg [.sc (.int .i64 m.a),.sc (.int .i64 m.b),.sc (.int .i64 m.c)]
theorem read_span (n:Nat) (cs:List Value) (y:DataW H × List MemPlace) (h:DataW.trod enc Try.prog w 0 (fun _=>true) true n 59 cs=some y):∃ m:I2,cs=m.cs∧m.cs.length=2:=by
 obtain ⟨hl,hi⟩:=read_ints Try.underlying59 (by
  intro i e he
  match i,he with
  | 0,he=>simp at he; subst he; exact ⟨Try.underlying3,rfl,by kernel_rfl⟩
  | 1,he=>simp at he; subst he; exact ⟨Try.underlying3,rfl,by kernel_rfl⟩
  | i+2,he=>simp at he) (by kernel_rfl) h
 obtain ⟨a,ha⟩:=hi 0 (by simp)
 obtain ⟨b,hb⟩:=hi 1 (by simp)
 refine ⟨⟨a,b⟩,?_,rfl⟩
 match cs,hl,ha,hb with
 | [x,y],_,ha,hb=>simp at ha hb; subst ha hb; rfl
theorem read_box (n:Nat) (cs:List Value) (y:DataW H × List MemPlace) (h:DataW.trod enc Try.prog w 0 (fun _=>true) true n 43 cs=some y):∃ m:I3,cs=m.cs∧m.cs.length=3:=by
 obtain ⟨hl,hi⟩:=read_ints Try.underlying43 (by
  intro i e he
  match i,he with
  | 0,he=>simp at he; subst he; exact ⟨Try.underlying3,rfl,by kernel_rfl⟩
  | 1,he=>simp at he; subst he; exact ⟨Try.underlying3,rfl,by kernel_rfl⟩
  | 2,he=>simp at he; subst he; exact ⟨Try.underlying3,rfl,by kernel_rfl⟩
  | i+3,he=>simp at he) (by kernel_rfl) h
 obtain ⟨a,ha⟩:=hi 0 (by simp)
 obtain ⟨b,hb⟩:=hi 1 (by simp)
 obtain ⟨c,hc⟩:=hi 2 (by simp)
 refine ⟨⟨a,b,c⟩,?_,rfl⟩
 match cs,hl,ha,hb,hc with
 | [x,y,z],_,ha,hb,hc=>simp at ha hb hc; subst ha hb hc; rfl
def trOf (bs:List I3) (ls:List I2) (we rv re wo ti:Int):Tn :=
 ⟨bs.length,fun i=>(bs.getD i ⟨0,0,0⟩).a,fun i=>(bs.getD i ⟨0,0,0⟩).b,fun i=>(bs.getD i ⟨0,0,0⟩).c,we,rv,re,wo,ti,ls.length,fun i=>(ls.getD i ⟨0,0⟩).a,fun i=>(ls.getD i ⟨0,0⟩).b⟩
theorem bx_den (bs:List I3) (ls:List I2) (we rv re wo ti:Int):(bxL (trOf bs ls we rv re wo ti)).den=.isl 3 (bs.map I3.av):=by
 simp only [trOf,bxL,SV.den]
 congr 1
 apply List.ext_getElem
 ·simp
 ·intro i h1 h2
  simp at h1 h2
  simp [bxV,b6,SV.denL,SV.den,I3.av,h2]
theorem ld_den (bs:List I3) (ls:List I2) (we rv re wo ti:Int):(SV.lst 2 (trOf bs ls we rv re wo ti).nl (ldV (trOf bs ls we rv re wo ti))).den=.isl 2 (ls.map I2.av):=by
 simp only [trOf,SV.den]
 congr 1
 apply List.ext_getElem
 ·simp
 ·intro i h1 h2
  simp at h1 h2
  simp [ldV,b6,SV.denL,SV.den,I2.av,h2]
theorem int_fld {n:Nat} {c:Value} {x:DataW H × List MemPlace} (h:DataW.trod enc Try.prog w 0 (fun _=>true) true n 3 [c]=some x):∃ z,c=.int .i64 z:=by
 obtain ⟨z,h5,_,_⟩:=DataW.trod_int Try.underlying3 h
 exact ⟨z,by simpa using h5⟩
theorem cells3:Try.prog.cellsOf 3=1:=by kernel_rfl
theorem cells22:Try.prog.cellsOf 22=1:=by kernel_rfl
theorem cells23:Try.prog.cellsOf 23=1:=by kernel_rfl
theorem read_train {base:Nat} {v:Value} {d:DataW H} {p:List MemPlace} (hv:Value.okWide Try.prog w .any base 25 v) (h:DataW.Trod enc Try.prog w 0 (fun _=>true) true 25 v d p) :
  ∃ T:Tn,Rel (cellf w) (fun b=>b<w.heap.size) 0 noβ (tV T).den v:=by
 obtain ⟨fuel,h⟩:=h
 unfold Value.okWide at hv
 rw [Try.underlying25] at hv
 obtain ⟨cs,rfl,hsz,_⟩:=hv
 obtain ⟨xs,k,_,_,hlen,hxs,hel⟩:=DataW.trod_struct Try.underlying25 h
 simp at hxs
 have hsz2:cs.size=7:=by rw [hsz]; kernel_rfl
 have get:∀ i,i<7→∃ x,xs[i]?=some x:=fun i hi=>⟨_,List.getElem?_eq_getElem (by omega)⟩
 obtain ⟨L⟩:=cs
 match L,hsz2 with
 | [c0,c1,c2,c3,c4,c5,c6],_ =>
  have fld:∀ (i:Nat) (hi:i<7) (f:Field) {cs':List Value},xs[i]?=DataW.trod enc Try.prog w 0 (fun _=>true) true k f.type cs'→∃ y,DataW.trod enc Try.prog w 0 (fun _=>true) true k f.type cs'=some y:=fun i hi f cs' e=>by
   obtain ⟨x,hx⟩:=get i hi
   exact ⟨x,by rw [← e,hx]⟩
  obtain ⟨_,h0⟩:=fld 0 (by omega) _ (hel 0 _ rfl).symm
  obtain ⟨_,h1⟩:=fld 1 (by omega) _ (hel 1 _ rfl).symm
  obtain ⟨_,h2⟩:=fld 2 (by omega) _ (hel 2 _ rfl).symm
  obtain ⟨_,h3⟩:=fld 3 (by omega) _ (hel 3 _ rfl).symm
  obtain ⟨_,h4⟩:=fld 4 (by omega) _ (hel 4 _ rfl).symm
  obtain ⟨_,h5⟩:=fld 5 (by omega) _ (hel 5 _ rfl).symm
  obtain ⟨_,h6⟩:=fld 6 (by omega) _ (hel 6 _ rfl).symm
  replace h0:DataW.trod enc Try.prog w 0 (fun _=>true) true k 22 ([c0,c1,c2,c3,c4,c5,c6].take (Try.prog.cellsOf 22))=some _:=h0
  replace h1:DataW.trod enc Try.prog w 0 (fun _=>true) true k 3 ([c1,c2,c3,c4,c5,c6].take (Try.prog.cellsOf 3))=some _:=h1
  replace h2:DataW.trod enc Try.prog w 0 (fun _=>true) true k 3 ([c2,c3,c4,c5,c6].take (Try.prog.cellsOf 3))=some _:=h2
  replace h3:DataW.trod enc Try.prog w 0 (fun _=>true) true k 3 ([c3,c4,c5,c6].take (Try.prog.cellsOf 3))=some _:=h3
  replace h4:DataW.trod enc Try.prog w 0 (fun _=>true) true k 3 ([c4,c5,c6].take (Try.prog.cellsOf 3))=some _:=h4
  replace h5:DataW.trod enc Try.prog w 0 (fun _=>true) true k 3 ([c5,c6].take (Try.prog.cellsOf 3))=some _:=h5
  replace h6:DataW.trod enc Try.prog w 0 (fun _=>true) true k 23 ([c6].take (Try.prog.cellsOf 23))=some _:=h6
  rw [cells3] at h1 h2 h3 h4 h5
  rw [cells22] at h0
  rw [cells23] at h6
  obtain ⟨z1,rfl⟩:=int_fld h1
  obtain ⟨z2,rfl⟩:=int_fld h2
  obtain ⟨z3,rfl⟩:=int_fld h3
  obtain ⟨z4,rfl⟩:=int_fld h4
  obtain ⟨z5,rfl⟩:=int_fld h5
  obtain ⟨v0,bs,e0,r0,_,_⟩:=rel_slice I3.cs I3.av (fun m=>rfl) (show Try.prog.cellsOf 43=3 by kernel_rfl) (by omega) Try.underlying22 read_box h0
  obtain ⟨v6,ls,e6,r6,_,_⟩:=rel_slice I2.cs I2.av (fun m=>rfl) (show Try.prog.cellsOf 59=2 by kernel_rfl) (by omega) Try.underlying23 read_span h6
  simp at e0 e6
  subst e0 e6
  refine ⟨trOf bs ls z1 z2 z3 z4 z5,?_⟩
  rw [← bx_den bs ls z1 z2 z3 z4 z5] at r0
  rw [← ld_den bs ls z1 z2 z3 z4 z5] at r6
  exact RelL.agg (RelL.mk r0 (RelL.mk (.sc _) (RelL.mk (.sc _) (RelL.mk (.sc _) (RelL.mk (.sc _) (RelL.mk (.sc _) (RelL.mk r6 RelL.mk_nil)))))))
theorem own:ownKnob Try.prog.godebug=none:=by kernel_rfl
theorem laid:laidOutB Try.prog=true:=by kernel_rfl
theorem read25:Try.prog.readableRec 25=true∧25<Try.prog.types.size:=⟨by kernel_rfl,of_decide_eq_true (by kernel_rfl)⟩
end Go.Proofs.Ytpdcajchppoocaa
