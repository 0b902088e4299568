import Derived.Test.YtbedomoilakcaaaIg
import Derived.Test.YtbedomoilakcaaaJaJaVJbTJbJdJdVJetJe
set_option linter.unusedVariables false
set_option linter.unusedSimpArgs false
set_option maxRecDepth 100000
namespace Go.Proofs.Ytbedomoilakcaaa
open Go.Lg Go.ChangeShapes Go.WideShapes Go.ChangeAt Go.RowKit
attribute [local irreducible] bodyH funS
variable {H:Type} {enc:TypeId × Value→H} {w:World}
theorem rel_sliceR {T:Type} {t e:TypeId} {S:Nat} (av:T→AV) (hS:Try.prog.cellsOf e=S) (hS0:0<S)
  (ht:Try.prog.underlying t=some (.slice e)) (hE:∀ n cs y,DataW.trod enc Try.prog w 0 (fun _=>true) true n e cs=some y→∃ m:T,cs.length=S∧(av m).cells.length=S∧∀ j,j<S→Rel (cellf w) (fun b=>b<w.heap.size) 0 noβ ((av m).cells.getD j .any) (cs.getD j undef))
  {fuel:Nat} {cs:List Value} {x:DataW H × List MemPlace} (h:DataW.trod enc Try.prog w 0 (fun _=>true) true fuel t cs=some x) :
  ∃ (v:Value) (ms:List T),cs=[v]∧Rel (cellf w) (fun b=>b<w.heap.size) 0 noβ (.isl S (ms.map av)) v:=by
 rcases Go.Deep.open_slice ht h with ⟨rfl,_⟩ | ⟨a,len,cap,m,n,D,Pl,rfl,_,hlc,hcm,hm,_,hx⟩
 ·exact ⟨_,[],rfl,.islz _ _⟩
 ·simp only [if_true] at hm
  have hex:∀ i,i<cap→∃ y:T × List Value,w.cells? 0 (a.add (i*S)) S=some y.2∧y.2.length=S∧(av y.1).cells.length=S∧∀ j,j<S→Rel (cellf w) (fun b=>b<w.heap.size) 0 noβ ((av y.1).cells.getD j .any) (y.2.getD j undef):=by
   intro i hi
   obtain ⟨cs',h1,h2⟩:=hx i (by rw [hm]; exact hi)
   obtain ⟨y,q1,q2,q3⟩:=hE _ _ _ h2
   rw [hS] at h1
   exact ⟨(y,cs'),h1,q1,q2,q3⟩
  obtain ⟨F,hF⟩:∃ F:(i:Nat)→i<cap→T × List Value,∀ i hi,w.cells? 0 (a.add (i*S)) S=some (F i hi).2∧(F i hi).2.length=S∧(av (F i hi).1).cells.length=S∧∀ j,j<S→Rel (cellf w) (fun b=>b<w.heap.size) 0 noβ ((av (F i hi).1).cells.getD j .any) ((F i hi).2.getD j undef):=⟨fun i hi=>(hex i hi).choose,fun i hi=>(hex i hi).choose_spec⟩
  clear hex hx h
  have hlt:∀ i (hi:i<cap) j,j<S→w.cell? ((a.add (i*S)).add j)=(F i hi).2[j]?:=fun i hi j hj=>(World.cells?_some (hF i hi).1).2.2 j hj
  have hsome:∀ i (hi:i<cap) j,j<S→∃ u,(F i hi).2[j]?=some u:=fun i hi j hj=>by
   have:=(hF i hi).2.1
   exact ⟨_,List.getElem?_eq_getElem (by omega)⟩
  by_cases hc0:cap=0
  ·subst hc0
   have:len=0:=by omega
   subst this
   exact ⟨_,[],rfl,.islz _ _⟩
  have hspot:a.spot=none∧a.block<w.heap.size:=by
   obtain ⟨u,hu⟩:=hsome 0 (by omega) 0 hS0
   have h1:=hlt 0 (by omega) 0 hS0
   rw [hu] at h1
   simp only [Nat.zero_mul,Addr.add,if_true] at h1
   unfold World.cell? at h1
   split at h1
   ·rename_i c e' fz hb
    refine ⟨?_,(Array.getElem?_eq_some_iff.1 hb).1⟩
    cases hs:a.spot with
    | none=>rfl
    | some q=>simp [hs] at h1
   ·cases h1
  obtain ⟨b,off,sp⟩:=a
  obtain ⟨rfl,hblk⟩:=hspot
  have hcell:∀ i (hi:i<cap) j,j<S→cellf w b (off+i*S+j)=(F i hi).2[j]?:=by
   intro i hi j hj
   have:=hlt i hi j hj
   rw [add_none,add_none] at this
   exact this
  have hpm:∀ i ∈ List.range len,i<cap:=by
   intro i hi
   have:i<len:=by simpa using hi
   omega
  let ms:List T:=(List.range len).pmap (fun i hi=>(F i hi).1) hpm
  have hml:ms.length=len:=by simp [ms]
  have hmap:∀ i (hi:i<len),(ms.map av).getD i .any=av (F i (by omega)).1:=by
   intro i hi
   unfold List.getD
   rw [List.getElem?_map]
   simp only [ms,List.getElem?_pmap]
   simp [hi]
  refine ⟨_,ms,rfl,?_⟩
  have hl2:(ms.map av).length=len:=by simp [hml]
  rw [← hl2]
  refine .isl S _ b off cap (fun i j=>(cellf w b (off+i*S+j)).getD undef) hblk (by omega) (fun i hi=>?_) (fun i hi j hj=>?_) (fun i hi j hj=>?_)
  ·rw [hl2] at hi
   rw [hmap i hi]; exact (hF i (by omega)).2.2.1
  ·rw [hl2] at hi
   obtain ⟨u,hu⟩:=hsome i (by omega) j hj
   rw [hcell i (by omega) j hj,hu]; rfl
  ·rw [hl2] at hi
   rw [hmap i hi,hcell i (by omega) j hj]
   have:=(hF i (by omega)).2.2.2 j hj
   simpa [List.getD] using this
structure CT where
 t:Tw
def CT.cs (c:CT):List Value:=[.int .i64 c.t.lo,.int .i64 c.t.hi]
def CT.av (c:CT):AV:=.agg [.sc (.int .i64 c.t.lo),.sc (.int .i64 c.t.hi)]
theorem read_ct (n:Nat) (cs:List Value) (y:DataW H × List MemPlace) (h:DataW.trod enc Try.prog w 0 (fun _=>true) true n 41 cs=some y):∃ m:CT,cs=m.cs∧m.cs.length=2:=by
 have hl:cs.length=2:=by
  obtain ⟨xs,k,_,_,hlen,hxs,hel⟩:=DataW.trod_struct Try.underlying41 h
  rw [hlen]; kernel_rfl
 match cs,hl with
 | [c0,c1],_ =>
  obtain ⟨a,b,rfl,rfl,_,_⟩:=spn_fld h
  exact ⟨⟨⟨a,b⟩⟩,rfl,rfl⟩
def twC (ms:List CT) (i:Nat):Tw:=match ms[i]? with
 | some m=>m.t
 | none=>⟨0,0⟩
theorem tw_den (ms:List CT):(twL ms.length (twC ms)).den=.isl 2 (ms.map CT.av):=by
 simp only [twL,SV.den]
 congr 1
 apply List.ext_getElem
 ·simp
 ·intro i h1 h2
  simp at h1 h2
  simp [twC,Tw.sv,SV.denL,SV.den,CT.av,h2]
theorem read_tws {fuel:Nat} {cs:List Value} {y:DataW H × List MemPlace} (h:DataW.trod enc Try.prog w 0 (fun _=>true) true fuel 35 cs=some y):∃ (v:Value) (n:Nat) (f:Nat→Tw),cs=[v]∧Rel (cellf w) (fun b=>b<w.heap.size) 0 noβ (twL n f).den v:=by
 obtain ⟨v',ms,e,hr,_,_⟩:=rel_slice CT.cs CT.av (fun m=>rfl) cells41 (by omega) Try.underlying35 read_ct h
 exact ⟨v',ms.length,twC ms,e,by rw [tw_den]; exact hr⟩
theorem cells35:Try.prog.cellsOf 35=1:=by kernel_rfl
theorem read_sti (n:Nat) (cs:List Value) (y:DataW H × List MemPlace) (h:DataW.trod enc Try.prog w 0 (fun _=>true) true n 48 cs=some y):∃ m:Sti,cs.length=5∧(m.sv.den).cells.length=5∧∀ j,j<5→Rel (cellf w) (fun b=>b<w.heap.size) 0 noβ ((m.sv.den).cells.getD j .any) (cs.getD j undef):=by
 obtain ⟨xs,k,_,_,hlen,hxs,hel⟩:=DataW.trod_struct Try.underlying48 h
 simp at hxs
 have hsz2:cs.length=5:=by rw [hlen]; kernel_rfl
 have get:∀ i,i<5→∃ x,xs[i]?=some x:=fun i hi=>⟨_,List.getElem?_eq_getElem (by omega)⟩
 match cs,hsz2 with
 | [c0,c1,c2,c3,c4],_ =>
  have fld:∀ (i:Nat) (hi:i<5) (f:Field) {cs':List Value},xs[i]?=DataW.trod enc Try.prog w 0 (fun _=>true) true k f.type cs'→∃ y,DataW.trod enc Try.prog w 0 (fun _=>true) true k f.type cs'=some y:=fun i hi f cs' e=>by
   obtain ⟨x,hx⟩:=get i hi
   exact ⟨x,by rw [← e,hx]⟩
  obtain ⟨_,h0⟩:=fld 0 (by omega) _ (hel 0 _ rfl).symm
  obtain ⟨_,h1⟩:=fld 1 (by omega) _ (hel 1 _ rfl).symm
  obtain ⟨_,h2⟩:=fld 2 (by omega) _ (hel 2 _ rfl).symm
  obtain ⟨_,h3⟩:=fld 3 (by omega) _ (hel 3 _ rfl).symm
  obtain ⟨_,h4⟩:=fld 4 (by omega) _ (hel 4 _ rfl).symm
  replace h0:DataW.trod enc Try.prog w 0 (fun _=>true) true k 3 ([c0,c1,c2,c3,c4].take (Try.prog.cellsOf 3))=some _:=h0
  replace h1:DataW.trod enc Try.prog w 0 (fun _=>true) true k 3 ([c1,c2,c3,c4].take (Try.prog.cellsOf 3))=some _:=h1
  replace h2:DataW.trod enc Try.prog w 0 (fun _=>true) true k 35 ([c2,c3,c4].take (Try.prog.cellsOf 35))=some _:=h2
  replace h3:DataW.trod enc Try.prog w 0 (fun _=>true) true k 3 ([c3,c4].take (Try.prog.cellsOf 3))=some _:=h3
  replace h4:DataW.trod enc Try.prog w 0 (fun _=>true) true k 3 ([c4].take (Try.prog.cellsOf 3))=some _:=h4
  rw [cells3] at h0 h1 h3 h4
  rw [cells35] at h2
  obtain ⟨z0,rfl,_⟩:=int_fld h0
  obtain ⟨z1,rfl,_⟩:=int_fld h1
  obtain ⟨v,n,f,e,hr⟩:=read_tws h2
  obtain ⟨z3,rfl,_⟩:=int_fld h3
  obtain ⟨z4,rfl,_⟩:=int_fld h4
  have e:c2=v:=by simpa using e
  subst e
  refine ⟨⟨z0,z1,n,f,z3,z4⟩,rfl,rfl,fun j hj=>?_⟩
  have hj:j=0∨j=1∨j=2∨j=3∨j=4:=by omega
  rcases hj with rfl | rfl | rfl | rfl | rfl
  ·exact .sc _
  ·exact .sc _
  ·exact hr
  ·exact .sc _
  ·exact .sc _
def stiF (ms:List Sti) (i:Nat):Sti:=match ms[i]? with
 | some m=>m
 | none=>⟨0,0,0,fun _=>⟨0,0⟩,0,0⟩
theorem sti_den (ms:List Sti):(stiL ms.length (stiF ms)).den=.isl 5 (ms.map fun m=>m.sv.den):=by
 simp only [stiL,SV.den]
 congr 1
 apply List.ext_getElem
 ·simp
 ·intro i h1 h2
  simp at h1 h2
  simp [stiF,h2]
theorem read_stis {fuel:Nat} {cs:List Value} {y:DataW H × List MemPlace} (h:DataW.trod enc Try.prog w 0 (fun _=>true) true fuel 23 cs=some y):∃ (v:Value) (n:Nat) (f:Nat→Sti),cs=[v]∧Rel (cellf w) (fun b=>b<w.heap.size) 0 noβ (stiL n f).den v:=by
 obtain ⟨v',ms,e,hr⟩:=rel_sliceR (fun m:Sti=>m.sv.den) (show Try.prog.cellsOf 48=5 by kernel_rfl) (by omega) Try.underlying23 read_sti h
 exact ⟨v',ms.length,stiF ms,e,by rw [sti_den]; exact hr⟩
def Sal.cs (c:Sal):List Value:=[.int .i64 c.good,.int .i64 c.most,.int .i64 c.price]
def Sal.av (c:Sal):AV:=.agg [.sc (.int .i64 c.good),.sc (.int .i64 c.most),.sc (.int .i64 c.price)]
theorem read_sal (n:Nat) (cs:List Value) (y:DataW H × List MemPlace) (h:DataW.trod enc Try.prog w 0 (fun _=>true) true n 51 cs=some y):∃ m:Sal,cs=m.cs∧m.cs.length=3:=by
 obtain ⟨xs,k,_,_,hlen,hxs,hel⟩:=DataW.trod_struct Try.underlying51 h
 simp at hxs
 have hsz2:cs.length=3:=by rw [hlen]; kernel_rfl
 have get:∀ i,i<3→∃ x,xs[i]?=some x:=fun i hi=>⟨_,List.getElem?_eq_getElem (by omega)⟩
 match cs,hsz2 with
 | [c0,c1,c2],_ =>
  have fld:∀ (i:Nat) (hi:i<3) (f:Field) {cs':List Value},xs[i]?=DataW.trod enc Try.prog w 0 (fun _=>true) true k f.type cs'→∃ y,DataW.trod enc Try.prog w 0 (fun _=>true) true k f.type cs'=some y:=fun i hi f cs' e=>by
   obtain ⟨x,hx⟩:=get i hi
   exact ⟨x,by rw [← e,hx]⟩
  obtain ⟨_,h0⟩:=fld 0 (by omega) _ (hel 0 _ rfl).symm
  obtain ⟨_,h1⟩:=fld 1 (by omega) _ (hel 1 _ rfl).symm
  obtain ⟨_,h2⟩:=fld 2 (by omega) _ (hel 2 _ rfl).symm
  replace h0:DataW.trod enc Try.prog w 0 (fun _=>true) true k 3 ([c0,c1,c2].take (Try.prog.cellsOf 3))=some _:=h0
  replace h1:DataW.trod enc Try.prog w 0 (fun _=>true) true k 3 ([c1,c2].take (Try.prog.cellsOf 3))=some _:=h1
  replace h2:DataW.trod enc Try.prog w 0 (fun _=>true) true k 3 ([c2].take (Try.prog.cellsOf 3))=some _:=h2
  rw [cells3] at h0 h1 h2
  obtain ⟨z0,rfl,_⟩:=int_fld h0
  obtain ⟨z1,rfl,_⟩:=int_fld h1
  obtain ⟨z2,rfl,_⟩:=int_fld h2
  exact ⟨⟨z0,z1,z2⟩,rfl,rfl⟩
def salF (ms:List Sal) (i:Nat):Sal:=match ms[i]? with
 | some m=>m
 | none=>⟨0,0,0⟩
theorem sal_den (ms:List Sal):(salL ms.length (salF ms)).den=.isl 3 (ms.map Sal.av):=by
 simp only [salL,SV.den]
 congr 1
 apply List.ext_getElem
 ·simp
 ·intro i h1 h2
  simp at h1 h2
  simp [salF,Sal.sv,SV.denL,SV.den,Sal.av,h2]
theorem read_sals {fuel:Nat} {cs:List Value} {y:DataW H × List MemPlace} (h:DataW.trod enc Try.prog w 0 (fun _=>true) true fuel 24 cs=some y):∃ (v:Value) (n:Nat) (f:Nat→Sal),cs=[v]∧Rel (cellf w) (fun b=>b<w.heap.size) 0 noβ (salL n f).den v:=by
 obtain ⟨v',ms,e,hr,_,_⟩:=rel_slice Sal.cs Sal.av (fun m=>rfl) (show Try.prog.cellsOf 51=3 by kernel_rfl) (by omega) Try.underlying24 read_sal h
 exact ⟨v',ms.length,salF ms,e,by rw [sal_den]; exact hr⟩
theorem read_ints {fuel:Nat} {cs:List Value} {y:DataW H × List MemPlace} (h:DataW.trod enc Try.prog w 0 (fun _=>true) true fuel 22 cs=some y):∃ (v:Value) (n:Nat) (f:Nat→Int),cs=[v]∧Rel (cellf w) (fun b=>b<w.heap.size) 0 noβ (iL n f).den v:=by
 obtain ⟨v',ms,e,hr,_,_⟩:=rel_slice (UC.cs (K:=.i64)) UC.av (fun m=>rfl) cells3 (by omega) Try.underlying22 (read_uc Try.underlying3) h
 refine ⟨v',ms.length,ucF ms,e,?_⟩
 have:(iL ms.length (ucF ms)).den=.isl 1 (ms.map UC.av):=uc_den ms
 rw [this]; exact hr
theorem cells22:Try.prog.cellsOf 22=1:=by kernel_rfl
theorem cells23:Try.prog.cellsOf 23=1:=by kernel_rfl
theorem cells24:Try.prog.cellsOf 24=1:=by kernel_rfl
theorem read_yd {base:Nat} {v:Value} {d:DataW H} {p:List MemPlace} (hv:Value.okWide Try.prog w .any base 26 v) (h:DataW.Trod enc Try.prog w 0 (fun _=>true) true 26 v d p) :
  ∃ Y:Yd,Rel (cellf w) (fun b=>b<w.heap.size) 0 noβ Y.sv.den v:=by
 obtain ⟨fuel,h⟩:=h
 unfold Value.okWide at hv
 rw [Try.underlying26] at hv
 obtain ⟨cs,rfl,hsz,_⟩:=hv
 obtain ⟨xs,k,_,_,hlen,hxs,hel⟩:=DataW.trod_struct Try.underlying26 h
 simp at hxs
 have hsz2:cs.size=3:=by rw [hsz]; kernel_rfl
 have get:∀ i,i<3→∃ x,xs[i]?=some x:=fun i hi=>⟨_,List.getElem?_eq_getElem (by omega)⟩
 obtain ⟨L⟩:=cs
 match L,hsz2 with
 | [c0,c1,c2],_ =>
  have fld:∀ (i:Nat) (hi:i<3) (f:Field) {cs':List Value},xs[i]?=DataW.trod enc Try.prog w 0 (fun _=>true) true k f.type cs'→∃ y,DataW.trod enc Try.prog w 0 (fun _=>true) true k f.type cs'=some y:=fun i hi f cs' e=>by
   obtain ⟨x,hx⟩:=get i hi
   exact ⟨x,by rw [← e,hx]⟩
  obtain ⟨_,h0⟩:=fld 0 (by omega) _ (hel 0 _ rfl).symm
  obtain ⟨_,h1⟩:=fld 1 (by omega) _ (hel 1 _ rfl).symm
  obtain ⟨_,h2⟩:=fld 2 (by omega) _ (hel 2 _ rfl).symm
  replace h0:DataW.trod enc Try.prog w 0 (fun _=>true) true k 22 ([c0,c1,c2].take (Try.prog.cellsOf 22))=some _:=h0
  replace h1:DataW.trod enc Try.prog w 0 (fun _=>true) true k 23 ([c1,c2].take (Try.prog.cellsOf 23))=some _:=h1
  replace h2:DataW.trod enc Try.prog w 0 (fun _=>true) true k 24 ([c2].take (Try.prog.cellsOf 24))=some _:=h2
  rw [cells22] at h0
  rw [cells23] at h1
  rw [cells24] at h2
  obtain ⟨v0,n0,f0,e0,r0⟩:=read_ints h0
  obtain ⟨v1,n1,f1,e1,r1⟩:=read_stis h1
  obtain ⟨v2,n2,f2,e2,r2⟩:=read_sals h2
  have e0:c0=v0:=by simpa using e0
  have e1:c1=v1:=by simpa using e1
  have e2:c2=v2:=by simpa using e2
  subst e0 e1 e2
  refine ⟨⟨n0,f0,n1,f1,n2,f2⟩,?_⟩
  simp only [Yd.sv,Yd.cells,SV.den,SV.denL]
  exact RelL.agg (RelL.mk r0 (RelL.mk r1 (RelL.mk r2 RelL.mk_nil)))
end Go.Proofs.Ytbedomoilakcaaa
