import Derived.Test.YtpdcajchppoocaaLdLe
set_option linter.unusedVariables false
set_option linter.unusedSimpArgs false
namespace Go.Lg
variable {P:Program}

theorem fold_set (off:Nat):∀ (l:List Value) (k:Nat) (cells:Array Value),off+k+l.length≤cells.size →
  ((l.zipIdx k).foldl (fun cs (x:Value × Nat)=>cs.setIfInBounds (off+x.2) x.1) cells).toList=cells.toList.take (off+k) ++ l ++ cells.toList.drop (off+k+l.length)
 | [],k,cells,h=>by simp
 | v :: l,k,cells,h=>by
  simp only [List.zipIdx_cons,List.foldl_cons]
  simp only [List.length_cons] at h
  rw [fold_set off l (k+1) _ (by simp; omega)]
  have hlt:off+k<cells.toList.length:=by simp; omega
  have hset:(cells.setIfInBounds (off+k) v).toList=cells.toList.take (off+k) ++ v :: cells.toList.drop (off+k+1):=by
   rw [Array.toList_setIfInBounds,List.set_eq_take_append_cons_drop,if_pos hlt]
  rw [hset]
  have e1:(cells.toList.take (off+k) ++ v :: cells.toList.drop (off+k+1)).take (off+(k+1))=cells.toList.take (off+k) ++ [v]:=by
   rw [List.take_append]
   have:(cells.toList.take (off+k)).length=off+k:=by simp; omega
   rw [this,List.take_of_length_le (by omega),show off+(k+1) - (off+k)=1 by omega]; simp
  have e2:(cells.toList.take (off+k) ++ v :: cells.toList.drop (off+k+1)).drop (off+(k+1)+l.length)=cells.toList.drop (off+k+(l.length+1)):=by
   rw [List.drop_append]
   have:(cells.toList.take (off+k)).length=off+k:=by simp; omega
   rw [this,List.drop_eq_nil_of_le (by omega),show off+(k+1)+l.length - (off+k)=l.length+1 by omega]
   simp; congr 1; omega
  rw [e1,e2]; simp

theorem fold_cells (off:Nat) (vc cells:Array Value) (h:off+vc.size≤cells.size) :
  (vc.zipIdx.foldl (fun cs (x:Value × Nat)=>cs.setIfInBounds (off+x.2) x.1) cells).toList=cells.toList.take off ++ vc.toList ++ cells.toList.drop (off+vc.size):=by
 have:=fold_set off vc.toList 0 cells (by simpa using h)
 rw [← Array.foldl_toList,Array.toList_zipIdx]
 simpa using this

theorem RelL.append {c I N β l l' vs vs'} (h:RelL c I N β l vs) (h':RelL c I N β l' vs'):RelL c I N β (l ++ l') (vs ++ vs'):=by
 induction l generalizing vs with
 | nil=>rw [h.nil]; exact h'
 | cons a l ih =>
  obtain ⟨v,r,rfl,hv,hr⟩:=h.cons
  exact .mk hv (ih hr)
theorem RelL.take {c I N β l vs} (h:RelL c I N β l vs) (n:Nat):RelL c I N β (l.take n) (vs.take n):=by
 induction l generalizing vs n with
 | nil=>rw [h.nil]; simp; exact .mk_nil
 | cons a l ih =>
  obtain ⟨v,r,rfl,hv,hr⟩:=h.cons
  cases n with
  | zero=>simp; exact .mk_nil
  | succ n=>simp; exact .mk hv (ih hr n)
theorem RelL.drop {c I N β l vs} (h:RelL c I N β l vs) (n:Nat):RelL c I N β (l.drop n) (vs.drop n):=by
 induction l generalizing vs n with
 | nil=>rw [h.nil]; simp; exact .mk_nil
 | cons a l ih =>
  obtain ⟨v,r,rfl,hv,hr⟩:=h.cons
  cases n with
  | zero=>simp; exact .mk hv hr
  | succ n=>simp; exact ih hr n

def RelP (c:Nat→Nat→Option Value) (I:Nat→Prop) (N:Nat) (β:Nat→Option Loc) (l:List (Nat × AV)) (vs:List (Nat × Value)):Prop :=
 l.map (·.1)=vs.map (·.1)∧RelL c I N β (l.map (·.2)) (vs.map (·.2))
theorem RelP.nil {c I N β vs} (h:RelP c I N β [] vs):vs=[]:=by simpa using h.1.symm
theorem RelP.cons {c I N β a l vs} (h:RelP c I N β (a :: l) vs):∃ v r,vs=(a.1,v) :: r∧Rel c I N β a.2 v∧RelP c I N β l r:=by
 obtain ⟨h1,h2⟩:=h
 cases vs with
 | nil=>simp at h1
 | cons v r =>
  obtain ⟨i,v⟩:=v
  simp at h1 h2
  obtain ⟨v',r',e,hv,hr⟩:=h2.cons
  cases e
  exact ⟨v,r,by rw [h1.1],hv,h1.2,hr⟩

theorem fill_run {place:Nat→Option (Nat × Nat)} {c I N β}:∀ {parts:List (Nat × AV)} {vs:List (Nat × Value)} {cells:List AV} {cv:Array Value} {out:List AV},
  fillA place cells parts=some out→(∀ p ∈ parts,p.2.ok=true)→RelP c I N β parts vs→RelL c I N β cells cv.toList →
  ∃ ov,Instr.fill place cv vs=some ov∧RelL c I N β out ov.toList:=by
 intro parts
 induction parts with
 | nil=>intro vs cells cv out h _ hp hc; simp [fillA] at h; subst h; rw [hp.nil]; exact ⟨cv,rfl,hc⟩
 | cons p parts ih =>
  intro vs cells cv out h ho hp hc
  obtain ⟨v,r,rfl,hv,hr⟩:=hp.cons
  obtain ⟨i,x⟩:=p
  simp only [fillA] at h
  cases hpl:place i with
  | none=>simp [hpl] at h
  | some q =>
   obtain ⟨off,size⟩:=q
   simp only [hpl] at h
   split at h
   ·rename_i hcond
    obtain ⟨h1,h2⟩:=hcond
    obtain ⟨hx,hx1⟩:=ok_cells hv (ho (i,x) (by simp))
    have hsz:v.cells.size=size:=by have:=hx.1; simp at this; omega
    have hcs:cv.size=cells.length:=by simpa using hc.1
    have hfold:=fold_cells off v.cells cv (by omega)
    have hrel:RelL c I N β (cells.take off ++ x.cells ++ cells.drop (off+size)) (v.cells.zipIdx.foldl (fun cs (x:Value × Nat)=>cs.setIfInBounds (off+x.2) x.1) cv).toList:=by
     rw [hfold,hsz]; exact ((hc.take off).append hx).append (hc.drop _)
    obtain ⟨ov,h3,h4⟩:=ih h (fun q hq=>ho q (by simp [hq])) hr hrel
    refine ⟨ov,?_,h4⟩
    simp only [Instr.fill,hpl]
    rw [if_neg (by simp [hsz]; omega)]
    exact h3
   ·cases h

def zeroA (P:Program) (t:TypeId):Option AV:=((P.info? t).bind (·.zero)).map ofV

def placesOf (P:Program) (t:TypeId):Option (Nat→Option (Nat × Nat)) :=
 match P.underlying t with
 | some (.struct fs)=>if fs.all (fun f=>known P f.type) then some (fun i=>(fs[i]?).map fun (f:Field)=>(f.offset,P.cellsOf f.type)) else none
 | some (.array _ e)=>if known P e then some (fun i=>some (i*P.cellsOf e,P.cellsOf e)) else none
 | _=>none

def aBuild (P:Program) (t:TypeId) (parts:List (Nat × AV)) (v:AV):Prop :=
 ∃ z pl out,zeroA P t=some z∧z.ok=true∧placesOf P t=some pl∧(parts.all fun p=>p.2.ok)=true∧fillA pl z.cells parts=some out∧v=.agg out

theorem run_zero {t:TypeId} {z:AV} (h:zeroA P t=some z) (w:World):∃ u,(zeroValue t).run P w=.ok u w∧z=ofV u:=by
 unfold zeroA at h
 cases hi:P.info? t with
 | none=>simp [hi] at h
 | some i =>
  cases hz:i.zero with
  | none=>simp [hi,hz] at h
  | some u=>simp [hi,hz] at h; exact ⟨u,by simp [zeroValue,typeInfo,hi,hz],h.symm⟩

theorem mapM_places {w:World}:∀ (fs:List Field),(fs.all fun f=>known P f.type)=true →
  (fs.mapM fun (f:Field)=>(do pure (f.offset,← sizeOf f.type):Sem (Nat × Nat))).run P w=.ok (fs.map fun (f:Field)=>(f.offset,P.cellsOf f.type)) w
 | [],_=>by simp
 | f :: fs,h=>by
  simp at h
  have ih:=mapM_places (w:=w) fs (by simpa using h.2)
  simp at ih
  simp [run_sizeOf' h.1,ih]

theorem aBuild_run {t parts v} {w:World} {c I N β} {vs:List (Nat × Value)} (h:aBuild P t parts v) (hp:RelP c I N β parts vs) :
  ∃ u,(Instr.build t vs.toArray).run P w=.ok u w∧Rel c I N β v u:=by
 obtain ⟨z,pl,out,hz,hzo,hpl,hok,hf,rfl⟩:=h
 obtain ⟨zv,hzv,rfl⟩:=run_zero hz w
 have hzr:=(ok_cells (ofV_rel c I N β zv) hzo).1
 unfold placesOf at hpl
 obtain ⟨ov,h1,h2⟩:=fill_run (c:=c) (I:=I) (N:=N) (β:=β) hf (by simpa using hok) hp hzr
 split at hpl
 ·rename_i fs hu
  split at hpl
  ·rename_i hk
   cases hpl
   refine ⟨.agg ov,?_,h2.agg⟩
   have hm:=mapM_places (P:=P) (w:=w) fs.toList (by simpa using hk)
   have hfun:(fun (i:Nat)=>(fs[i]?).map fun (f:Field)=>(f.offset,P.cellsOf f.type))=(fun (i:Nat)=>(fs.map fun (f:Field)=>(f.offset,P.cellsOf f.type))[i]?):=by
    funext i; simp
   rw [hfun] at h1
   have hm':(fs.mapM fun (f:Field)=>(do pure (f.offset,← sizeOf f.type):Sem (Nat × Nat))).run P w=.ok (fs.map fun (f:Field)=>(f.offset,P.cellsOf f.type)) w:=by
    rw [Array.mapM_eq_mapM_toList,Sem.run_map,hm]; show Result.ok _ w=_; congr 1; exact Array.ext' (by simp)
   simp only [Instr.build,Sem.run_bind,hzv,Result.andThen_ok,run_underlying hu,hm']
   simp only [h1]
   rfl
  ·cases hpl
 ·rename_i n e hu
  split at hpl
  ·rename_i hk
   cases hpl
   refine ⟨.agg ov,?_,h2.agg⟩
   simp only [Instr.build,Sem.run_bind,hzv,Result.andThen_ok,run_underlying hu,run_sizeOf' hk]
   simp only [h1]
   rfl
  ·cases hpl
 ·cases hpl
end Go.Lg

namespace Go.Lg
variable {P:Program}

def methodOf (P:Program) (t:TypeId) (name:String):Option FuncId:=match P.info? t with
 | some i=>(match i.methods.find? (·.name == name) with
  | some m=>(match m.path.isEmpty,m.func,P.underlying t with
   | true,some (f,true),some (.pointer _)=>some f
   | true,some (f,false),some (.pointer _)=>none
   | true,some (f,false),some _=>some f
   | _,_,_=>none)
  | none=>none)
 | none=>none
theorem methodOf_run {t:TypeId} {name:String} {g:FuncId} (h:methodOf P t name=some g) (v:Value) (w:World) (n:Nat):(method (n+1) t v name).run P w=.ok (g,v) w:=by
 unfold methodOf at h
 split at h
 ·rename_i i hi
  split at h
  ·rename_i m hm
   have ht:(typeInfo t).run P w=.ok i w:=by simp [typeInfo,hi]
   have fin:∀ (f:FuncId) (pr:Bool),m.path.isEmpty=true→m.func=some (f,pr)→(receiverAt t (.val v) pr (if m.path.isEmpty then some ((name.splitOn ".").getLastD name) else none)).run P w=.ok v w →
     (method (n+1) t v name).run P w=.ok (f,v) w:=by
    intro f pr h1 h2 h3
    unfold method
    rw [Sem.run_bind,ht,Result.andThen_ok]
    have hp:m.path.toList=[]:=by simpa using h1
    simp only [hm,hp,follow]
    simp only [h2,pure_bind]
    rw [Sem.run_bind,h3]; rfl
   split at h
   ·rename_i f e h1 h2 h3
    cases h
    refine fin _ _ h1 h2 ?_
    unfold receiverAt
    rw [Sem.run_bind,run_underlying h3,Result.andThen_ok]
    rfl
   ·cases h
   ·rename_i f d hne h1 h2 h3
    cases h
    refine fin _ _ h1 h2 ?_
    unfold receiverAt
    rw [Sem.run_bind,run_underlying h3,Result.andThen_ok]
    cases d <;> first | rfl | exact absurd rfl (hne _)
   ·cases h
  ·cases h
 ·cases h

theorem methodOf_ahead {t:TypeId} {name:String} {g:FuncId} (h:methodOf P t name=some g) (v:Value) (w:World) (n:Nat):(nilAhead (n+1) t v name).run P w=.ok (some false) w:=by
 unfold methodOf at h
 split at h
 ·rename_i i hi
  split at h
  ·rename_i m hm
   have ht:(typeInfo t).run P w=.ok i w:=by simp [typeInfo,hi]
   split at h
   ·rename_i f e h1 h2 h3
    have hp:m.path.toList=[]:=by simpa using h1
    unfold nilAhead
    rw [Sem.run_bind,ht,Result.andThen_ok]
    simp only [hm,hp,followBlind,pure_bind,h2]
    rfl
   ·cases h
   ·rename_i f d hne h1 h2 h3
    have hp:m.path.toList=[]:=by simpa using h1
    unfold nilAhead
    rw [Sem.run_bind,ht,Result.andThen_ok]
    simp only [hm,hp,followBlind,pure_bind,h2]
    rw [Sem.run_bind,run_underlying h3,Result.andThen_ok]
    cases d <;> first | rfl | exact absurd rfl (hne _)
   ·cases h
  ·cases h
 ·cases h

def aPure (P:Program) (o:Oper) (ev:Operand→AV) (ρ:Store) (v:AV):Prop :=
 match o.op with
 | .move x=>v=ev x
 | .assign x=>v=ev x
 | .pick c a b=>(match ev c with
  | .sc (.bool t)=>v=if t then ev a else ev b
  | _=>False)
 | .load t x=>aLoad P t (ev x) ρ v
 | .nilCheck x=>(match ev x with
  | .ptr r i j=>v=.ptr r i j
  | .iptr c=>v=.iptr c
  | .clo (.method name) (.ifc t y :: fs) cs=>(methodOf P t name).isSome=true∧v=.clo (.method name) (.ifc t y :: fs) cs
  | _=>False)
 | .binOp op t x y _=>aBin P op t x y (ev x) (ev y) v
 | .unOp op _ x=>aUn P op (ev x) v
 | .convert s d x=>aConv P s d (ev x) v
 | .makeFunc fn fs cs=>v=.clo fn (fs.toList.map ev) (cs.toList.map ev)
 | .fieldAddr s x f=>aFieldAddr P s (ev x) f v
 | .field s x f=>aField P s (ev x) f v
 | .indexAddr t x i=>aIndexAddr P t (ev x) (ev i) ρ v
 | .index t x i=>aIndex P t (ev x) (ev i) v
 | .slice t x lo hi mx=>(mx=none∨sl3 P t (hi.map ev) (mx.map ev))∧(∀ r o n,ev x=.sl r o n→∃ R,ρ[r]?=some (some R)∧∀ e,P.underlying t=some (.slice e)→R.sz=P.cellsOf e)∧aSlice P t (ev x) (lo.map ev) (hi.map ev) v
 | .extract t i=>(match ev t with
  | .tup l=>l[i]?=some v
  | _=>False)
 | .build t parts=>aBuild P t (parts.toList.map fun p=>(p.1,ev p.2)) v
 | .call c=>(match c.callee with
  | .builtin b=>aBuiltin P b c.argTypes (c.args.toList.map ev) v
  | _=>False)
 | _=>False

theorem aPure_run {o:Oper} {A:List AV} {ρ:Store} {v:AV} {w F I β a} (h:aPure P o (aev A) ρ v) (hs:FRel w F I β a A ρ) :
  ∃ u,(execOp a.eval o).run P w=.ok (.value u) w∧Rel (cellf w) I ρ.length β v u:=by
 have ev:=hs.eval
 unfold aPure at h
 obtain ⟨dst,op,type,pos,after,guard⟩:=o
 simp only at h
 unfold execOp
 split at h
 ·subst h; exact ⟨_,rfl,ev _⟩
 ·subst h; exact ⟨_,rfl,ev _⟩
 ·rename_i c x y
  have hc:=ev c
  split at h
  ·rename_i t ht
   rw [ht] at hc
   generalize hvc:a.eval c=vc at hc
   cases hc
   subst h
   cases t
   ·exact ⟨_,by simp [asBool,hvc],ev _⟩
   ·exact ⟨_,by simp [asBool,hvc],ev _⟩
  ·exact h.elim
 ·obtain ⟨u,h1,h2⟩:=aLoad_run h hs.sr (ev _)
  exact ⟨u,by simp [h1],h2⟩
 ·rename_i x
  have hx:=ev x
  split at h
  ·rename_i r i j he
   rw [he] at hx; subst h
   generalize hvx:a.eval x=vx at hx
   cases hx with
   | ptr _ _ _ l hr hl=>exact ⟨_,by simp [hvx],.ptr _ _ _ l hr hl⟩
  ·rename_i cs he
   rw [he] at hx; subst h
   generalize hvx:a.eval x=vx at hx
   cases hx with
   | iptr _ b off vs hb hc hv=>exact ⟨_,by simp [hvx],.iptr _ b off vs hb hc hv⟩
  ·rename_i name t y fs cs he
   rw [he] at hx
   obtain ⟨hm,rfl⟩:=h
   obtain ⟨g,hg⟩:=Option.isSome_iff_exists.1 hm
   have hx':=hx
   generalize hvx:a.eval x=vx at hx
   cases hx with
   | clo _ _ _ us vs hm' hu hn hv =>
    have h0:=hu 0 (by simp)
    have hus:0<us.size:=by rw [hm']; simp
    have e0:us.getD 0 undef=us[0]:=by simp [Array.getD,hus]
    rw [e0] at h0
    have h0:Rel (cellf w) I ρ.length β (.ifc t y) us[0]:=by simpa using h0
    generalize hq:us[0]=q at h0
    cases h0 with
    | ifc _ _ z hz =>
     have e1:(us[0]?:Option Value)=some (.iface t z):=by rw [Array.getElem?_eq_getElem hus,hq]
     have hr:=methodOf_ahead hg z w (P.types.size+99)
     refine ⟨.func (.method name) us vs,?_,by rw [hvx] at hx'; exact hx'⟩
     have e4:(program).run P w=.ok P w:=rfl
     simp only [hvx,e1,Sem.run_bind,e4,Result.andThen_ok]
     rw [show P.types.size+Made.depth=P.types.size+99+1 from rfl,hr]
     rfl
  ·exact h.elim
 ·obtain ⟨u,h1,h2⟩:=aBin_run h (ev _) (ev _) w
  refine ⟨u,?_,h2 _ _ _ _⟩
  show (((do eqGuard _ _ _ _ _ _; binOp _ _ _ _:Sem Value) >>= fun r=>pure (Next.value r)):Sem Next).run P w=_
  rw [Sem.run_bind,h1]; rfl
 ·obtain ⟨u,h1,h2⟩:=aUn_run (w:=w) h (ev _)
  exact ⟨u,by simp [h1],h2⟩
 ·obtain ⟨u,h1,h2⟩:=aConv_run (w:=w) h (ev _)
  exact ⟨u,by simp [h1],h2⟩
 ·rename_i fn fs cs
  subst h
  have h1:=RelL.of_map A a.eval ev fs.toList
  have h2:=RelL.of_map A a.eval ev cs.toList
  refine ⟨.func fn (fs.map a.eval) (cs.map a.eval),by simp [Instr.makeFunc],?_⟩
  refine .clo fn _ _ _ _ (by simp) (fun j hj=>?_) (by simp) (fun j hj=>?_)
  ·have:=h1.2 j hj
   simp at hj
   simpa [Array.getD,List.getD,hj] using this
  ·have:=h2.2 j hj
   simp at hj
   simpa [Array.getD,List.getD,hj] using this
 ·obtain ⟨u,h1,h2⟩:=aFieldAddr_run h (ev _)
  exact ⟨u,by simp [h1],h2⟩
 ·obtain ⟨u,h1,h2⟩:=aField_run (w:=w) h (ev _)
  exact ⟨u,by simp [h1],h2⟩
 ·obtain ⟨u,h1,h2⟩:=aIndexAddr_run h hs.sr (ev _) (ev _)
  exact ⟨u,by simp [h1],h2⟩
 ·obtain ⟨u,h1,h2⟩:=aIndex_run (w:=w) h (ev _) (ev _)
  exact ⟨u,by simp [h1],h2⟩
 ·rename_i t x lo hi mx
  obtain ⟨h3,hroot,h⟩:=h
  rcases h3 with rfl | ⟨hus,k0,k1,z,he,hm⟩
  case inr =>
   obtain ⟨uh,rfl,e1⟩:∃ uh,hi=some uh∧aev A uh=.sc (.int k0 z):=by cases hi <;> simp_all
   obtain ⟨um,rfl,e2⟩:∃ um,mx=some um∧aev A um=.sc (.int k1 z):=by cases mx <;> simp_all
   have r1:=ev uh
   have r2:=ev um
   rw [e1] at r1
   rw [e2] at r2
   have q1:a.eval uh=.int k0 z:=by generalize a.eval uh=x1 at r1; cases r1; rfl
   have q2:a.eval um=.int k1 z:=by generalize a.eval um=x2 at r2; cases r2; rfl
   rw [he] at h
   obtain ⟨u,h1,h2⟩:=aSlice3_run (k1:=k1) (ul:=lo.map a.eval) hus h (ev _) (by cases lo; exact trivial; exact ev _)
    (fun r o n he l hl e hu=>by
     obtain ⟨R,hR,hz⟩:=hroot r o n he
     rw [← hz e hu]
     exact (hs.sr.real r R l hR hl).1)
   exact ⟨u,by simp [h1,q1,q2],h2⟩
  obtain ⟨u,h1,h2⟩:=aSlice_run (ul:=lo.map a.eval) (uh:=hi.map a.eval) h (ev _) (by cases lo; exact trivial; exact ev _) (by cases hi; exact trivial; exact ev _)
   (fun r o n he l hl e hu=>by
    obtain ⟨R,hR,hz⟩:=hroot r o n he
    rw [← hz e hu]
    exact (hs.sr.real r R l hR hl).1)
  exact ⟨u,by simp [h1],h2⟩
 ·rename_i t i
  have ht:=ev t
  split at h
  ·rename_i l he
   rw [he] at ht
   generalize hvt:a.eval t=vt at ht
   cases ht with
   | tup _ vs hn hv =>
    have hlt:i<l.length:=(List.getElem?_eq_some_iff.1 h).1
    have h1:=hv i hlt
    have e1:l.getD i .any=v:=by simp [List.getD,h]
    rw [e1] at h1
    have hlt2:i<vs.size:=by omega
    exact ⟨vs[i],by simp [Instr.extract,hvt,hlt2],by simpa [Array.getD,hlt2] using h1⟩
  ·exact h.elim
 ·rename_i t parts
  have hp:RelP (cellf w) I ρ.length β (parts.toList.map fun p=>(p.1,aev A p.2)) (parts.toList.map fun p=>(p.1,a.eval p.2)):=by
   refine ⟨by simp,?_⟩
   have:=RelL.of_map A a.eval ev (parts.toList.map (·.2))
   simpa [List.map_map,Function.comp_def] using this
  obtain ⟨u,h1,h2⟩:=aBuild_run (w:=w) h hp
  refine ⟨u,?_,h2⟩
  have e:(parts.toList.map fun p=>(p.1,a.eval p.2)).toArray=parts.map fun p=>(p.1,a.eval p.2):=Array.ext' (by simp)
  rw [e] at h1
  simp [h1]
 ·rename_i c
  split at h
  ·rename_i b hb
   have hl:=RelL.of_map A a.eval ev c.args.toList
   obtain ⟨cs0,e⟩:∃ cs0,resolve a.eval c type=pure { target:=.builtin b c.argTypes type cs0,args:=c.args.map a.eval }:=⟨_,by unfold resolve; rw [hb]⟩
   obtain ⟨u,h1,h2⟩:=aBuiltin_run (w:=w) (ty:=type) (cs:=cs0) (vs:=c.args.map a.eval) h (by simpa using hl)
   exact ⟨u,by simpa [e,invoke] using h1,h2⟩
  ·exact h.elim
 ·exact h.elim

theorem not_defer_of {o:Oper} {ρ:Operand→Value} {w w':World} {x:Next} (h:(execOp ρ o).run P w=.ok x w') (hx:∀ d,x≠.defer d):∀ c,o.op≠.defer c:=by
 intro c hc
 unfold execOp at h
 rw [hc] at h
 simp only [Sem.run_bind] at h
 cases hr:(resolve ρ c o.type).run P w with
 | ok d w1=>rw [hr] at h; simp only [Result.andThen,Sem.run_pure] at h; injection h with h1 _; exact hx _ h1.symm
 | halt q w1=>rw [hr] at h; simp only [Result.andThen] at h; cases h

theorem Oper.wpIn_value {o:Oper} {a:Act} {w w':World} {u:Value} {r:Option Nat} {n:Nat} {K:Act→World→Prop} {Q:Exit→Act→World→Prop}
  (h:(execOp a.eval o).run P w=.ok (.value u) w') (hk:K (a.put o.dst u) w'):o.wpIn (fz r) n P a w K Q:=by
 refine ⟨fun _ _=>trivial,?_⟩
 rw [Oper.semAt_eq _ _ _ (not_defer_of h (by simp)),h]; exact hk
theorem Oper.wpIn_skip {o:Oper} {a:Act} {w w':World} {r:Option Nat} {n:Nat} {K:Act→World→Prop} {Q:Exit→Act→World→Prop}
  (h:(execOp a.eval o).run P w=.ok .skip w') (hk:K (a.put o.dst undef) w'):o.wpIn (fz r) n P a w K Q:=by
 refine ⟨fun _ _=>trivial,?_⟩
 rw [Oper.semAt_eq _ _ _ (not_defer_of h (by simp)),h]; exact hk
theorem Oper.wpIn_enter {o:Oper} {a:Act} {w:World} {f:FuncId} {vals:Array Value} {r:Option Nat} {n:Nat} {K:Act→World→Prop} {Q:Exit→Act→World→Prop}
  (h:(execOp a.eval o).run P w=.ok (.enter f vals) w) {R:Ending→World→Prop} (hc:Calls P f vals w R) (hR:∀ e w',R e w'→∃ v,e=.returned v∧K (a.put o.dst v) w'):o.wpIn (fz r) n P a w K Q:=by
 refine ⟨fun _ _=>trivial,?_⟩
 rw [Oper.semAt_eq _ _ _ (not_defer_of h (by simp)),h,Oper.uponIn_enter]
 refine ⟨fun h=>by simp [fz,Fence.wide] at h,?_⟩
 have h1:CallsIn (fz r) (n - 1) P f vals w R:=(callsIn_wide (n:=n - 1)).2 hc
 refine h1.mono ?_
 intro e w' he
 obtain ⟨v,rfl,hk⟩:=hR e w' he
 exact hk
end Go.Lg
