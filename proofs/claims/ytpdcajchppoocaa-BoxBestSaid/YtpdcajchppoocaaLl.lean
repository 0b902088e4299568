import Derived.Test.YtpdcajchppoocaaLk
set_option linter.unusedVariables false
set_option linter.unusedSimpArgs false
namespace Go.Lg
variable {P:Program}

def aMakeSlice (P:Program) (t:TypeId) (l c:AV) (ρ:Store) (v:AV) (ρ':Store):Prop :=
 ∃ e z k n k' m,P.underlying t=some (.slice e)∧known P e=true∧zeroA P e=some z∧z.ok=true∧z.cells.length=P.cellsOf e∧l=.sc (.int k n)∧c=.sc (.int k' m) ∧
  0≤n∧n≤m∧m≤4611686018427387904∧m*P.bytesOf e≤140737488355328∧v=.sl ρ.length 0 n.toNat∧ρ'=ρ ++ [some ⟨P.cellsOf e,List.replicate n.toNat z,none⟩]

theorem map_range0 {α} (f:Nat→α):Array.map f (Array.range 0)=#[]:=by apply Array.ext'; simp

theorem zero_cells (zero:Array Value) (n S:Nat) (h:zero.size=S) (i j:Nat) (hi:i<n) (hj:j<S) :
  ((Array.range (n*S)).map (fun k=>zero[k % zero.size]!))[i*S+j]?=some (zero.getD j undef):=by
 have hlt:i*S+j<n*S:=by
  have:(i+1)*S≤n*S:=Nat.mul_le_mul_right _ hi
  rw [Nat.add_mul] at this; omega
 have e:(i*S+j) % S=j:=by rw [Nat.mul_comm,Nat.mul_add_mod,Nat.mod_eq_of_lt hj]
 rw [Array.getElem?_eq_getElem (by simpa using hlt)]
 simp only [Array.getElem_map,Array.getElem_range]
 rw [h,e]
 have hj':j<zero.size:=by omega
 simp [Array.getD,hj',getElem!_pos]

theorem aMakeSlice_step {o:Oper} {t:TypeId} {l c:Operand} {w F I β a A ρ v ρ'} (ho:o.op=.makeSlice t l c) (hs:FRel w F I β a A ρ) (h:aMakeSlice P t (aev A l) (aev A c) ρ v ρ'):Step P o a w F I β ρ v ρ':=by
 obtain ⟨e,z,k,n,k',m,hu,hk,hz,hzo,hzl,hl,hc,h0,hnm,hm,hby,rfl,rfl⟩:=h
 have hvl:=hs.eval l
 have hvc:=hs.eval c
 rw [hl] at hvl
 rw [hc] at hvc
 obtain ⟨i,hi⟩:=info_of_known hk
 have hisz:P.cellsOf e=i.size:=by simp [Program.cellsOf,hi]
 have hiby:P.bytesOf e=i.bytes:=by simp [Program.bytesOf,hi]
 rw [hisz] at hzl
 rw [hiby] at hby
 simp only [hisz]
 obtain ⟨zv,hzrun,rfl⟩:=run_zero hz w
 have hzr:=(ok_cells (ofV_rel (cellf w) I ρ.length β zv) hzo).1
 have hzvs:zv.cells.size=i.size:=by have:=hzr.1; simp at this; omega
 generalize hel:a.eval l=vl at hvl
 generalize hec:a.eval c=vc at hvc
 cases hvl; cases hvc
 have wn:IntKind.i64.wrap n=n:=IntWalk.i64_in _ (by omega)
 have wm:IntKind.i64.wrap m=m:=IntWalk.i64_in _ (by omega)
 have mul1:(i.bytes:Int)*m≤281474976710656:=by rw [Int.mul_comm]; omega
 have mul2:(i.bytes:Int)*n≤(i.bytes:Int)*m:=Int.mul_le_mul_of_nonneg_left hnm (by omega)
 have c1:¬ (m<0):=by omega
 have c2:¬ (281474976710656<(i.bytes:Int)*m):=by omega
 have c3:¬ (n<0):=by omega
 have c4:¬ (m<n):=by omega
 have hrun:∃ C,(Instr.makeSlice t (.int k n) (.int k' m)).run P w=.ok (.slice (some ⟨w.heap.size,0,none⟩) n.toNat m.toNat) (w.alloc (.cells C e))∧C.size=m.toNat*i.size ∧
   (∀ x j,x<m.toNat→j<i.size→C[x*i.size+j]?=some (zv.cells.getD j undef)):=by
  by_cases hn0:m.toNat*i.size=0
  ·refine ⟨#[],?_,by simp [hn0],fun x j hx hj=>?_⟩
   ·simp [Instr.makeSlice,run_underlying hu,asInt,asIntOf,typeInfo,hi,wn,wm,c1,c2,c3,c4,sizeOf,hn0,newRow,map_range0]
   ·rcases Nat.mul_eq_zero.1 hn0 with h | h <;> omega
  ·refine ⟨(Array.range (m.toNat*i.size)).map (fun k=>zv.cells[k % zv.cells.size]!),?_,by simp,fun x j hx hj=>zero_cells _ _ _ hzvs _ _ hx hj⟩
   simp [Instr.makeSlice,run_underlying hu,asInt,asIntOf,typeInfo,hi,wn,wm,c1,c2,c3,c4,sizeOf,hn0,newRow,zeroValue] at hzrun ⊢
   cases hz0:i.zero with
   | none=>simp [hz0] at hzrun
   | some q=>simp [hz0] at hzrun; subst hzrun; simp
 obtain ⟨C,hrun,hCs,hC⟩:=hrun
 have hnew:=hs.sr.newRoot C e i.size (List.replicate n.toNat (ofV zv)) (fun x hx=>by
  simp at hx
  have e1:(List.replicate n.toNat (ofV zv)).getD x .any=ofV zv:=by simp [List.getD,hx]
  rw [e1]
  refine ⟨hzl,fun j hj=>⟨_,hC x j (by omega) hj,?_⟩⟩
  have:=hzr.2 j (by omega)
  have hj':j<zv.cells.size:=by omega
  simpa [List.getD,Array.getD,hj'] using this)
 have hlen:(ρ ++ [some (⟨i.size,List.replicate n.toNat (ofV zv),none⟩:Root)]).length=ρ.length+1:=by simp
 have hg:=Grow.alloc_root w (.cells C e) I ρ.length β (some ⟨w.heap.size,0,i.size⟩)
 refine ⟨_,_,I,_,.inl (by unfold execOp; simp [ho,hel,hec,hrun]; rfl),Keeps.alloc w _ hs.sr.flt,by rw [hlen]; exact hg,hnew,?_⟩
 rw [hlen]
 have:=Rel.sl (c:=cellf (w.alloc (.cells C e))) (I:=I) (N:=ρ.length+1) (β:=bext β ρ.length (some ⟨w.heap.size,0,i.size⟩)) ρ.length 0 n.toNat m.toNat ⟨w.heap.size,0,i.size⟩ (by omega) bext_new (by omega)
  (fun k hk=>by
   simp only [Nat.zero_mul,Nat.add_zero,Nat.zero_add]
   rw [cellf_new,Array.getElem?_eq_getElem (by rw [hCs]; exact hk)]; rfl)
 simpa using this

def aLit (P:Program) (t:TypeId) (len:Nat) (parts:List (Nat × AV)) (ρ:Store) (v:AV) (ρ':Store):Prop :=
 ∃ e z,P.underlying t=some (.slice e)∧known P e=true∧zeroA P e=some z∧len*P.cellsOf e≤16777216∧parts.map (·.1)=List.range len∧(parts.all fun p=>p.2.ok)=true ∧
  (parts.all fun p=>p.2.cells.length == P.cellsOf e)=true ∧
  ((len=0∧v=.sl ρ.length 0 0∧ρ'=ρ ++ [some ⟨P.cellsOf e,[],none⟩])∨(len≠0∧v=.isl (P.cellsOf e) (parts.map (·.2))∧ρ'=ρ))

theorem fillA_seq (S:Nat):∀ (xs:List (Nat × AV)) (k:Nat) (done:List AV),done.length=k*S→(∀ p ∈ xs,p.2.cells.length=S)→xs.map (·.1)=List.range' k xs.length →
  fillA (fun i=>some (i*S,S)) (done ++ List.replicate (xs.length*S) .any) xs=some (done ++ xs.flatMap fun p=>p.2.cells)
 | [],k,done,_,_,_=>by simp [fillA]
 | (i,x) :: xs,k,done,hd,hx,hr=>by
  simp only [List.map_cons,List.length_cons,List.range'_succ,List.cons.injEq] at hr
  obtain ⟨rfl,hr⟩:=hr
  have h1:x.cells.length=S:=hx (i,x) (by simp)
  simp only [fillA]
  rw [if_pos ⟨h1,by simp [Nat.add_mul]; omega⟩]
  have e1:(done ++ List.replicate ((xs.length+1)*S) AV.any).take (i*S)=done:=by rw [← hd]; exact List.take_left
  have e2:(done ++ List.replicate ((xs.length+1)*S) AV.any).drop (i*S+S)=List.replicate (xs.length*S) .any:=by
   rw [List.drop_append,List.drop_eq_nil_of_le (by omega),hd]
   simp [Nat.add_mul]
  simp only [List.length_cons]
  rw [e1,e2]
  rw [fillA_seq S xs (i+1) (done ++ x.cells) (by simp [hd,h1,Nat.add_mul]) (fun p hp=>hx p (by simp [hp])) hr]
  simp

theorem flat_get (S:Nat):∀ (xs:List AV),(∀ x ∈ xs,x.cells.length=S)→∀ i,i<xs.length→∀ j,j<S→(xs.flatMap AV.cells).getD (i*S+j) .any=(xs.getD i .any).cells.getD j .any
 | [],_,i,hi,_,_=>by simp at hi
 | x :: xs,hx,i,hi,j,hj=>by
  have h1:x.cells.length=S:=hx x (by simp)
  cases i with
  | zero =>
   simp only [List.flatMap_cons,Nat.zero_mul,Nat.zero_add]
   rw [getD_app_left _ _ _ _ (by omega)]; rfl
  | succ i =>
   simp only [List.flatMap_cons]
   rw [getD_app_right _ _ _ _ (by rw [h1,Nat.add_mul]; omega),h1]
   have:=flat_get S xs (fun y hy=>hx y (by simp [hy])) i (by simpa using hi) j hj
   rw [show (i+1)*S+j - S=i*S+j by rw [Nat.add_mul]; omega,this]; rfl

theorem RelL.any {c I N β} (vs:List Value):RelL c I N β (List.replicate vs.length .any) vs :=
 ⟨by simp,fun j hj=>by
  have hj':j<vs.length:=by simpa using hj
  have:(List.replicate vs.length AV.any).getD j .any=.any:=by simp [List.getD,hj']
  rw [this]; exact .any _⟩

theorem aLit_step {o:Oper} {t:TypeId} {len:Nat} {parts:Array (Nat × Operand)} {w F I β a A ρ v ρ'} (ho:o.op=.buildSlice t len parts) (hs:FRel w F I β a A ρ)
  (h:aLit P t len (parts.toList.map fun p=>(p.1,aev A p.2)) ρ v ρ'):Step P o a w F I β ρ v ρ':=by
 obtain ⟨e,z,hu,hk,hz,hsz,hfst,hok,hcl,hcase⟩:=h
 obtain ⟨zv,hzrun,rfl⟩:=run_zero hz w
 generalize hS:P.cellsOf e=S at *
 have hp:RelP (cellf w) I ρ.length β (parts.toList.map fun p=>(p.1,aev A p.2)) (parts.toList.map fun p=>(p.1,a.eval p.2)):=by
  refine ⟨by simp,?_⟩
  have:=RelL.of_map A a.eval hs.eval (parts.toList.map (·.2))
  simpa [List.map_map,Function.comp_def] using this
 have hlen:(parts.toList.map fun p=>(p.1,aev A p.2)).length=len:=by have:=congrArg List.length hfst; simpa using this
 generalize hxs:(parts.toList.map fun p=>(p.1,aev A p.2))=xs at *
 have hcl':∀ p ∈ xs,p.2.cells.length=S:=by simpa using hcl
 have hseq:=fillA_seq S xs 0 [] (by simp) hcl' (by rw [hfst,hlen,List.range_eq_range'])
 simp only [List.nil_append,hlen] at hseq
 have hrun:∃ C,(Instr.buildSlice t len (parts.map fun p=>(p.1,a.eval p.2))).run P w=.ok (.slice (some ⟨w.heap.size,0,none⟩) len len) (w.alloc (.cells C e)) ∧
   RelL (cellf w) I ρ.length β (xs.flatMap fun p=>p.2.cells) C.toList:=by
  have h24:¬ (16777216<len*S):=by omega
  by_cases h0:len*S=0
  ·obtain ⟨C,h1,h2⟩:=fill_run (c:=cellf w) (I:=I) (N:=ρ.length) (β:=β) (cv:=#[]) hseq (by simpa using hok) hp (by rw [h0]; exact .mk_nil)
   refine ⟨C,?_,h2⟩
   have e1:(parts.map fun p=>(p.1,a.eval p.2)).toList=parts.toList.map fun p=>(p.1,a.eval p.2):=by simp
   simp [Instr.buildSlice,run_underlying hu,run_sizeOf' hk,hS,h0,h1,newRow,map_range0]
  ·have hrel:=RelL.any (c:=cellf w) (I:=I) (N:=ρ.length) (β:=β) ((Array.range (len*S)).map (fun k=>zv.cells[k % zv.cells.size]!)).toList
   have hl:((Array.range (len*S)).map (fun k=>zv.cells[k % zv.cells.size]!)).toList.length=len*S:=by simp
   rw [hl] at hrel
   obtain ⟨C,h1,h2⟩:=fill_run (c:=cellf w) (I:=I) (N:=ρ.length) (β:=β) hseq (by simpa using hok) hp hrel
   refine ⟨C,?_,h2⟩
   have e1:(parts.map fun p=>(p.1,a.eval p.2)).toList=parts.toList.map fun p=>(p.1,a.eval p.2):=by simp
   simp [Instr.buildSlice,run_underlying hu,run_sizeOf' hk,hS,h24,h0,hzrun,h1,newRow]
 obtain ⟨C,hrun,hC⟩:=hrun
 have hexec:(execOp a.eval o).run P w=.ok (.value (.slice (some ⟨w.heap.size,0,none⟩) len len)) (w.alloc (.cells C e)):=by
  unfold execOp
  simp only [ho]
  show ((Instr.buildSlice t len (parts.map fun p=>(p.1,a.eval p.2))) >>= fun r=>pure (Next.value r)).run P w=_
  rw [Sem.run_bind,hrun]; rfl
 obtain ⟨ys,hys⟩:∃ ys:List AV,ys=xs.map (fun p=>p.2):=⟨_,rfl⟩
 have hcl4:∀ x ∈ ys,x.cells.length=S:=fun x hx=>by
  rw [hys] at hx
  obtain ⟨p,hp,rfl⟩:=List.mem_map.1 hx
  exact hcl' p hp
 have hflat:∀ i,i<ys.length→∀ j,j<S→∃ u,C[i*S+j]?=some u∧Rel (cellf w) I ρ.length β ((ys.getD i .any).cells.getD j .any) u:=by
  intro i hi j hj
  have e1:(xs.flatMap fun p=>p.2.cells)=ys.flatMap AV.cells:=by simp [hys,List.flatMap_map]
  rw [e1] at hC
  have hcl2:∀ x ∈ ys,x.cells.length=S:=hcl4
  have hfl:(ys.flatMap AV.cells).length=ys.length*S:=by
   rw [List.length_flatMap]
   have:ys.map (fun x=>x.cells.length)=List.replicate ys.length S:=by
    apply List.eq_replicate_iff.2
    exact ⟨by simp,fun b hb=>by obtain ⟨x,hx,rfl⟩:=List.mem_map.1 hb; exact hcl2 x hx⟩
   rw [this]; simp
  have hlt:i*S+j<(ys.flatMap AV.cells).length:=by
   rw [hfl]
   have:(i+1)*S≤ys.length*S:=Nat.mul_le_mul_right _ hi
   rw [Nat.add_mul] at this; omega
  obtain ⟨u,hu1,hu2⟩:=hC.get hlt
  rw [flat_get S _ hcl2 i hi j hj] at hu2
  exact ⟨u,by simpa using hu1,hu2⟩
 have hcl3:∀ i,i<ys.length→(ys.getD i .any).cells.length=S:=fun i hi=>by
  have:ys.getD i .any=ys[i]:=by unfold List.getD; rw [List.getElem?_eq_getElem hi]; rfl
  rw [this]; exact hcl4 _ (List.getElem_mem _)
 rcases hcase with ⟨h0,rfl,rfl⟩ | ⟨h0,rfl,hρ'⟩
 ·subst h0
  have hnew:=hs.sr.newRoot C e S [] (fun i hi=>by simp at hi)
  have hg:=Grow.alloc_root w (.cells C e) I ρ.length β (some ⟨w.heap.size,0,S⟩)
  refine ⟨_,_,I,_,.inl hexec,Keeps.alloc w _ hs.sr.flt,by simpa using hg,hnew,?_⟩
  exact .slz _ _ _ (by simp)
 ·obtain rfl:ρ=ρ':=hρ'.symm
  have hg:=Grow.alloc_imm w (.cells C e) I ρ.length β
  refine ⟨_,_,_,β,.inl hexec,Keeps.alloc w _ hs.sr.flt,hg,hs.sr.newImm _,?_⟩
  have hl2:ys.length=len:=by rw [hys]; simpa using hlen
  rw [← hys]
  rw [← hl2]
  refine .isl S _ w.heap.size 0 _ (fun i j=>(C[i*S+j]?).getD undef) (.inr rfl) (Nat.le_refl _) hcl3 (fun i hi j hj=>?_) (fun i hi j hj=>?_)
  ·obtain ⟨u,h1,_⟩:=hflat i hi j hj
   rw [cellf_new]; simp [h1]
  ·obtain ⟨u,h1,h2⟩:=hflat i hi j hj
   simp only [h1,Option.getD_some]
   exact hg.rel h2
end Go.Lg
