import Derived.Test.YtpdcajchppoocaaLi
set_option linter.unusedVariables false
set_option linter.unusedSimpArgs false
namespace Go.Lg
variable {P:Program}

theorem read_cells {c:Nat→Nat→Option Value} {I N β} {b off sz:Nat} {L:List AV}
  (h:∀ i,i<L.length→∀ j,j<sz→∃ v,c b (off+i*sz+j)=some v∧Rel c I N β ((L.getD i .any).cells.getD j .any) v) :
  ∃ news:List Value,news.length=L.length*sz∧(∀ k,k<L.length*sz→c b (off+k)=some (news.getD k undef)) ∧
   ∀ i,i<L.length→∀ j,j<sz→Rel c I N β ((L.getD i .any).cells.getD j .any) (news.getD (i*sz+j) undef):=by
 refine ⟨(List.range (L.length*sz)).map fun k=>(c b (off+k)).getD undef,by simp,fun k hk=>?_,fun i hi j hj=>?_⟩
 ·have hsz:0<sz:=Nat.pos_of_ne_zero (fun e=>by subst e; simp at hk)
  have h1:k / sz<L.length:=(Nat.div_lt_iff_lt_mul hsz).2 hk
  obtain ⟨v,hv,_⟩:=h _ h1 _ (Nat.mod_lt k hsz)
  have e:off+k / sz*sz+k % sz=off+k:=by rw [Nat.add_assoc,Nat.mul_comm,Nat.div_add_mod]
  rw [e] at hv
  simp [List.getD,hk,hv]
 ·have hlt:i*sz+j<L.length*sz:=by
   have:(i+1)*sz≤L.length*sz:=Nat.mul_le_mul_right _ hi
   rw [Nat.add_mul] at this; omega
  obtain ⟨v,hv,hr⟩:=h i hi j hj
  rw [Nat.add_assoc] at hv
  simpa [List.getD,hlt,hv] using hr

def elemsOf (S:Nat) (ρ:Store):AV→Option (List AV)
 | .isl sz L=>if sz=S then some L else none
 | .sl r o m=>match ρ[r]? with
  | some (some R)=>if o+m≤R.els.length∧R.sz=S then some ((R.els.drop o).take m) else none
  | _=>none
 | .sub r i j sz n=>match ρ[r]? with
  | some (some R)=>if sz=S∧i<R.els.length∧j+n*sz≤R.sz then some ((List.range n).map fun k=>.agg (((R.els.getD i .any).cells.drop (j+k*sz)).take sz)) else none
  | _=>none
 | .sc (.slice none 0 0)=>some []
 | _=>none

theorem elemsOf_spec {S ρ x L} {w F I β vx} (h:elemsOf S ρ x=some L) (hs:SR w F I β ρ) (hx:Rel (cellf w) I ρ.length β x vx) :
  ∃ a cap,vx=.slice a L.length cap∧(∀ i,i<L.length→(L.getD i .any).cells.length=S) ∧
   ((a=none∧L=[])∨(∃ b off,a=some ⟨b,off,none⟩∧∀ i,i<L.length→∀ j,j<S→∃ v,cellf w b (off+i*S+j)=some v∧Rel (cellf w) I ρ.length β ((L.getD i .any).cells.getD j .any) v)∨L=[]):=by
 unfold elemsOf at h
 split at h
 ·rename_i sz L'
  split at h
  ·cases h; rename_i e; subst e
   cases hx with
   | isl _ _ b off cap vs hb hn hz hc hv=>exact ⟨_,cap,rfl,hz,.inr (.inl ⟨b,off,rfl,fun i hi j hj=>⟨_,hc i hi j hj,hv i hi j hj⟩⟩)⟩
   | islz _ aa=>exact ⟨aa,0,rfl,fun i hi=>by simp at hi,.inr (.inr rfl)⟩
  ·cases h
 ·rename_i r o m
  split at h
  ·rename_i R hR
   split at h
   ·rename_i hcond
    cases h
    obtain ⟨h1,rfl⟩:=hcond
    have hlen:((R.els.drop o).take m).length=m:=by simp; omega
    have hget:∀ i,i<m→((R.els.drop o).take m).getD i .any=R.els.getD (o+i) .any:=fun i hi=>by rw [getD_take _ _ _ hi]; simp [List.getD,List.getElem?_drop]
    cases hx with
    | sl _ _ _ cap l hr hl hn hc =>
     have e1:=(hs.real r R l hR hl).1
     refine ⟨_,cap,by rw [hlen],fun i hi=>?_,.inr (.inl ⟨l.b,l.off+o*l.sz,rfl,fun i hi j hj=>?_⟩)⟩
     ·rw [hlen] at hi; rw [hget i hi]; exact (hs.cells r R l hR hl (o+i) (by omega)).1
     ·rw [hlen] at hi; rw [hget i hi]
      obtain ⟨v,h2,h3⟩:=(hs.cells r R l hR hl (o+i) (by omega)).2 j hj
      refine ⟨v,?_,h3⟩
      rw [e1,show l.off+o*R.sz+i*R.sz+j=l.off+(o+i)*R.sz+j by rw [Nat.add_mul]; omega]; exact h2
    | slz _ _ a hr=>exact ⟨a,0,by rw [hlen],fun i hi=>by rw [hlen] at hi; omega,.inr (.inr (by simp))⟩
   ·cases h
  ·cases h
 ·rename_i r i j sz n
  split at h
  ·rename_i R hR
   split at h
   ·rename_i hcond
    cases h
    obtain ⟨rfl,h2,h3⟩:=hcond
    cases hx with
    | sub _ _ _ _ _ cap l hr hl hn =>
     obtain ⟨hz,hcc⟩:=hs.cells r R l hR hl i h2
     have e1:=(hs.real r R l hR hl).1
     generalize hE:R.els.getD i .any=E at *
     have get:∀ k,k<n→((List.range n).map fun k=>AV.agg ((E.cells.drop (j+k*sz)).take sz)).getD k .any=.agg ((E.cells.drop (j+k*sz)).take sz):=fun k hk=>by simp [List.getD,hk]
     have bnd:∀ k,k<n→k*sz+sz≤n*sz:=fun k hk=>by
      have:=Nat.mul_le_mul_right sz (show k+1≤n by omega); rwa [Nat.add_mul,Nat.one_mul] at this
     refine ⟨some ⟨l.b,l.off+i*l.sz+j,none⟩,cap,by simp,fun k hk=>?_,.inr (.inl ⟨l.b,l.off+i*l.sz+j,rfl,fun k hk q hq=>?_⟩)⟩
     ·have hk:k<n:=by simpa using hk
      have:=bnd k hk
      rw [get k hk]; show ((E.cells.drop (j+k*sz)).take sz).length=sz
      simp; omega
     ·have hk:k<n:=by simpa using hk
      have:=bnd k hk
      rw [get k hk]; show ∃ v,_∧Rel _ _ _ _ (((E.cells.drop (j+k*sz)).take sz).getD q .any) v
      obtain ⟨u,h5,h6⟩:=hcc (j+k*sz+q) (by omega)
      refine ⟨u,?_,?_⟩
      ·rw [e1,show l.off+i*R.sz+j+k*sz+q=l.off+i*R.sz+(j+k*sz+q) by omega]; exact h5
      ·rw [getD_take _ _ _ hq]
       have:(E.cells.drop (j+k*sz)).getD q .any=E.cells.getD (j+k*sz+q) .any:=by simp [List.getD,List.getElem?_drop]
       rw [this]; exact h6
    | subz _ _ _ _ a hr=>exact ⟨a,0,by simp,fun i hi=>by simp at hi,.inr (.inr (by simp))⟩
   ·cases h
  ·cases h
 ·cases h
  cases hx
  exact ⟨none,0,rfl,fun i hi=>by simp at hi,.inl ⟨rfl,rfl⟩⟩
 ·cases h

theorem firstCells_spec {S ρ x L} {w F I β vx} (h:elemsOf S ρ x=some L) (hs:SR w F I β ρ) (hx:Rel (cellf w) I ρ.length β x vx) :
  ∃ news:List Value,news.length=L.length*S∧(∀ w',(∀ b o,cellf w b o=cellf w' b o)→(Builtin.firstCells S L.length vx).run P w'=.ok news.toArray w')∧(∃ a cap,vx=.slice a L.length cap) ∧
   (∀ i,i<L.length→(L.getD i .any).cells.length=S) ∧
   ∀ i,i<L.length→∀ j,j<S→Rel (cellf w) I ρ.length β ((L.getD i .any).cells.getD j .any) (news.getD (i*S+j) undef):=by
 obtain ⟨a,cap,rfl,hz,hcase⟩:=elemsOf_spec h hs hx
 by_cases hL:L=[]
 ·subst hL
  refine ⟨[],by simp,fun w' _=>?_,⟨a,cap,rfl⟩,hz,fun i hi=>by simp at hi⟩
  cases a <;> simp [Builtin.firstCells,loadCells,loadCellsFrom]
 ·have:∃ b off,a=some ⟨b,off,none⟩∧∀ i,i<L.length→∀ j,j<S→∃ v,cellf w b (off+i*S+j)=some v∧Rel (cellf w) I ρ.length β ((L.getD i .any).cells.getD j .any) v:=by
   rcases hcase with ⟨_,h2⟩ | h2 | h2
   ·exact absurd h2 hL
   ·exact h2
   ·exact absurd h2 hL
  obtain ⟨b,off,rfl,hcells⟩:=this
  obtain ⟨news,h1,h2,h3⟩:=read_cells hcells
  refine ⟨news,h1,fun w' hw'=>?_,⟨_,cap,rfl⟩,hz,h3⟩
  refine run_firstCells_some (P:=P) w' S L.length ⟨b,off,none⟩ _ cap news h1 (fun j v hj=>?_)
  have hj':j<news.length:=(List.getElem?_eq_some_iff.1 hj).1
  have:=h2 j (by omega)
  rw [add_none]
  have e:news.getD j undef=v:=by simp [List.getD,hj]
  rw [e,hw'] at this; exact this

theorem ones_of {S:Nat} {L:List AV} {c I N β} {news:List Value} (h1:news.length=L.length*S) (hok:L.all AV.ok=true) (hz:∀ i,i<L.length→(L.getD i .any).cells.length=S)
  (h3:∀ i,i<L.length→∀ j,j<S→Rel c I N β ((L.getD i .any).cells.getD j .any) (news.getD (i*S+j) undef)):∀ u ∈ news,u.oneCell'=true:=by
 intro u hu
 obtain ⟨k,hk,rfl⟩:=List.getElem_of_mem hu
 have hS:0<S:=Nat.pos_of_ne_zero (fun e=>by subst e; simp at h1; subst h1; simp at hk)
 have h4:k / S<L.length:=(Nat.div_lt_iff_lt_mul hS).2 (by omega)
 have h5:=h3 _ h4 _ (Nat.mod_lt k hS)
 have e:k / S*S+k % S=k:=by rw [Nat.mul_comm,Nat.div_add_mod]
 rw [e] at h5
 have e2:news.getD k undef=news[k]:=by simp [List.getD,hk]
 rw [e2] at h5
 have hm:L.getD (k / S) .any ∈ L:=by
  have:L.getD (k / S) .any=L[k / S]:=by simp [List.getD,h4]
  rw [this]; exact List.getElem_mem _
 have hok1:(L.getD (k / S) .any).ok=true:=(List.all_eq_true.1 hok) _ hm
 have hz1:=hz _ h4
 have hone:((L.getD (k / S) .any).cells.getD (k % S) .any).one=true:=by
  generalize L.getD (k / S) .any=X at *
  have hlt:k % S<X.cells.length:=by rw [hz1]; exact Nat.mod_lt k hS
  cases X with
  | agg cs =>
   simp only [AV.ok,List.all_eq_true] at hok1
   have hlt':k % S<cs.length:=hlt
   have:cs.getD (k % S) .any=cs[k % S]'hlt':=by
    unfold List.getD; rw [List.getElem?_eq_getElem hlt']; rfl
   show (cs.getD (k % S) .any).one=true
   rw [this]; exact hok1 _ (List.getElem_mem _)
  | _ =>
   have h0:k % S=0:=by simpa [AV.cells] using hlt
   rw [h0]; simpa [AV.cells,AV.ok] using hok1
 generalize ((L.getD (k / S) .any).cells.getD (k % S) .any)=y at *
 generalize news[k]=u at *
 cases h5 <;> simp_all [AV.one] <;> rfl

theorem Grow.drew (w I N β):Grow w w.drew I I N N β β:=⟨fun _ _ _ _ h=>h,fun _ _ h=>h,fun _ h=>h,Nat.le_refl _,fun _ _=>rfl,fun _ h=>.inl h,Nat.le_refl _⟩
theorem SR.drew {w F I β ρ} (hs:SR w F I β ρ):SR w.drew F I β ρ:=⟨hs.real,hs.cells,hs.phantom,hs.inj,hs.ilt,hs.flt,hs.thaw,hs.obs⟩
def baseOf (S:Nat) (ρ:Store) (x:AV):AV→Option (List AV × Store)
 | .sl r o n=>match ρ[r]? with
  | some (some R)=>if o+n≤R.els.length∧R.sz=S then some ((R.els.drop o).take n,ρ.set r none) else none
  | _=>none
 | .sc (.slice none 0 0)=>some ([],ρ)
 | _=>none

def aAppend (P:Program) (t:TypeId) (s x:AV) (ρ:Store) (v:AV) (ρ':Store):Prop :=
 ∃ e z els ρ1 L,P.underlying t=some (.slice e)∧known P e=true∧zeroA P e=some z∧z.ok=true∧z.cells.length=P.cellsOf e∧baseOf (P.cellsOf e) ρ x s=some (els,ρ1) ∧
  elemsOf (P.cellsOf e) ρ x=some L∧L.all AV.ok=true∧(els.length+L.length)*P.bytesOf e≤140737488355328∧els.length+L.length≤4611686018427387904 ∧
  v=.sl ρ.length 0 (els.length+L.length)∧ρ'=ρ1 ++ [some ⟨P.cellsOf e,els ++ L,none⟩]


theorem getD_app_left {α} (l l':List α) (k:Nat) (d:α) (h:k<l.length):(l ++ l').getD k d=l.getD k d:=by
 unfold List.getD; rw [List.getElem?_append_left h]
theorem getD_app_right {α} (l l':List α) (k:Nat) (d:α) (h:l.length≤k):(l ++ l').getD k d=l'.getD (k - l.length) d:=by
 unfold List.getD; rw [List.getElem?_append_right h]

theorem Rel.sl_inv {c I N β r o n v} (h:Rel c I N β (.sl r o n) v) :
  (∃ cap l,r<N∧β r=some l∧n≤cap∧(∀ k,k<cap*l.sz→(c l.b (l.off+o*l.sz+k)).isSome=true)∧v=.slice (some ⟨l.b,l.off+o*l.sz,none⟩) n cap)∨(n=0∧∃ a,v=.slice a 0 0∧r<N):=by
 generalize hx:AV.sl r o n=x at h
 cases h <;> cases hx
 ·rename_i cap l hr hl hc hn; exact .inl ⟨cap,l,hr,hl,hn,hc,rfl⟩
 ·rename_i a hr; exact .inr ⟨rfl,a,rfl,hr⟩

section
variable {w:World} {t t' ty e:TypeId} {i:TypeInfo} {vx:Value} {m n cap:Nat} {news olds:List Value} {e':TypeId} {xa:Option Addr} {xc:Nat}

theorem run_append_room' {b off:Nat} (hu:P.underlying t=some (.slice e)) (hi:P.info? e=some i) (hd:P.underlying t'=some (.slice e'))
  (hx:vx=.slice xa m xc) (hn:(Builtin.firstCells i.size m vx).run P w=.ok news.toArray w) (hroom:n+m≤cap)
  (hc:∀ j,j<news.length→(cellf w b (off+n*i.size+j)).isSome=true) (hf:∀ j,w.frozen? ⟨b,j,none⟩=false) (h1:∀ u ∈ news,u.oneCell'=true) :
  (Builtin.append_ #[t,t'] ty #[.slice (some ⟨b,off,none⟩) n cap,vx]).run P w=.ok (.slice (some ⟨b,off,none⟩) (n+m) cap) (w.setCells b (off+n*i.size) news):=by
 subst hx
 have hst:=run_storeCells_cells (P:=P) b (off+n*i.size) news 0 w (by simpa [cellf] using hc) (fun j _=>hf _) h1
 simp only [Nat.add_zero] at hst
 simp [Builtin.append_,run_underlying hu,run_underlying hd,sizeOf,typeInfo,hi,Builtin.lenOf,hroom,hn,add_none,hst]

theorem run_append_none' {a:Option Addr} (hu:P.underlying t=some (.slice e)) (hi:P.info? e=some i) (hd:P.underlying t'=some (.slice e'))
  (hx:vx=.slice xa 0 xc) (hn:(Builtin.firstCells i.size 0 vx).run P w=.ok #[] w) :
  (Builtin.append_ #[t,t'] ty #[.slice a 0 0,vx]).run P w=.ok (.slice a 0 0) w:=by
 subst hx
 cases a <;> simp [Builtin.append_,run_underlying hu,run_underlying hd,sizeOf,typeInfo,hi,Builtin.lenOf,hn,storeCells]

theorem run_append_grow' {base:Option Addr} {z:Value} (hu:P.underlying t=some (.slice e)) (hi:P.info? e=some i) (hz:i.zero=some z) (hd:P.underlying t'=some (.slice e'))
  (hx:vx=.slice xa m xc) (hn:(Builtin.firstCells i.size m vx).run P w.drew=.ok news.toArray w.drew) (ho:(Builtin.firstCells i.size n (.slice base n cap)).run P w.drew=.ok olds.toArray w.drew)
  (hroom:cap<n+m) (h63:n+m≤4611686018427387904) (hby:(n+m)*i.bytes≤140737488355328) :
  ∃ newCap,n+m≤newCap∧(Builtin.append_ #[t,t'] ty #[.slice base n cap,vx]).run P w=.ok (.slice (some ⟨w.heap.size,0,none⟩) (n+m) newCap)
   (w.drew.alloc (.cells (olds.toArray ++ news.toArray ++ Builtin.zeroCells z.cells (newCap - (n+m))) e)):=by
 subst hx
 have h1:¬ (n+m≤cap):=by omega
 have h2:¬ (9223372036854775807<((n:Int)+(m:Int))):=by omega
 have h3:¬ (281474976710656<Builtin.nextslicecap (n+m) cap*i.bytes):=by have:=growslice_fits hroom hby; omega
 refine ⟨grownCap w (n+m) cap e,grownCap_ge w _ _ _,?_⟩
 simp [Builtin.append_,run_underlying hu,run_underlying hd,sizeOf,typeInfo,zeroValue,hi,hz,Builtin.lenOf,h1,h2,h3,Question.forced,hn,ho,newRow,grownCap]
 congr 2
 apply Array.ext'
 simp [List.append_assoc]
end
end Go.Lg
