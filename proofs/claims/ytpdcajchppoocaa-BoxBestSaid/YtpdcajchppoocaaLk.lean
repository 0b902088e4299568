import Derived.Test.YtpdcajchppoocaaLj
set_option linter.unusedVariables false
set_option linter.unusedSimpArgs false
namespace Go.Lg
variable {P:Program}

theorem List.getElem?_set_none {ρ:Store} {r s:Nat} {S:Root} (h:(ρ.set r none)[s]?=some (some S)):s≠r∧ρ[s]?=some (some S):=by
 by_cases e:r=s
 ·subst e
  by_cases hl:r<ρ.length
  ·simp [hl] at h
  ·rw [List.getElem?_eq_none (by simp; omega)] at h; cases h
 ·rw [List.getElem?_set_ne e] at h; exact ⟨fun h=>e h.symm,h⟩

theorem aAppend_step {o:Oper} {c:Call} {t t' e':TypeId} {s x:Operand} {w F I β a A ρ v ρ'} (ho:o.op=.call c) (hc:c.callee=.builtin .append) (ha:c.args=#[s,x]) (ht:c.argTypes=#[t,t'])
  (hd:P.underlying t'=some (.slice e'))
  (hs:FRel w F I β a A ρ) (h:aAppend P t (aev A s) (aev A x) ρ v ρ'):Step P o a w F I β ρ v ρ':=by
 obtain ⟨e,z,els,ρ1,L,hu,hk,hz,hzo,hzl,hbase,hL,hok,hby,hsm,rfl,rfl⟩:=h
 have hvs:=hs.eval s
 have hvx:=hs.eval x
 obtain ⟨i,hi⟩:=info_of_known hk
 have hisz:P.cellsOf e=i.size:=by simp [Program.cellsOf,hi]
 have hiby:P.bytesOf e=i.bytes:=by simp [Program.bytesOf,hi]
 rw [hisz] at hzl hbase hL
 rw [hiby] at hby
 simp only [hisz]
 obtain ⟨zv,hzrun,rfl⟩:=run_zero hz w
 have hizero:i.zero=some zv:=by
  have:=hzrun
  simp only [zeroValue,Sem.run_bind,typeInfo,run_program,Result.andThen_ok,hi,Sem.run_pure] at this
  cases hz0:i.zero with
  | none=>simp [hz0] at this
  | some q=>simp [hz0] at this; rw [this]
 have hzvs:zv.cells.size=i.size:=by have:=(ok_cells (ofV_rel (cellf w) I ρ.length β zv) hzo).1.1; simp at this; omega
 obtain ⟨news,hn1,hn2,⟨xa,xc,hxv⟩,hxz,hn3⟩:=firstCells_spec (P:=P) hL hs.sr hvx
 have hones:=ones_of hn1 hok hxz hn3
 -- how the operation runs
 have hexec:∀ u w',(Builtin.append_ #[t,t'] o.type #[a.eval s,a.eval x]).run P w=.ok u w'→(execOp a.eval o).run P w=.ok (.value u) w':=by
  intro u w' h
  obtain ⟨cs0,e0⟩:∃ cs0,resolve a.eval c o.type=pure { target:=.builtin .append c.argTypes o.type cs0,args:=c.args.map a.eval }:=⟨_,by unfold resolve; rw [hc]⟩
  unfold execOp
  simp [ho,e0,invoke,builtin,ht,ha,h]
 -- the slice that is appended to
 have hel:elemsOf i.size ρ (aev A s)=some els∧((ρ1=ρ∧els=[]∧a.eval s=.slice none 0 0)∨∃ r R q,aev A s=.sl r q els.length∧ρ[r]?=some (some R)∧q+els.length≤R.els.length∧(∀ k,k<els.length→els.getD k .any=R.els.getD (q+k) .any)∧R.sz=i.size∧ρ1=ρ.set r none):=by
  unfold baseOf at hbase
  split at hbase
  ·rename_i r o' n he
   split at hbase
   ·rename_i R hR
    split at hbase
    ·rename_i hcond
     obtain ⟨hlen,hRS⟩:=hcond
     cases hbase
     have hl:((R.els.drop o').take n).length=n:=by simp; omega
     refine ⟨?_,.inr ⟨r,R,o',by rw [hl]; exact he,hR,by rw [hl]; exact hlen,fun k hk=>?_,hRS,rfl⟩⟩
     ·rw [he]
      simp only [elemsOf,hR]
      rw [if_pos ⟨hlen,hRS⟩]
     ·rw [hl] at hk
      simp [List.getD,List.getElem?_take_of_lt hk,List.getElem?_drop]
    ·cases hbase
   ·cases hbase
  ·rename_i he
   cases hbase
   rw [he] at hvs
   refine ⟨by rw [he]; rfl,.inl ⟨rfl,rfl,?_⟩⟩
   generalize a.eval s=sv at hvs
   cases hvs; rfl
  ·cases hbase
 obtain ⟨hel,hcase⟩:=hel
 obtain ⟨olds,ho1,ho2,⟨sa,scap,hsv⟩,hoz,ho3⟩:=firstCells_spec (P:=P) hel hs.sr hvs
 have hsr1:SR w F I β ρ1:=by
  rcases hcase with ⟨rfl,_,_⟩ | ⟨r,R,q,_,_,_,_,_,rfl⟩
  ·exact hs.sr
  ·exact hs.sr.kill r
 have hlen1:ρ1.length=ρ.length:=by
  rcases hcase with ⟨rfl,_,_⟩ | ⟨r,R,q,_,_,_,_,_,rfl⟩ <;> simp
 have hnewlen:(ρ1 ++ [some (⟨i.size,els ++ L,none⟩:Root)]).length=ρ.length+1:=by simp [hlen1]
 -- the elements of the new slice,in one list of cells
 have hall:∀ k,k<(els ++ L).length→((els ++ L).getD k .any).cells.length=i.size∧∀ j,j<i.size→Rel (cellf w) I ρ.length β (((els ++ L).getD k .any).cells.getD j .any) ((olds ++ news).getD (k*i.size+j) undef):=by
  intro k hk
  by_cases hk1:k<els.length
  ·rw [getD_app_left _ _ _ _ hk1]
   refine ⟨hoz k hk1,fun j hj=>?_⟩
   have:k*i.size+j<olds.length:=by
    rw [ho1]
    have:(k+1)*i.size≤els.length*i.size:=Nat.mul_le_mul_right _ hk1
    rw [Nat.add_mul] at this; omega
   rw [getD_app_left _ _ _ _ this]; exact ho3 k hk1 j hj
  ·have hk2:k - els.length<L.length:=by simp at hk; omega
   rw [getD_app_right _ _ _ _ (by omega)]
   refine ⟨hxz _ hk2,fun j hj=>?_⟩
   have e1:olds.length≤k*i.size+j:=by
    rw [ho1]
    have:els.length*i.size≤k*i.size:=Nat.mul_le_mul_right _ (by omega)
    omega
   rw [getD_app_right _ _ _ _ e1]
   have:=hn3 _ hk2 j hj
   rwa [Nat.sub_mul,show k*i.size - els.length*i.size+j=k*i.size+j - olds.length by
    rw [ho1]
    have:els.length*i.size≤k*i.size:=Nat.mul_le_mul_right _ (by omega)
    omega] at this
 by_cases hroom:els.length+L.length≤scap
 ·-- there is room
  by_cases hnil:scap=0
  ·have hel0:els=[]:=List.eq_nil_of_length_eq_zero (by omega)
   have hL0:L=[]:=List.eq_nil_of_length_eq_zero (by omega)
   subst hel0 hL0 hnil
   have hrun:=run_append_none' (P:=P) (w:=w) (t:=t) (t':=t') (ty:=o.type) (vx:=a.eval x) (a:=sa) hu hi hd (by simpa using hxv) (by
    have:=hn2 w (fun _ _=>rfl)
    have hn0:news=[]:=List.eq_nil_of_length_eq_zero (by simpa using hn1)
    rw [hn0] at this; simpa using this)
   have hsv':a.eval s=.slice sa 0 0:=by simpa using hsv
   refine ⟨.slice sa 0 0,w,I,bext β ρ.length none,.inl (hexec _ _ (by rw [hsv']; exact hrun)),Keeps.refl _ _,?_,?_,?_⟩
   ·rw [hnewlen]
    exact ⟨fun _ _ _ _ h=>h,fun _ _ h=>h,fun _ h=>h,by omega,fun r hr=>bext_old hr,fun _ h=>.inl h,Nat.le_refl _⟩
   ·have:=hsr1.phantomRoot i.size
    rw [hlen1] at this
    exact this
   ·exact .slz _ _ _ (by simp [hlen1])
  ·-- a row of the call's own
   have hrow:∃ r R l q off,aev A s=.sl r q els.length∧ρ[r]?=some (some R)∧q+els.length≤R.els.length∧(∀ k,k<els.length→els.getD k .any=R.els.getD (q+k) .any)∧R.sz=i.size∧ρ1=ρ.set r none∧β r=some l∧off=l.off+q*i.size∧els.length≤scap∧sa=some ⟨l.b,off,none⟩∧∀ k,k<scap*i.size→(cellf w l.b (off+k)).isSome=true:=by
    rcases hcase with ⟨_,_,h3⟩ | ⟨r,R,q,he,hR,hlen,hels,hRS,hρ⟩
    ·rw [hsv] at h3; injection h3 with _ _ h3; exact absurd h3 hnil
    ·rw [he] at hvs
     rcases hvs.sl_inv with ⟨cap,l,hr,hl,hn,hcc,hv⟩ | ⟨_,aa,hv,_⟩
     ·rw [hsv] at hv
      have esz:=(hs.sr.real r R l hR hl).1
      injection hv with h1 h2 h3
      subst h3
      exact ⟨r,R,l,q,_,he,hR,hlen,hels,hRS,hρ,hl,rfl,hn,by rw [h1,esz,hRS],fun k hk=>by have:=hcc k (by rw [esz,hRS]; exact hk); rwa [esz,hRS] at this⟩
     ·rw [hsv] at hv
      injection hv with h1 h2 h3
      exact absurd h3 hnil
   obtain ⟨r,R,l,q,off,he,hR,hqlen,hels,hRS,rfl,hl,hoff,hcapn,rfl,hcells⟩:=hrow
   obtain ⟨esz,hlt,hnI,hnF⟩:=hs.sr.real r R l hR hl
   have hfit:∀ j,j<news.length→(cellf w l.b (off+els.length*i.size+j)).isSome=true:=by
    intro j hj
    rw [Nat.add_assoc]
    refine hcells _ ?_
    have:(els.length+L.length)*i.size≤scap*i.size:=Nat.mul_le_mul_right _ hroom
    rw [Nat.add_mul] at this; omega
   have hrun:=run_append_room' (P:=P) (w:=w) (t:=t) (t':=t') (ty:=o.type) (vx:=a.eval x) (n:=els.length) (m:=L.length) (cap:=scap) (b:=l.b) (off:=off) hu hi hd hxv (hn2 w (fun _ _=>rfl)) hroom hfit (fun j=>hs.sr.thaw r R l hR hl j) hones
   have hg0:Grow w (w.setCells l.b (off+els.length*i.size) news) I I ρ.length ρ.length β β:=Grow.setCells hfit hnI
   have hg:Grow w (w.setCells l.b (off+els.length*i.size) news) I I ρ.length (ρ.length+1) β (bext β ρ.length (some ⟨l.b,off,i.size⟩)) :=
    ⟨hg0.hc,hg0.hs,hg0.hI,by omega,fun r hr=>bext_old hr,hg0.hI2,hg0.hz⟩
   refine ⟨.slice (some ⟨l.b,off,none⟩) (els.length+L.length) scap,w.setCells l.b (off+els.length*i.size) news,I,bext β ρ.length (some ⟨l.b,off,i.size⟩),.inl (hexec _ _ (by rw [hsv]; exact hrun)),Keeps.setCells _ _ _ _ hnF,by rw [hnewlen]; exact hg,?_,?_⟩
   ·have old:∀ (s':Nat) (S':Root) (m':Loc),(ρ.set r none ++ [some (⟨i.size,els ++ L,none⟩:Root)])[s']?=some (some S')→bext β ρ.length (some ⟨l.b,off,i.size⟩) s'=some m' →
      (s'≠r∧s'<ρ.length∧ρ[s']?=some (some S')∧β s'=some m')∨(s'=ρ.length∧S'=⟨i.size,els ++ L,none⟩∧m'=⟨l.b,off,i.size⟩):=by
     intro s' S' m' h1 h2
     rcases getElem?_snoc h1 with ⟨h3,h4⟩ | ⟨h3,h4⟩
     ·obtain ⟨h5,h6⟩:=List.getElem?_set_none h4
      simp at h3
      rw [bext_old h3] at h2
      exact .inl ⟨h5,h3,h6,h2⟩
     ·simp at h3
      subst h3
      rw [bext_new] at h2
      cases h2; cases h4
      exact .inr ⟨rfl,rfl,rfl⟩
    have hcs:=hs.sr.cells r R l hR hl
    constructor
    ·intro s' S' m' h1 h2
     rcases old s' S' m' h1 h2 with ⟨_,_,h5,h6⟩ | ⟨rfl,rfl,rfl⟩
     ·obtain ⟨a1,a2,a3,a4⟩:=hs.sr.real s' S' m' h5 h6
      exact ⟨a1,by rw [setCells_size]; exact a2,a3,a4⟩
     ·exact ⟨rfl,by rw [setCells_size]; exact hlt,hnI,hnF⟩
    ·intro s' S' m' h1 h2 k hk
     rw [hnewlen]
     rcases old s' S' m' h1 h2 with ⟨h3,_,h5,h6⟩ | ⟨rfl,rfl,rfl⟩
     ·obtain ⟨b1,b2⟩:=hs.sr.cells s' S' m' h5 h6 k hk
      refine ⟨b1,fun j hj=>?_⟩
      obtain ⟨u,hu1,hu2⟩:=b2 j hj
      refine ⟨u,?_,hg.rel hu2⟩
      rw [cellf_setCells hfit,dif_neg]
      ·exact hu1
      ·rintro ⟨c0,_⟩
       exact h3 (hs.sr.inj s' r S' R m' l h5 hR h6 hl c0)
     ·obtain ⟨b1,b2⟩:=hall k hk
      refine ⟨b1,fun j hj=>?_⟩
      simp only at hj ⊢
      rw [cellf_setCells hfit]
      by_cases hk1:k<els.length
      ·have e1:¬ (l.b=l.b∧off+els.length*i.size≤off+k*i.size+j∧off+k*i.size+j<off+els.length*i.size+news.length):=by
        rintro ⟨_,c1,_⟩
        have:(k+1)*i.size≤els.length*i.size:=Nat.mul_le_mul_right _ hk1
        rw [Nat.add_mul] at this; omega
       rw [dif_neg e1]
       obtain ⟨_,b3⟩:=hcs (q+k) (by omega)
       obtain ⟨u,hu1,hu2⟩:=b3 j (by rw [hRS]; exact hj)
       refine ⟨u,by rw [hoff,show l.off+q*i.size+k*i.size+j=l.off+(q+k)*R.sz+j by rw [hRS,Nat.add_mul]; omega]; exact hu1,?_⟩
       rw [getD_app_left _ _ _ _ hk1,hels k hk1]
       exact hg.rel hu2
      ·have hk2:k - els.length<L.length:=by simp at hk; omega
       have c1:els.length*i.size≤k*i.size:=Nat.mul_le_mul_right _ (by omega)
       have c2:(k - els.length)*i.size=k*i.size - els.length*i.size:=Nat.sub_mul _ _ _
       have c3:(k - els.length+1)*i.size≤L.length*i.size:=Nat.mul_le_mul_right _ hk2
       rw [Nat.add_mul] at c3
       have e1:(l.b=l.b∧off+els.length*i.size≤off+k*i.size+j∧off+k*i.size+j<off+els.length*i.size+news.length):=⟨rfl,by omega,by omega⟩
       rw [dif_pos e1]
       refine ⟨_,rfl,?_⟩
       have:=b2 j hj
       have e2:(olds ++ news).getD (k*i.size+j) undef=news[off+k*i.size+j - (off+els.length*i.size)]'(by omega):=by
        rw [getD_app_right _ _ _ _ (by rw [ho1]; omega)]
        have:k*i.size+j - olds.length=off+k*i.size+j - (off+els.length*i.size):=by rw [ho1]; omega
        unfold List.getD
        rw [this,List.getElem?_eq_getElem (by omega)]; rfl
       rw [e2] at this
       exact hg.rel this
    ·intro s' S' h1 h2
     rcases getElem?_snoc h1 with ⟨h3,h4⟩ | ⟨h3,h4⟩
     ·obtain ⟨h5,h6⟩:=List.getElem?_set_none h4
      simp at h3
      rw [bext_old h3] at h2
      exact hs.sr.phantom s' S' h6 h2
     ·simp at h3; subst h3; rw [bext_new] at h2; cases h2
    ·intro s1 s2 S1 S2 m1 m2 h1 h2 hm1 hm2 ee
     rcases old s1 S1 m1 h1 hm1 with ⟨a1,a2,a3,a4⟩ | ⟨rfl,rfl,rfl⟩ <;> rcases old s2 S2 m2 h2 hm2 with ⟨b1,b2,b3,b4⟩ | ⟨rfl,rfl,rfl⟩
     ·exact hs.sr.inj s1 s2 S1 S2 m1 m2 a3 b3 a4 b4 ee
     ·exact absurd (hs.sr.inj s1 r S1 R m1 _ a3 hR a4 hl ee) a1
     ·exact absurd (hs.sr.inj s2 r S2 R m2 _ b3 hR b4 hl ee.symm) b1
     ·rfl
    ·intro b hb; rw [setCells_size]; exact hs.sr.ilt b hb
    ·intro b hb; rw [setCells_size]; exact hs.sr.flt b hb
    ·intro s' S' m' h1 h2 o'
     rw [World.frozen?_setCells]
     rcases old s' S' m' h1 h2 with ⟨_,_,h5,h6⟩ | ⟨rfl,rfl,rfl⟩
     ·exact hs.sr.thaw s' S' m' h5 h6 o'
     ·exact hs.sr.thaw r R _ hR hl o'
    ·intro s' S' o' h1 ho'
     rw [hnewlen]
     rcases getElem?_snoc h1 with ⟨h3,h4⟩ | ⟨h3,h4⟩
     ·obtain ⟨h5,h6⟩:=List.getElem?_set_none h4
      simp at h3
      obtain ⟨e,m,x',g3,g4,g5⟩:=hs.sr.obs s' S' o' h6 ho'
      exact ⟨e,m,x',by rw [bext_old h3]; exact g3,by rw [setCells_block _ _ _ _ _ (fun c0=>h5 (hs.sr.inj s' r S' R m l h6 hR g3 hl c0))]; exact g4,g5.mono fun a v=>hg.rel⟩
     ·cases h4; cases ho'
   ·rw [hnewlen]
    have:=Rel.sl (c:=cellf (w.setCells l.b (off+els.length*i.size) news)) (I:=I) (N:=ρ.length+1) (β:=bext β ρ.length (some ⟨l.b,off,i.size⟩)) ρ.length 0 (els.length+L.length) scap ⟨l.b,off,i.size⟩ (by omega) bext_new hroom
     (fun k hk=>by simp only [Nat.zero_mul,Nat.add_zero]; exact hg.hs _ _ (hcells k hk))
    simpa using this
 ·-- a new row
  obtain ⟨newCap,hcapge,hrun⟩:=run_append_grow' (P:=P) (w:=w) (t:=t) (t':=t') (ty:=o.type) (vx:=a.eval x) (n:=els.length) (m:=L.length) (cap:=scap) (base:=sa) hu hi hizero hd hxv
   (hn2 w.drew (fun _ _=>rfl)) (by have:=ho2 w.drew (fun _ _=>rfl); rwa [hsv] at this) (by omega) hsm hby
  have hsr2:SR w.drew F I β ρ1:=hsr1.drew
  have hnew:=hsr2.newRoot (olds.toArray ++ news.toArray ++ Builtin.zeroCells zv.cells (newCap - (els.length+L.length))) e i.size (els ++ L) (fun k hk=>by
   obtain ⟨b1,b2⟩:=hall k hk
   refine ⟨b1,fun j hj=>⟨(olds ++ news).getD (k*i.size+j) undef,?_,by rw [hlen1]; exact b2 j hj⟩⟩
   have hlt:k*i.size+j<(olds ++ news).length:=by
    have:(k+1)*i.size≤(els ++ L).length*i.size:=Nat.mul_le_mul_right _ hk
    rw [Nat.add_mul] at this
    simp only [List.length_append,Nat.add_mul] at this ⊢
    omega
   have e3:(olds.toArray ++ news.toArray ++ Builtin.zeroCells zv.cells (newCap - (els.length+L.length))).toList=(olds ++ news) ++ (Builtin.zeroCells zv.cells (newCap - (els.length+L.length))).toList:=by simp
   rw [← Array.getElem?_toList,e3,List.getElem?_append_left hlt]
   unfold List.getD
   rw [List.getElem?_eq_getElem hlt]; rfl)
  have hg1:=Grow.alloc_root w.drew (.cells (olds.toArray ++ news.toArray ++ Builtin.zeroCells zv.cells (newCap - (els.length+L.length))) e) I ρ.length β (some ⟨w.heap.size,0,i.size⟩)
  have hg:=(Grow.drew w I ρ.length β).trans hg1
  rw [hlen1] at hnew
  refine ⟨_,_,I,bext β ρ.length (some ⟨w.heap.size,0,i.size⟩),.inl (hexec _ _ (by rw [hsv]; exact hrun)),?_,by rw [hnewlen]; exact hg,hnew,?_⟩
  ·exact ⟨rfl,rfl,rfl,by rw [alloc_size]; show w.heap.size≤w.heap.size+1; omega,fun b hb=>Go.RowKit.Below.heap_alloc w.drew _ b (hs.sr.flt b hb)⟩
  ·rw [hnewlen]
   have:=Rel.sl (c:=cellf (w.drew.alloc (.cells (olds.toArray ++ news.toArray ++ Builtin.zeroCells zv.cells (newCap - (els.length+L.length))) e))) (I:=I) (N:=ρ.length+1) (β:=bext β ρ.length (some ⟨w.heap.size,0,i.size⟩)) ρ.length 0 (els.length+L.length) newCap ⟨w.heap.size,0,i.size⟩ (by omega) bext_new hcapge
    (fun k hk=>by
     simp only [Nat.zero_mul,Nat.add_zero,Nat.zero_add]
     have:=cellf_new w.drew (olds.toArray ++ news.toArray ++ Builtin.zeroCells zv.cells (newCap - (els.length+L.length))) e k
     rw [show w.drew.heap.size=w.heap.size from rfl] at this
     rw [this]
     have hsz:k<(olds.toArray ++ news.toArray ++ Builtin.zeroCells zv.cells (newCap - (els.length+L.length))).size:=by
      simp only [Array.size_append,List.size_toArray,size_zeroCells,hzvs,ho1,hn1,← Nat.add_mul]
      have:els.length+L.length+(newCap - (els.length+L.length))=newCap:=by omega
      rw [this]; exact hk
     rw [Array.getElem?_eq_getElem hsz]; rfl)
   simpa using this
end Go.Lg
