import Derived.Test.YtpdcajchppoocaaLl
set_option linter.unusedVariables false
set_option linter.unusedSimpArgs false
namespace Go.Lg
variable {P:Program}

theorem SR.write {w F I β ρ} (hs:SR w F I β ρ) {r:Nat} {R:Root} {l:Loc} (hR:ρ[r]?=some (some R)) (hl:β r=some l) (p:Nat) (news:List Value) (els':List AV)
  (hlen:els'.length=R.els.length) (hne:R.els≠[]) (hfit:p+news.length≤R.els.length*R.sz) (hz:∀ i,i<R.els.length→(els'.getD i .any).cells.length=R.sz)
  (hin:∀ i j,i<R.els.length→j<R.sz→p≤i*R.sz+j→i*R.sz+j<p+news.length→Rel (cellf w) I ρ.length β ((els'.getD i .any).cells.getD j .any) (news.getD (i*R.sz+j - p) undef))
  (hout:∀ i j,i<R.els.length→j<R.sz→¬ (p≤i*R.sz+j∧i*R.sz+j<p+news.length)→(els'.getD i .any).cells.getD j .any=(R.els.getD i .any).cells.getD j .any) :
  (∀ k,k<news.length→(cellf w l.b (l.off+p+k)).isSome=true)∧Keeps F w (w.setCells l.b (l.off+p) news)∧Grow w (w.setCells l.b (l.off+p) news) I I ρ.length ρ.length β β ∧
   SR (w.setCells l.b (l.off+p) news) F I β (ρ.set r (some ⟨R.sz,els',R.ob⟩)):=by
 obtain ⟨esz,hlt,hnI,hnF⟩:=hs.real r R l hR hl
 have hcell:∀ k,k<news.length→(cellf w l.b (l.off+p+k)).isSome=true:=by
  intro k hk
  have hsz:0<R.sz:=Nat.pos_of_ne_zero (fun e=>by rw [e,Nat.mul_zero] at hfit; omega)
  have h1:(p+k) / R.sz<R.els.length:=(Nat.div_lt_iff_lt_mul hsz).2 (by omega)
  obtain ⟨u,hu,_⟩:=(hs.cells r R l hR hl _ h1).2 _ (Nat.mod_lt (p+k) hsz)
  have e:l.off+(p+k) / R.sz*R.sz+(p+k) % R.sz=l.off+p+k:=by rw [Nat.add_assoc,Nat.mul_comm,Nat.div_add_mod,Nat.add_assoc]
  rw [e] at hu; rw [hu]; rfl
 have hg:Grow w (w.setCells l.b (l.off+p) news) I I ρ.length ρ.length β β:=Grow.setCells hcell hnI
 refine ⟨hcell,Keeps.setCells _ _ _ _ hnF,hg,?_⟩
 have hrl:r<ρ.length:=(List.getElem?_eq_some_iff.1 hR).1
 have newget:∀ (s:Nat) (S:Root),(ρ.set r (some ⟨R.sz,els',R.ob⟩))[s]?=some (some S)→(s=r∧S=⟨R.sz,els',R.ob⟩)∨(s≠r∧ρ[s]?=some (some S)):=by
  intro s S h
  by_cases e:r=s
  ·subst e; simp [hrl] at h; exact .inl ⟨rfl,h.symm⟩
  ·rw [List.getElem?_set_ne e] at h; exact .inr ⟨fun h=>e h.symm,h⟩
 have live:∀ (s:Nat) (S:Root),(ρ.set r (some ⟨R.sz,els',R.ob⟩))[s]?=some (some S)→∃ S',ρ[s]?=some (some S')∧S'.sz=S.sz:=by
  intro s S h
  rcases newget s S h with ⟨rfl,rfl⟩ | ⟨_,h2⟩
  ·exact ⟨R,hR,rfl⟩
  ·exact ⟨S,h2,rfl⟩
 constructor
 ·intro s S m h hm
  obtain ⟨S',h1,h2⟩:=live s S h
  obtain ⟨a1,a2,a3,a4⟩:=hs.real s S' m h1 hm
  exact ⟨by rw [← h2]; exact a1,by rw [setCells_size]; exact a2,a3,a4⟩
 ·intro s S m h hm i hi
  simp only [List.length_set]
  rcases newget s S h with ⟨rfl,rfl⟩ | ⟨hne',h2⟩
  ·rw [hl] at hm; cases hm
   simp only [hlen] at hi
   refine ⟨hz i hi,fun j hj=>?_⟩
   simp only at hj ⊢
   rw [cellf_setCells hcell]
   by_cases hc:p≤i*R.sz+j∧i*R.sz+j<p+news.length
   ·have hcond:l.b=l.b∧l.off+p≤l.off+i*R.sz+j∧l.off+i*R.sz+j<l.off+p+news.length:=by omega
    rw [dif_pos hcond]
    refine ⟨_,rfl,hg.rel ?_⟩
    have:=hin i j hi hj hc.1 hc.2
    have e3:news.getD (i*R.sz+j - p) undef=news[l.off+i*R.sz+j - (l.off+p)]'(by omega):=by
     have e:l.off+i*R.sz+j - (l.off+p)=i*R.sz+j - p:=by omega
     simp only [e,List.getD]
     rw [List.getElem?_eq_getElem (by omega)]; rfl
    rw [← e3]; exact this
   ·have hcond:¬ (l.b=l.b∧l.off+p≤l.off+i*R.sz+j∧l.off+i*R.sz+j<l.off+p+news.length):=by omega
    rw [dif_neg hcond,hout i j hi hj hc]
    obtain ⟨u,hu1,hu2⟩:=(hs.cells _ R l hR hl i hi).2 j hj
    exact ⟨u,hu1,hg.rel hu2⟩
  ·obtain ⟨b1,b2⟩:=hs.cells s S m h2 hm i hi
   refine ⟨b1,fun k hk'=>?_⟩
   obtain ⟨u,hu1,hu2⟩:=b2 k hk'
   refine ⟨u,?_,hg.rel hu2⟩
   rw [cellf_setCells hcell,dif_neg]
   ·exact hu1
   ·rintro ⟨c0,_⟩
    exact hne' (hs.inj s r S R m l h2 hR hm hl c0)
 ·intro s S h hm
  rcases newget s S h with ⟨rfl,rfl⟩ | ⟨hne',h2⟩
  ·rw [hl] at hm; cases hm
  ·exact hs.phantom s S h2 hm
 ·intro s1 s2 S1 S2 m1 m2 h1 h2 hm1 hm2 e
  obtain ⟨S1',g1,_⟩:=live s1 S1 h1
  obtain ⟨S2',g2,_⟩:=live s2 S2 h2
  exact hs.inj s1 s2 S1' S2' m1 m2 g1 g2 hm1 hm2 e
 ·intro b hb; rw [setCells_size]; exact hs.ilt b hb
 ·intro b hb; rw [setCells_size]; exact hs.flt b hb
 ·intro s S m h hm o'
  obtain ⟨S',g1,_⟩:=live s S h
  rw [World.frozen?_setCells]; exact hs.thaw s S' m g1 hm o'
 ·intro s S o' h ho'
  simp only [List.length_set]
  rcases newget s S h with ⟨rfl,rfl⟩ | ⟨hne',h2⟩
  ·exact absurd (hs.obs _ R o' hR ho').1 hne
  ·obtain ⟨e,m,x',h3,h4,h5⟩:=hs.obs s S o' h2 ho'
   exact ⟨e,m,x',h3,by rw [setCells_block _ _ _ _ _ (fun c0=>hne' (hs.inj s r S R m l h2 hR h3 hl c0))]; exact h4,h5.mono fun a v=>hg.rel⟩

theorem flat_getD {S:Nat}:∀ {xs:List AV},(∀ x ∈ xs,x.cells.length=S)→(xs.flatMap AV.cells).length=xs.length*S∧∀ k j,k<xs.length→j<S→(xs.flatMap AV.cells).getD (k*S+j) .any=(xs.getD k .any).cells.getD j .any
 | [],_=>⟨by simp,fun k j hk=>by simp at hk⟩
 | x :: xs,h=>by
  obtain ⟨h1,h2⟩:=flat_getD (xs:=xs) (fun y hy=>h y (by simp [hy]))
  have hx:=h x (by simp)
  refine ⟨by simp [h1,hx,Nat.add_mul]; omega,fun k j hk hj=>?_⟩
  simp only [List.flatMap_cons]
  cases k with
  | zero=>rw [getD_app_left _ _ _ _ (by omega)]; simp
  | succ k =>
   rw [getD_app_right _ _ _ _ (by rw [hx,Nat.add_mul]; omega),hx,show (k+1)*S+j - S=k*S+j by rw [Nat.add_mul]; omega]
   rw [h2 k j (by simpa using hk) hj]; simp

def dstA (S:Nat) (ρ:Store) (x:AV) (xs:List AV):Option Store:=match x with
 | .sl r o n=>match ρ[r]? with
  | some (some R)=>if o+n≤R.els.length∧R.sz=S∧xs.length≤n then (if xs=[] then some ρ else some (ρ.set r (some ⟨R.sz,R.els.take o ++ xs ++ R.els.drop (o+xs.length),R.ob⟩))) else none
  | _=>none
 | .sub r i j sz n=>match ρ[r]? with
  | some (some R)=>if sz=S∧S≠0∧i<R.els.length∧j+n*S≤R.sz∧xs.length≤n then (if xs=[] then some ρ else some (ρ.set r (some ⟨R.sz,R.els.set i (putEl (R.els.getD i .any) j (.agg (xs.flatMap AV.cells))),R.ob⟩))) else none
  | _=>none
 | .sc (.slice none 0 0)=>if xs=[] then some ρ else none
 | _=>none
def lenA:AV→Option Nat
 | .sl _ _ n=>some n
 | .sub _ _ _ _ n=>some n
 | .isl _ L=>some L.length
 | .sc (.slice none 0 0)=>some 0
 | _=>none
theorem lenA_spec {c I N β x v n} (h:lenA x=some n) (hx:Rel c I N β x v):∃ a cap,v=.slice a n cap∧(a=none→n=0):=by
 unfold lenA at h
 split at h <;> cases h
 ·cases hx with
  | sl _ _ _ cap l hr hl hn hc=>exact ⟨_,_,rfl,fun h=>by cases h⟩
  | slz _ _ a hr=>exact ⟨_,_,rfl,fun _=>rfl⟩
 ·cases hx with
  | sub _ _ _ _ _ cap l hr hl hn=>exact ⟨_,_,rfl,fun h=>by cases h⟩
  | subz _ _ _ _ a hr=>exact ⟨_,_,rfl,fun _=>rfl⟩
 ·cases hx with
  | isl _ _ b off cap vs hb hn hz hc hv=>exact ⟨_,_,rfl,fun h=>by cases h⟩
  | islz _ aa=>exact ⟨_,_,rfl,fun _=>rfl⟩
 ·cases hx; exact ⟨_,_,rfl,fun _=>rfl⟩

theorem dstA_spec {S ρ x xs ρ'} {w F I β vx} {news:List Value} (h:dstA S ρ x xs=some ρ') (hs:SR w F I β ρ) (hx:Rel (cellf w) I ρ.length β x vx)
  (hz:∀ y ∈ xs,y.cells.length=S) (hn:news.length=xs.length*S) (h1:∀ u ∈ news,u.oneCell'=true)
  (hr:∀ i,i<xs.length→∀ j,j<S→Rel (cellf w) I ρ.length β ((xs.getD i .any).cells.getD j .any) (news.getD (i*S+j) undef)) :
  ∃ a n cap w',vx=.slice a n cap∧xs.length≤n∧(xs≠[]→a≠none)∧(∀ b,a=some b→(storeCells b news).run P w=.ok () w')∧(a=none→w'=w) ∧
   Keeps F w w'∧Grow w w' I I ρ.length ρ'.length β β∧SR w' F I β ρ':=by
 have hn0:xs=[]→news=[]:=fun e=>List.eq_nil_of_length_eq_zero (by rw [hn,e]; simp)
 have nothing:xs=[]→ρ'=ρ→∀ a n cap,vx=.slice a n cap→∃ a n cap w',vx=.slice a n cap∧xs.length≤n∧(xs≠[]→a≠none)∧(∀ b,a=some b→(storeCells b news).run P w=.ok () w')∧(a=none→w'=w) ∧
   Keeps F w w'∧Grow w w' I I ρ.length ρ'.length β β∧SR w' F I β ρ':=by
  rintro e rfl a n cap rfl
  exact ⟨a,n,cap,w,rfl,by simp [e],fun h=>absurd e h,fun b _=>by rw [hn0 e]; rfl,fun _=>rfl,Keeps.refl _ _,Grow.refl _ _ _ _,hs⟩
 unfold dstA at h
 split at h
 ·rename_i r o n
  split at h
  ·rename_i R hR
   split at h
   ·rename_i hc
    obtain ⟨c1,rfl,c3⟩:=hc
    split at h
    ·rename_i e; cases h
     cases hx with
     | sl _ _ _ cap l hr hl hn hc=>exact nothing e rfl _ _ _ rfl
     | slz _ _ a hr=>exact nothing e rfl _ _ _ rfl
    ·rename_i hne
     cases h
     have hpos:0<xs.length:=List.length_pos_iff.2 hne
     cases hx with
     | slz _ _ a hr=>omega
     | sl _ _ _ cap l hrr hl hcap hcc =>
      have esz:=(hs.real r R l hR hl).1
      have hlenx:(R.els.take o ++ xs ++ R.els.drop (o+xs.length)).length=R.els.length:=by simp; omega
      have get:∀ i,i<R.els.length→(R.els.take o ++ xs ++ R.els.drop (o+xs.length)).getD i .any=if o≤i∧i<o+xs.length then xs.getD (i - o) .any else R.els.getD i .any:=by
       intro i hi
       have hlo:(R.els.take o).length=o:=by simp; omega
       split
       ·rename_i hc
        rw [List.append_assoc,getD_app_right _ _ _ _ (by omega),hlo,getD_app_left _ _ _ _ (by omega)]
       ·rename_i hc
        by_cases hlt:i<o
        ·rw [List.append_assoc,getD_app_left _ _ _ _ (by omega),getD_take _ _ _ hlt]
        ·rw [getD_app_right _ _ _ _ (by simp; omega)]
         simp only [List.getD,List.length_append,hlo,List.getElem?_drop]
         congr 2; omega
      have mem:∀ k,k<xs.length→(xs.getD k .any).cells.length=R.sz:=fun k hk=>by
       have:xs.getD k .any=xs[k]:=by simp [List.getD,hk]
       rw [this]; exact hz _ (List.getElem_mem _)
      have rng:∀ i j,j<R.sz→(o*R.sz≤i*R.sz+j∧i*R.sz+j<o*R.sz+news.length↔o≤i∧i<o+xs.length):=by
       intro i j hj
       constructor
       ·rintro ⟨a1,a2⟩
        constructor
        ·by_cases hh:o≤i
         ·exact hh
         ·have:(i+1)*R.sz≤o*R.sz:=Nat.mul_le_mul_right _ (by omega)
          rw [Nat.add_mul] at this; omega
        ·by_cases hh:i<o+xs.length
         ·exact hh
         ·have:(o+xs.length)*R.sz≤i*R.sz:=Nat.mul_le_mul_right _ (by omega)
          rw [Nat.add_mul] at this; omega
       ·rintro ⟨a1,a2⟩
        have b1:o*R.sz≤i*R.sz:=Nat.mul_le_mul_right _ a1
        have b2:(i+1)*R.sz≤(o+xs.length)*R.sz:=Nat.mul_le_mul_right _ (by omega)
        rw [Nat.add_mul,Nat.add_mul] at b2; omega
      have hw:=hs.write hR hl (o*R.sz) news _ hlenx (fun e=>by rw [e] at c1; simp at c1; omega) (by rw [hn,← Nat.add_mul]; exact Nat.mul_le_mul_right _ (by omega))
       (fun i hi=>by
        rw [get i hi]
        split
        ·rename_i hc; exact mem _ (by omega)
        ·exact (hs.cells r R l hR hl i hi).1)
       (fun i j hi hj d1 d2=>by
        have hc:=(rng i j hj).1 ⟨d1,d2⟩
        rw [get i hi,if_pos hc]
        have:=hr (i - o) (by omega) j hj
        have e:(i - o)*R.sz+j=i*R.sz+j - o*R.sz:=by
         have:o*R.sz≤i*R.sz:=Nat.mul_le_mul_right _ hc.1
         rw [Nat.sub_mul]; omega
        rw [← e]; exact this)
       (fun i j hi hj d=>by
        rw [get i hi,if_neg (fun hc=>d ((rng i j hj).2 hc))])
      obtain ⟨w1,w2,w3,w4⟩:=hw
      have hrun:=run_storeCells_cells (P:=P) l.b (l.off+o*R.sz) news 0 w (by simpa [cellf] using w1) (fun k _=>hs.thaw r R l hR hl _) h1
      exact ⟨_,n,cap,_,rfl,c3,fun _=>by simp,fun b hb=>by cases hb; rw [esz]; simpa using hrun,fun h=>absurd h (by simp),w2,by simpa using w3,w4⟩
   ·cases h
  ·cases h
 ·rename_i r i j sz n
  split at h
  ·rename_i R hR
   split at h
   ·rename_i hc
    obtain ⟨rfl,c2,c3,c4,c5⟩:=hc
    split at h
    ·rename_i e; cases h
     cases hx with
     | sub _ _ _ _ _ cap l hr hl hn=>exact nothing e rfl _ _ _ rfl
     | subz _ _ _ _ a hr=>exact nothing e rfl _ _ _ rfl
    ·rename_i hne
     cases h
     have hpos:0<xs.length:=List.length_pos_iff.2 hne
     cases hx with
     | subz _ _ _ _ a hr=>omega
     | sub _ _ _ _ _ cap l hrr hl hcap =>
      have esz:=(hs.real r R l hR hl).1
      obtain ⟨f1,f2⟩:=flat_getD hz
      have hle:xs.length*sz≤n*sz:=Nat.mul_le_mul_right _ c5
      have hci:=(hs.cells r R l hR hl i c3).1
      generalize hE:R.els.getD i .any=E at *
      have hpc:=putEl_cells (e:=E) (j:=j) (x:=.agg (xs.flatMap AV.cells)) (by rw [hci]; show j+(xs.flatMap AV.cells).length≤_; rw [f1]; omega) (by show (xs.flatMap AV.cells).length≠0; rw [f1]; exact Nat.mul_ne_zero (by omega) c2)
      have hpc:(putEl (E) j (.agg (xs.flatMap AV.cells))).cells=(E).cells.take j ++ xs.flatMap AV.cells ++ (E).cells.drop (j+xs.length*sz):=by rw [hpc]; show _ ++ xs.flatMap AV.cells ++ (E).cells.drop (j+(xs.flatMap AV.cells).length)=_; rw [f1]
      have e0:(R.els.set i (putEl (E) j (.agg (xs.flatMap AV.cells)))).getD i .any=putEl (E) j (.agg (xs.flatMap AV.cells)):=by simp [List.getD,c3]
      have e1:∀ i',i'≠i→(R.els.set i (putEl (E) j (.agg (xs.flatMap AV.cells)))).getD i' .any=R.els.getD i' .any:=fun i' h=>by simp [List.getD,List.getElem?_set_ne (Ne.symm h)]
      have hlo:((E).cells.take j).length=j:=by simp; omega
      have rng:∀ i' q,q<R.sz→i*R.sz+j≤i'*R.sz+q→i'*R.sz+q<i*R.sz+j+news.length→i'=i∧j≤q∧q<j+xs.length*sz:=by
       intro i' q hq d1 d2
       have:i'=i:=by
        by_cases h':i'<i
        ·have:(i'+1)*R.sz≤i*R.sz:=Nat.mul_le_mul_right _ h'
         rw [Nat.add_mul] at this; omega
        ·by_cases h'':i<i'
         ·have:(i+1)*R.sz≤i'*R.sz:=Nat.mul_le_mul_right _ h''
          rw [Nat.add_mul] at this; omega
         ·omega
       subst this
       exact ⟨rfl,by omega,by omega⟩
      have hw:=hs.write hR hl (i*R.sz+j) news (R.els.set i (putEl (E) j (.agg (xs.flatMap AV.cells)))) (by simp) (fun e=>by rw [e] at c3; simp at c3)
       (by
        have:(i+1)*R.sz≤R.els.length*R.sz:=Nat.mul_le_mul_right _ c3
        rw [Nat.add_mul] at this; omega)
       (fun i' hi=>by
        by_cases e:i'=i
        ·subst e; rw [e0,hpc]; simp [f1]; omega
        ·rw [e1 i' e]; exact (hs.cells r R l hR hl i' hi).1)
       (fun i' q hi hq d1 d2=>by
        obtain ⟨rfl,g1,g2⟩:=rng i' q hq d1 d2
        rw [e0,hpc,List.append_assoc,getD_app_right _ _ _ _ (by omega),hlo,getD_app_left _ _ _ _ (by omega)]
        have hS:0<sz:=Nat.pos_of_ne_zero c2
        have k1:(q - j) / sz<xs.length:=(Nat.div_lt_iff_lt_mul hS).2 (by omega)
        have:=hr _ k1 _ (Nat.mod_lt (q - j) hS)
        rw [← f2 _ _ k1 (Nat.mod_lt _ hS)] at this
        have e:(q - j) / sz*sz+(q - j) % sz=q - j:=by rw [Nat.mul_comm,Nat.div_add_mod]
        rw [e] at this
        rwa [show i'*R.sz+q - (i'*R.sz+j)=q - j by omega])
       (fun i' q hi hq d=>by
        by_cases e:i'=i
        ·subst e
         rw [e0,hpc,hE]
         by_cases hlt:q<j
         ·rw [List.append_assoc,getD_app_left _ _ _ _ (by omega),getD_take _ _ _ hlt]
         ·have:j+xs.length*sz≤q:=by
           by_cases h':j+xs.length*sz≤q
           ·exact h'
           ·exact absurd ⟨by omega,by omega⟩ d
          rw [getD_app_right _ _ _ _ (by simp [f1]; omega)]
          simp only [List.getD,List.length_append,hlo,f1,List.getElem?_drop]
          congr 2; omega
        ·rw [e1 i' e])
      obtain ⟨w1,w2,w3,w4⟩:=hw
      have hrun:=run_storeCells_cells (P:=P) l.b (l.off+(i*R.sz+j)) news 0 w (by simpa [cellf] using w1) (fun k _=>hs.thaw r R l hR hl _) h1
      exact ⟨_,n,cap,_,rfl,c5,fun _=>by simp,fun b hb=>by cases hb; rw [esz,Nat.add_assoc]; simpa using hrun,fun h=>absurd h (by simp),w2,by simpa using w3,w4⟩
   ·cases h
  ·cases h
 ·split at h
  ·rename_i e; cases h
   cases hx
   exact nothing e rfl _ _ _ rfl
  ·cases h
 ·cases h
end Go.Lg
