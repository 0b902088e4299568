import Derived.Test.YtpdcajchppoocaaHaHbHbV
set_option linter.unusedVariables false
set_option linter.unusedSimpArgs false
namespace Go.Lg
def chR (T:Tn) (R:St→Option Int) (s:St) (b:Bool):Option Int :=
 if b=true∧s.n=1 then none else
 if 0<slS T (if b=true then tnS T s else s) (T.hi s.h.toNat) then none else
 (R (psS T (if b=true then tnS T s else s) (T.hi s.h.toNat))).map fun c=>(if b=true then coS T s else 0)+c
def rnS (T:Tn) (w:Nat→Bool):Nat→St→Option Int
 | 0,_=>some 0
 | m+1,s=>chR T (rnS T w m) (cbS T.nb s) (w s.h.toNat)
structure e5 (s t:St):Prop where
 h:s.h=t.h
 n:s.n=t.n
 bx:∀ i,i<5→s.bx i=t.bx i
 fo:∀ i,i<5→s.fo i=t.fo i
 rv:∀ i,i<5→s.rv i=t.rv i
 ba:∀ i,i<5→s.ba i=t.ba i
theorem e5.symm {s t:St} (h:e5 s t):e5 t s:=⟨h.h.symm,h.n.symm,fun i hi=>(h.bx i hi).symm,fun i hi=>(h.fo i hi).symm,fun i hi=>(h.rv i hi).symm,fun i hi=>(h.ba i hi).symm⟩
theorem nf5 (s:St):e5 (nfS s) s:=⟨rfl,rfl,fun i hi=>cut_lt hi,fun i hi=>cut_lt hi,fun i hi=>cut_lt hi,fun i hi=>cut_lt hi⟩
theorem up5 {f g:Nat→Int} {i:Int} {v:Int} (h:∀ j,j<5→f j=g j):∀ j,j<5→upF f i v j=upF g i v j:=fun j hj=>by
 unfold upF; split
 ·rfl
 ·exact h j hj
theorem ro5 {n:Nat} (hn:n≤5) {f g:Nat→Int} (h:∀ j,j<5→f j=g j):∀ j,j<5→roF n f j=roF n g j:=fun j hj=>by
 unfold roF; split
 ·exact h _ (by omega)
 ·split
  ·exact h 0 (by omega)
  ·exact h j hj
section
variable {T:Tn} {s t:St}
theorem cb5 (hb:T.nb≤5) (h:e5 s t):e5 (cbS T.nb s) (cbS T.nb t):=by
 have hc:(s.n<T.nb∧s.ba s.n.toNat=s.h)↔(t.n<T.nb∧t.ba t.n.toNat=t.h):=by
  rw [h.n,h.h]
  constructor
  ·rintro ⟨h1,h2⟩; exact ⟨h1,by rw [← h.ba _ (by omega)]; exact h2⟩
  ·rintro ⟨h1,h2⟩; exact ⟨h1,by rw [h.ba _ (by omega)]; exact h2⟩
 unfold cbS
 by_cases h1:s.n<T.nb∧s.ba s.n.toNat=s.h
 ·rw [if_pos h1,if_pos (hc.1 h1)]
  exact ⟨h.h,by show s.n+1=t.n+1; rw [h.n],h.bx,h.fo,h.rv,by show ∀ i,i<5→upF s.ba s.n 0 i=upF t.ba t.n 0 i; rw [h.n]; exact up5 h.ba⟩
 ·rw [if_neg h1,if_neg fun h2=>h1 (hc.2 h2)]; exact h
theorem co5 (h:e5 s t):coS T s=coS T t:=by unfold coS; rw [h.rv 0 (by omega)]
theorem tn5 (hb:T.nb≤5) (h:e5 s t):e5 (tnS T s) (tnS T t):=by
 refine ⟨h.h,by show s.n - 1=t.n - 1; rw [h.n],ro5 hb h.bx,fun i hi=>?_,?_,?_⟩
 ·show (if s.n - 1≤(i:Int) then (0:Int) else roF T.nb s.fo i)=if t.n - 1≤(i:Int) then 0 else roF T.nb t.fo i
  rw [h.n,ro5 hb h.fo i hi]
 ·show ∀ i,i<5→roF T.nb (upF s.rv 0 (if s.rv 0<T.rv then s.rv 0+1 else 0)) i=roF T.nb (upF t.rv 0 (if t.rv 0<T.rv then t.rv 0+1 else 0)) i
  rw [h.rv 0 (by omega)]; exact ro5 hb (up5 h.rv)
 ·show ∀ i,i<5→roF T.nb (upF s.ba 0 (s.h+T.re)) i=roF T.nb (upF t.ba 0 (t.h+T.re)) i
  rw [h.h]; exact ro5 hb (up5 h.ba)
theorem lv5 (h:e5 s t) (c:Int):∀ j,j≤5→lvS T s c j=lvS T t c j
 | 0,_=>rfl
 | j+1,hj=>by
  have ih:=lv5 h c j (by omega)
  show lvS T s c j - min (min (lvS T s c j) (T.rt (s.bx j).toNat)) (rooS T s j)=lvS T t c j - min (min (lvS T t c j) (T.rt (t.bx j).toNat)) (rooS T t j)
  unfold rooS
  rw [ih,h.bx j (by omega),h.rv j (by omega),h.fo j (by omega)]
theorem tk5 (h:e5 s t) (c:Int) {j:Nat} (hj:j<5):tkS T s c j=tkS T t c j:=by
 unfold tkS rooS
 rw [lv5 h c j (by omega),h.bx j hj,h.rv j hj,h.fo j hj]
theorem sl5 (hn:s.n≤5) (h:e5 s t) (c:Int):slS T s c=slS T t c:=by
 unfold slS
 rw [lv5 h c _ (by omega),h.n]
theorem ps5 (h:e5 s t) (c:Int):e5 (psS T s c) (psS T t c):=by
 refine ⟨by show s.h+1=t.h+1; rw [h.h],h.n,h.bx,fun i hi=>?_,h.rv,h.ba⟩
 show (if (i:Int)<s.n then s.fo i+tkS T s c i else s.fo i)=if (i:Int)<t.n then t.fo i+tkS T t c i else t.fo i
 rw [h.n,h.fo i hi,tk5 h c hi]
theorem cb_nb (h:s.n≤T.nb):(cbS T.nb s).n≤T.nb:=by
 unfold cbS
 split
 ·rename_i hc; show s.n+1≤_; omega
 ·exact h
theorem cb_hh:(cbS T.nb s).h=s.h:=by unfold cbS; split <;> rfl
def trS (T:Tn) (s:St) (b:Bool):St:=if b=true then tnS T s else s
theorem tr5 (hb:T.nb≤5) (h:e5 s t) (b:Bool):e5 (trS T s b) (trS T t b):=by
 unfold trS; split
 ·exact tn5 hb h
 ·exact h
theorem tr_nb (h:s.n≤T.nb) (b:Bool):(trS T s b).n≤T.nb:=by
 unfold trS; split
 ·show s.n - 1≤_; omega
 ·exact h
theorem tr_hh (b:Bool):(trS T s b).h=s.h:=by unfold trS; split <;> rfl
theorem chR5 (hb:T.nb≤5) (hn:s.n≤T.nb) (h:e5 s t) {R:St→Option Int} (hR:∀ u v:St,u.n≤(T.nb:Int)→e5 u v→R u=R v) (b:Bool):chR T R s b=chR T R t b:=by
 have e1:=sl5 (T:=T) (s:=trS T s b) (by have:=tr_nb hn b; omega) (tr5 hb h b) (T.hi s.h.toNat)
 have e2:=hR _ _ (by show (trS T s b).n≤_; exact tr_nb hn b) (ps5 (T:=T) (tr5 hb h b) (T.hi s.h.toNat))
 unfold trS at e1 e2
 unfold chR
 rw [h.h] at e1 e2
 rw [h.n,h.h,e1,e2,co5 h]
theorem rn5 (hb:T.nb≤5) (w:Nat→Bool):∀ (m:Nat) (s t:St),s.n≤T.nb→e5 s t→rnS T w m s=rnS T w m t
 | 0,_,_,_,_=>rfl
 | m+1,s,t,hn,h=>by
  show chR T (rnS T w m) (cbS T.nb s) (w s.h.toNat)=chR T (rnS T w m) (cbS T.nb t) (w t.h.toNat)
  rw [h.h]
  exact chR5 hb (cb_nb hn) (cb5 hb h) (fun u v hu=>rn5 hb w m u v hu) _
theorem rn_w {w v:Nat→Bool}:∀ (m:Nat) (s:St),0≤s.h→(∀ i,s.h.toNat≤i→i<s.h.toNat+m→w i=v i)→rnS T w m s=rnS T v m s
 | 0,_,_,_=>rfl
 | m+1,s,h0,h=>by
  show chR T (rnS T w m) (cbS T.nb s) (w s.h.toNat)=chR T (rnS T v m) (cbS T.nb s) (v s.h.toNat)
  rw [h _ (Nat.le_refl _) (by omega)]
  unfold chR
  have e:rnS T w m (psS T (if v s.h.toNat=true then tnS T (cbS T.nb s) else cbS T.nb s) (T.hi (cbS T.nb s).h.toNat))=rnS T v m (psS T (if v s.h.toNat=true then tnS T (cbS T.nb s) else cbS T.nb s) (T.hi (cbS T.nb s).h.toNat)):=by
   have eh:(psS T (if v s.h.toNat=true then tnS T (cbS T.nb s) else cbS T.nb s) (T.hi (cbS T.nb s).h.toNat)).h=s.h+1:=by
    show (trS T (cbS T.nb s) (v s.h.toNat)).h+1=_
    rw [tr_hh,cb_hh]
   exact rn_w m _ (by omega) fun i h1 h2=>h i (by omega) (by omega)
  rw [e]
end
end Go.Lg

namespace Go.Lg
def lxQ (h m:Nat) (a b:Nat→Bool):Prop:=(∀ i,h≤i→i<h+m→a i=b i)∨∃ i,h≤i∧i<h+m∧(∀ j,h≤j→j<i→a j=b j)∧a i=false∧b i=true
structure bstP (T:Tn) (m:Nat) (s:St) (p:Pl):Prop where
 a:p.c=true→rnS T p.t.testBit m s=some p.k
 b:∀ w c,rnS T w m s=some c→p.c=true∧(p.k<c∨p.k=c∧lxQ s.h.toNat m p.t.testBit w)
 z:∀ i,i<s.h.toNat→p.t.testBit i=false
structure bstC (T:Tn) (m:Nat) (s:St) (b:Bool) (p:Pl):Prop where
 a:p.c=true→rnS T p.t.testBit (m+1) s=some p.k∧p.t.testBit s.h.toNat=b
 b:∀ w c,w s.h.toNat=b→rnS T w (m+1) s=some c→p.c=true∧(p.k<c∨p.k=c∧lxQ s.h.toNat (m+1) p.t.testBit w)
 z:∀ i,i<s.h.toNat→p.t.testBit i=false
theorem zP_z {i:Nat}:(zP).t.testBit i=false:=Nat.zero_testBit i
theorem ch_bst {T:Tn} (hb:T.nb≤5) {m:Nat} {s:St} (h0:0≤s.h) (hn:s.n≤T.nb) (R:St→Pl) (hR:∀ u:St,u.h=s.h+1→u.n≤(T.nb:Int)→bstP T m u (R u)) (b:Bool):bstC T m s b (chP T R (nfS (cbS T.nb s)) b):=by
 have ek:=nf5 (cbS T.nb s)
 have hh:(nfS (cbS T.nb s)).h=s.h:=(ek.h).trans cb_hh
 have hkn:(nfS (cbS T.nb s)).n≤T.nb:=by rw [ek.n]; exact cb_nb hn
 have rn:∀ w:Nat→Bool,w s.h.toNat=b→rnS T w (m+1) s=chR T (rnS T w m) (nfS (cbS T.nb s)) b:=fun w hw=>by
  show chR T (rnS T w m) (cbS T.nb s) (w s.h.toNat)=_
  rw [hw]
  exact chR5 hb (cb_nb hn) ek.symm (fun u v hu h=>rn5 hb w m u v hu h) b
 generalize nfS (cbS T.nb s)=k at ek hh hkn rn
 unfold chP
 unfold chR at rn
 rw [hh] at rn ⊢
 by_cases h1:b=true∧k.n=1
 ·simp only [if_pos h1] at rn ⊢
  exact ⟨fun e=>(nomatch e),fun w c hw hc=>(by rw [rn w hw] at hc; cases hc),fun i _=>zP_z⟩
 simp only [if_neg h1] at rn ⊢
 by_cases h2:0<slS T (if b=true then tnS T k else k) (T.hi s.h.toNat)
 ·simp only [if_pos h2] at rn ⊢
  exact ⟨fun e=>(nomatch e),fun w c hw hc=>(by rw [rn w hw] at hc; cases hc),fun i _=>zP_z⟩
 simp only [if_neg h2] at rn ⊢
 have eu:(nfS (psS T (if b=true then tnS T k else k) (T.hi s.h.toNat))).h=s.h+1:=by
  show (trS T k b).h+1=_; rw [tr_hh,hh]
 have nu:(psS T (if b=true then tnS T k else k) (T.hi s.h.toNat)).n≤T.nb:=by show (trS T k b).n≤_; exact tr_nb hkn b
 have hr:=hR _ eu nu
 have e2:∀ w:Nat→Bool,rnS T w m (psS T (if b=true then tnS T k else k) (T.hi s.h.toNat))=rnS T w m (nfS (psS T (if b=true then tnS T k else k) (T.hi s.h.toNat))):=fun w=>rn5 hb w m _ _ nu (nf5 _).symm
 simp only [e2] at rn
 generalize nfS (psS T (if b=true then tnS T k else k) (T.hi s.h.toNat))=u at eu hr rn
 generalize hg:(if b=true then coS T k else 0)=q at rn
 have tb:∀ i,((if b=true then 2 ^ s.h.toNat else 0) ||| (R u).t).testBit i=((b && decide (i=s.h.toNat)) || (R u).t.testBit i):=fun i=>by
  rw [Nat.testBit_or]
  cases b with
  | false=>simp
  | true=>simp [Nat.testBit_two_pow,eq_comm]
 have hz:=hr.z
 rw [eu] at hz
 have hz':∀ i,i≤s.h.toNat→(R u).t.testBit i=false:=fun i hi=>hz i (by omega)
 by_cases h3:(R u).c=true
 ·rw [if_pos h3]
  have same:∀ i,u.h.toNat≤i→i<u.h.toNat+m→((if b=true then 2 ^ s.h.toNat else 0) ||| (R u).t).testBit i=(R u).t.testBit i:=fun i h1 _=>by
   rw [tb,show decide (i=s.h.toNat)=false by simp; omega]; simp
  have atH:((if b=true then 2 ^ s.h.toNat else 0) ||| (R u).t).testBit s.h.toNat=b:=by
   rw [tb,hz' _ (Nat.le_refl _)]; simp
  refine ⟨fun _=>⟨?_,atH⟩,fun w c hw hc=>?_,fun i hi=>?_⟩
  ·show rnS T ((if b=true then 2 ^ s.h.toNat else 0) ||| (R u).t).testBit (m+1) s=some (_+(R u).k)
   rw [rn _ atH,rn_w m u (by omega) same,hr.a h3]; rfl
  ·rw [rn w hw] at hc
   cases hd:rnS T w m u with
   | none=>rw [hd] at hc; cases hc
   | some d =>
    rw [hd] at hc
    have hc:some (q+d)=some c:=hc
    have hc:q+d=c:=Option.some.inj hc
    obtain ⟨_,h5⟩:=hr.b w d hd
    refine ⟨rfl,?_⟩
    show q+(R u).k<c∨q+(R u).k=c∧lxQ s.h.toNat (m+1) ((if b=true then 2 ^ s.h.toNat else 0) ||| (R u).t).testBit w
    rcases h5 with h5 | ⟨h5,h6⟩
    ·exact .inl (by omega)
    ·refine .inr ⟨by omega,?_⟩
     have all:∀ i,s.h.toNat≤i→i<s.h.toNat+(m+1)→((∀ j,u.h.toNat≤j→j≤i→(R u).t.testBit j=w j)→((if b=true then 2 ^ s.h.toNat else 0) ||| (R u).t).testBit i=w i):=fun i h1 h2 h3=>by
      by_cases e:i=s.h.toNat
      ·subst e; rw [atH,hw]
      ·rw [same i (by omega) (by omega)]; exact h3 i (by omega) (Nat.le_refl _)
     rcases h6 with h6 | ⟨i,i1,i2,i3,i4,i5⟩
     ·exact .inl fun i h1 h2=>all i h1 h2 fun j j1 j2=>h6 j j1 (by omega)
     ·exact .inr ⟨i,by omega,by omega,fun j j1 j2=>all j j1 (by omega) fun l l1 l2=>i3 l l1 (by omega),by rw [same i i1 i2]; exact i4,i5⟩
  ·show ((if b=true then 2 ^ s.h.toNat else 0) ||| (R u).t).testBit i=false
   rw [tb,hz' i (by omega),show decide (i=s.h.toNat)=false by simp; omega]; simp
 ·rw [if_neg h3]
  refine ⟨fun e=>(nomatch e),fun w c hw hc=>?_,fun i _=>zP_z⟩
  rw [rn w hw] at hc
  cases hd:rnS T w m u with
  | none=>rw [hd] at hc; cases hc
  | some d=>exact (h3 (hr.b w d hd).1).elim
theorem pl_bst {T:Tn} (hb:T.nb≤5):∀ (m:Nat) (s:St),0≤s.h→s.n≤(T.nb:Int)→bstP T m s (plP T m s)
 | 0,s,_,_=>⟨fun _=>rfl,fun w c hc=>⟨rfl,.inr ⟨Option.some.inj hc,.inl fun i h1 h2=>by omega⟩⟩,fun i _=>Nat.zero_testBit i⟩
 | m+1,s,h0,hn=>by
  have ih:∀ u:St,u.h=s.h+1→u.n≤(T.nb:Int)→bstP T m u (plP T m u):=fun u h1 h2=>pl_bst hb m u (by omega) h2
  have B1:=ch_bst hb h0 hn (plP T m) ih true
  have B0:=ch_bst hb h0 hn (plP T m) ih false
  show bstP T (m+1) s (upP (chP T (plP T m) (nfS (cbS T.nb s)) true) (upP (chP T (plP T m) (nfS (cbS T.nb s)) false) zP))
  generalize chP T (plP T m) (nfS (cbS T.nb s)) true=P at B1 ⊢
  generalize chP T (plP T m) (nfS (cbS T.nb s)) false=Q at B0 ⊢
  have hQ:upP Q zP=if Q.c=true then Q else zP:=by
   unfold upP
   by_cases hq:Q.c=true
   ·rw [if_pos hq,if_pos (show beP Q zP from ⟨hq,.inl (by decide)⟩)]
   ·rw [if_neg hq,if_neg (show ¬ beP Q zP from fun e=>hq e.1)]
  rw [hQ]
  by_cases hq:Q.c=true
  ·rw [if_pos hq]
   unfold upP
   by_cases hp:beP P Q
   ·rw [if_pos hp]
    have hlt:P.k<Q.k:=hp.2.resolve_left fun e=>e hq
    refine ⟨fun e=>(B1.a e).1,fun w c hc=>?_,B1.z⟩
    cases hw:w s.h.toNat with
    | true=>exact B1.b w c hw hc
    | false =>
     obtain ⟨_,h5⟩:=B0.b w c hw hc
     exact ⟨hp.1,.inl (by omega)⟩
   ·rw [if_neg hp]
    refine ⟨fun e=>(B0.a e).1,fun w c hc=>?_,B0.z⟩
    cases hw:w s.h.toNat with
    | false=>exact B0.b w c hw hc
    | true =>
     obtain ⟨h4,h5⟩:=B1.b w c hw hc
     have:¬ P.k<Q.k:=fun e=>hp ⟨h4,.inr e⟩
     refine ⟨hq,?_⟩
     by_cases hlt:Q.k<c
     ·exact .inl hlt
     ·refine .inr ⟨by omega,.inr ⟨s.h.toNat,Nat.le_refl _,by omega,fun j j1 j2=>by omega,(B0.a hq).2,hw⟩⟩
  ·rw [if_neg hq]
   unfold upP
   by_cases hp:P.c=true
   ·rw [if_pos (show beP P zP from ⟨hp,.inl (by decide)⟩)]
    refine ⟨fun e=>(B1.a e).1,fun w c hc=>?_,B1.z⟩
    cases hw:w s.h.toNat with
    | true=>exact B1.b w c hw hc
    | false=>exact (hq (B0.b w c hw hc).1).elim
   ·rw [if_neg (show ¬ beP P zP from fun e=>hp e.1)]
    refine ⟨fun e=>(nomatch e),fun w c hc=>?_,fun i _=>zP_z⟩
    cases hw:w s.h.toNat with
    | true=>exact (hp (B1.b w c hw hc).1).elim
    | false=>exact (hq (B0.b w c hw hc).1).elim
end Go.Lg

namespace Go.Lg
noncomputable def ctA (T:Tn) (w:Nat→Bool) (c:Nat→Int):Nat→Int
 | 0=>0
 | h+1=>ctA T w c h+if w h=true then coS T (cbS T.nb (stA T (fun k=>w k=true) c h)) else 0
def gdA (T:Tn) (w:Nat→Bool) (c:Nat→Int) (k:Nat):Prop:=¬ wrA T (fun k=>w k=true) c k∧¬ 0<slA T (fun k=>w k=true) c k
theorem wt_tr {T:Tn} {w:Nat→Bool} {s:St} {h:Nat}:wtS T (fun k=>w k=true) s h=if w h=true then tnS T (cbS T.nb s) else cbS T.nb s:=by
 unfold wtS
 by_cases e:w h=true
 ·rw [if_pos e,if_pos e]
 ·rw [if_neg e,if_neg e]
theorem rn_st {T:Tn} {w:Nat→Bool}:∀ (m h:Nat),h+m=T.nl→∀ c,rnS T w m (stA T (fun k=>w k=true) T.hi h)=some c↔(∀ k,h≤k→k<T.nl→gdA T w T.hi k)∧c=ctA T w T.hi T.nl - ctA T w T.hi h
 | 0,h,e,c=>by
  obtain rfl:h=T.nl:=by omega
  constructor
  ·intro hc
   have hc:(0:Int)=c:=Option.some.inj hc
   exact ⟨fun k h1 h2=>by omega,by omega⟩
  ·rintro ⟨_,hc⟩
   have:c=0:=by omega
   subst this; rfl
 | m+1,h,e,c=>by
  have ih:=rn_st (T:=T) (w:=w) m (h+1) (by omega)
  have eh:(stA T (fun k=>w k=true) T.hi h).h=h:=st_h h
  have et:(stA T (fun k=>w k=true) T.hi h).h.toNat=h:=by rw [eh]; omega
  have ec:(cbS T.nb (stA T (fun k=>w k=true) T.hi h)).h.toNat=h:=by rw [cb_hh]; exact et
  have key:rnS T w (m+1) (stA T (fun k=>w k=true) T.hi h)=chR T (rnS T w m) (cbS T.nb (stA T (fun k=>w k=true) T.hi h)) (w h):=by
   show chR T (rnS T w m) _ (w (stA T (fun k=>w k=true) T.hi h).h.toNat)=_
   rw [et]
  have e1:ctA T w T.hi (h+1)=ctA T w T.hi h+if w h=true then coS T (cbS T.nb (stA T (fun k=>w k=true) T.hi h)) else 0:=rfl
  have e2:stA T (fun k=>w k=true) T.hi (h+1)=psS T (if w h=true then tnS T (cbS T.nb (stA T (fun k=>w k=true) T.hi h)) else cbS T.nb (stA T (fun k=>w k=true) T.hi h)) (T.hi h):=by
   rw [← wt_tr]; rfl
  have e3:slA T (fun k=>w k=true) T.hi h=slS T (if w h=true then tnS T (cbS T.nb (stA T (fun k=>w k=true) T.hi h)) else cbS T.nb (stA T (fun k=>w k=true) T.hi h)) (T.hi h):=by
   rw [← wt_tr]; rfl
  have e4:wrA T (fun k=>w k=true) T.hi h↔w h=true∧(cbS T.nb (stA T (fun k=>w k=true) T.hi h)).n=1:=Iff.rfl
  rw [key]
  unfold chR
  rw [ec,← e2,← e3]
  have none_:∀ d:Int,¬ gdA T w T.hi h→((none:Option Int)=some d↔(∀ k,h≤k→k<T.nl→gdA T w T.hi k)∧d=ctA T w T.hi T.nl - ctA T w T.hi h):=fun d hn=>⟨fun e=>(nomatch e),fun e=>(hn (e.1 h (Nat.le_refl _) (by omega))).elim⟩
  by_cases h1:w h=true∧(cbS T.nb (stA T (fun k=>w k=true) T.hi h)).n=1
  ·rw [if_pos h1]
   exact none_ c fun e=>e.1 (e4.2 h1)
  rw [if_neg h1]
  by_cases h2:0<slA T (fun k=>w k=true) T.hi h
  ·rw [if_pos h2]
   exact none_ c fun e=>e.2 h2
  rw [if_neg h2]
  have hg:gdA T w T.hi h:=⟨fun e=>h1 (e4.1 e),h2⟩
  generalize hq:(if w h=true then coS T (cbS T.nb (stA T (fun k=>w k=true) T.hi h)) else 0)=q at e1 ⊢
  constructor
  ·intro hc
   cases hd:rnS T w m (stA T (fun k=>w k=true) T.hi (h+1)) with
   | none=>rw [hd] at hc; cases hc
   | some d =>
    rw [hd] at hc
    have hc:some (q+d)=some c:=hc
    have hc:q+d=c:=Option.some.inj hc
    obtain ⟨i1,i2⟩:=(ih d).1 hd
    refine ⟨fun k k1 k2=>?_,by omega⟩
    by_cases ek:k=h
    ·subst ek; exact hg
    ·exact i1 k (by omega) k2
  ·rintro ⟨i1,i2⟩
   have:=(ih (c - q)).2 ⟨fun k k1 k2=>i1 k (by omega) k2,by omega⟩
   rw [this]
   show some (q+(c - q))=some c
   congr 1; omega
theorem se_best {T:Tn} (hb:T.nb≤5):((plP T T.nl (beS T)).c=true→(∀ k,k<T.nl→gdA T (plP T T.nl (beS T)).t.testBit T.hi k)∧(plP T T.nl (beS T)).k=ctA T (plP T T.nl (beS T)).t.testBit T.hi T.nl) ∧
  ∀ w,(∀ k,k<T.nl→gdA T w T.hi k)→(plP T T.nl (beS T)).c=true∧((plP T T.nl (beS T)).k<ctA T w T.hi T.nl∨(plP T T.nl (beS T)).k=ctA T w T.hi T.nl∧lxQ 0 T.nl (plP T T.nl (beS T)).t.testBit w):=by
 have hp:=pl_bst hb T.nl (beS T) (Int.le_refl _) (Int.le_refl _)
 have z:∀ w,ctA T w T.hi 0=0:=fun _=>rfl
 refine ⟨fun hc=>?_,fun w hw=>?_⟩
 ·obtain ⟨h1,h2⟩:=(rn_st (w:=(plP T T.nl (beS T)).t.testBit) T.nl 0 (by omega) _).1 (hp.a hc)
  exact ⟨fun k hk=>h1 k (Nat.zero_le _) hk,by rw [z] at h2; omega⟩
 ·have h1:=(rn_st (w:=w) T.nl 0 (by omega) (ctA T w T.hi T.nl)).2 ⟨fun k _ hk=>hw k hk,by rw [z]; omega⟩
  exact hp.b w _ h1
end Go.Lg
