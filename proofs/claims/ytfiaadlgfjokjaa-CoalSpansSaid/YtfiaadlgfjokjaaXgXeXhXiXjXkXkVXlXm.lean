import Derived.Test.YtfiaadlgfjokjaaUeUeVUfTjTkTl
import Derived.Test.YtfiaadlgfjokjaaQhQhVQiQjQjVQk
import Derived.Test.YtfiaadlgfjokjaaXaXaVXbXcXdXdVXeVXfV
set_option linter.unusedVariables false
set_option linter.unusedSimpArgs false
namespace Go.Proofs.Ytfiaadlgfjokjaa
open Go Go.Lg
def keyW (w:Nat) (g:Gr):Int:=match w with
 | 0=>g.gv
 | _+1=>-g.gv
theorem cm_key (w:Nat) (a b:Gr):cmW w a b<0↔keyW w a<keyW w b:=by
 match w with
 | 0 =>
  show cmpI a.gv b.gv<0↔a.gv<b.gv
  unfold cmpI
  split
  ·omega
  ·split <;> omega
 | _+1 =>
  show cmpI b.gv a.gv<0↔-a.gv < -b.gv
  unfold cmpI
  split
  ·omega
  ·split <;> omega
def befG (w:Nat) (a b:Gr):Prop:=keyW w a<keyW w b∨(keyW w a=keyW w b∧a.co<b.co)
theorem bef_tr {w:Nat} {a b c:Gr} (h:befG w a b) (k:befG w b c):befG w a c:=by
 unfold befG at *
 omega
theorem sJ_swap {u v:Nat→Int} {i:Nat} (h1:u i=v (i+1)) (h2:u (i+1)=v i) (h3:∀ k,k≠i→k≠i+1→u k=v k):∀ d,sumJ u (i+2+d)=sumJ v (i+2+d)
 | 0=>by
  have:=sumJ_congr (f:=u) (g:=v) (m:=i) fun k hk=>h3 k (by omega) (by omega)
  show sumJ u i+u i+u (i+1)=sumJ v i+v i+v (i+1)
  omega
 | d+1=>by
  show sumJ u (i+2+d)+u (i+2+d)=sumJ v (i+2+d)+v (i+2+d)
  rw [sJ_swap h1 h2 h3 d,h3 _ (by omega) (by omega)]
theorem swp_sum {f:Nat→Gr} {h:Gr→Int} {j q:Nat} (hj:j+1<q):sumJ (fun k=>h (swp f (j+1) k)) q=sumJ (fun k=>h (f k)) q:=by
 obtain ⟨d,rfl⟩:∃ d,q=j+2+d:=⟨q - (j+2),by omega⟩
 refine sJ_swap (i:=j) ?_ ?_ (fun k h1 h2=>?_) d
 ·simp [swp]
 ·simp [swp]
 ·simp only [swp]
  rw [if_neg (by omega),if_neg h2]
theorem inF_sum {w:Nat} {h:Gr→Int} {q:Nat}:∀ {j:Nat} {f:Nat→Gr},j<q→sumJ (fun k=>h (inF w f j k)) q=sumJ (fun k=>h (f k)) q
 | 0,f,_=>rfl
 | j+1,f,hj=>by
  simp only [inF]
  split
  ·rw [inF_sum (by omega),swp_sum hj]
  ·rfl
theorem stF_sum {w:Nat} {g:Nat→Gr} {h:Gr→Int} {q:Nat}:∀ i,i≤q→sumJ (fun k=>h (stF w g i k)) q=sumJ (fun k=>h (g k)) q
 | 0,_=>rfl
 | i+1,hi=>by
  simp only [stF]
  rw [inF_sum (by omega),stF_sum i (by omega)]
theorem inF_above {w:Nat}:∀ {j:Nat} {f:Nat→Gr} {k:Nat},j<k→inF w f j k=f k
 | 0,f,k,_=>rfl
 | j+1,f,k,h=>by
  simp only [inF]
  split
  ·rw [inF_above (by omega)]
   simp only [swp]
   rw [if_neg (by omega),if_neg (by omega)]
  ·rfl
theorem insG {w i:Nat} {x:Gr}:∀ (j:Nat) (f:Nat→Gr),j≤i→f j=x→(∀ k,k+1<j→befG w (f k) (f (k+1)))→(∀ k,j<k→k+1≤i→befG w (f k) (f (k+1)))→(1≤j→j+1≤i→befG w (f (j - 1)) (f (j+1)))→(j+1≤i→befG w x (f (j+1)))→(∀ k,k≤i→k≠j→(f k).co<x.co)→∀ k,k+1≤i→befG w (inF w f j k) (inF w f j (k+1))
 | 0,f,hj,hx,A,B,C,D,E,k,hk=>by
  simp only [inF]
  by_cases e:k=0
  ·subst e; rw [hx]; exact D hk
  ·exact B k (by omega) hk
 | j+1,f,hj,hx,A,B,C,D,E,k,hk=>by
  simp only [inF]
  split
  ·rename_i hlt
   have g0:swp f (j+1) j=x:=by simp [swp,hx]
   have g1:swp f (j+1) (j+1)=f j:=by simp [swp]
   have g2:∀ k,k≠j→k≠j+1→swp f (j+1) k=f k:=fun k h1 h2=>by simp only [swp]; rw [if_neg (by omega),if_neg h2]
   refine insG j (swp f (j+1)) (by omega) g0 (fun k hk=>?_) (fun k h1 h2=>?_) (fun h1 h2=>?_) (fun h1=>?_) (fun k h1 h2=>?_) k hk
   ·rw [g2 k (by omega) (by omega),g2 (k+1) (by omega) (by omega)]; exact A k (by omega)
   ·by_cases e:k=j+1
    ·subst e; rw [g1,g2 _ (by omega) (by omega)]; exact C (by omega) h2
    ·rw [g2 k (by omega) e,g2 (k+1) (by omega) (by omega)]; exact B k (by omega) h2
   ·rw [g1,g2 _ (by omega) (by omega)]
    have:=A (j - 1) (by omega)
    rw [show j - 1+1=j by omega] at this
    exact this
   ·rw [g1]
    rw [hx] at hlt
    exact .inl ((cm_key w x (f j)).1 hlt)
   ·by_cases e:k=j+1
    ·subst e; rw [g1]; exact E j (by omega) (by omega)
    ·rw [g2 k h2 e]; exact E k h1 e
  ·rename_i hlt
   rw [hx] at hlt
   by_cases e:k<j
   ·exact A k (by omega)
   ·by_cases e2:k=j
    ·subst e2
     rw [hx]
     have:=E k (by omega) (by omega)
     have:¬ keyW w x<keyW w (f k):=fun y=>hlt ((cm_key w x (f k)).2 y)
     unfold befG
     omega
    ·by_cases e3:k=j+1
     ·subst e3; rw [hx]; exact D hk
     ·exact B k (by omega) hk
section
variable {w:Nat} {g:Nat→Gr} (hg:∀ k,(g k).co=k)
include hg
theorem stF_sorted:∀ i,(∀ k,k+1<i→befG w (stF w g i k) (stF w g i (k+1)))∧(∀ k,k<i→0≤(stF w g i k).co∧(stF w g i k).co<i)∧∀ k,i≤k→stF w g i k=g k
 | 0=>⟨fun k h=>by omega,fun k h=>by omega,fun k _=>rfl⟩
 | i+1=>by
  obtain ⟨h1,h2,h3⟩:=stF_sorted i
  refine ⟨fun k hk=>?_,fun k hk=>?_,fun k hk=>?_⟩
  ·simp only [stF]
   refine insG (i:=i) (x:=g i) i _ (Nat.le_refl _) (h3 i (Nat.le_refl _)) h1 (fun k a b=>by omega) (fun a b=>by omega) (fun a=>by omega) (fun k a b=>?_) k (by omega)
   rw [hg]
   exact (h2 k (by omega)).2
  ·simp only [stF]
   have:=inF_bd (P:=fun x=>0≤x.co∧x.co<((i+1:Nat):Int)) (w:=w) (q:=i+1) (j:=i) (f:=stF w g i) (fun k hk=>by
    by_cases e:k=i
    ·subst e; rw [h3 k (Nat.le_refl _),hg]; omega
    ·have:=h2 k (by omega); omega) (by omega) k hk
   exact this
  ·simp only [stF]
   rw [inF_above (by omega),h3 k (by omega)]
theorem or_bef (q:Nat) {a:Nat}:∀ {d:Nat},a+1+d<q→befG w (stF w g q a) (stF w g q (a+1+d))
 | 0,h=>(stF_sorted hg q).1 a h
 | d+1,h=>bef_tr (or_bef q (by omega:a+1+d<q)) ((stF_sorted hg q).1 (a+1+d) h)
theorem or_lt {q a b:Nat} (h:a<b) (hb:b<q):befG w (stF w g q a) (stF w g q b):=by
 have:=or_bef (w:=w) hg q (a:=a) (d:=b - (a+1)) (by omega)
 rwa [show a+1+(b - (a+1))=b by omega] at this
theorem or_sur {q j:Nat} (hj:j<q):∃ a,a<q∧(stF w g q a).co=j:=by
 refine Classical.byContradiction fun hn=>?_
 have h:=stF_sum (w:=w) (g:=g) (h:=fun x=>if x.co=j then 1 else 0) q (Nat.le_refl _)
 rw [sum_z (n:=q) fun i hi=>if_neg fun e=>hn ⟨i,hi,e⟩] at h
 have h2:sumJ (fun k=>if (g k).co=(j:Int) then (1:Int) else 0) q=sumJ (fun k=>if (j:Int)=(k:Int) then (1:Int) else 0) q:=sumJ_congr fun k hk=>by
  rw [hg]
  by_cases e:(k:Int)=j
  ·rw [if_pos e,if_pos e.symm]
  ·rw [if_neg e,if_neg fun x=>e x.symm]
 rw [h2,sum_one (C:=0) (by omega),if_pos (by omega)] at h
 omega
end
end Go.Proofs.Ytfiaadlgfjokjaa

set_option maxRecDepth 100000
namespace Go.Proofs.Ytfiaadlgfjokjaa
open Go Go.Lg
attribute [local irreducible] funS bodyH bodyZ
theorem ct_bd {Y:Yd} (hM:okMs Y.c.n Y.m) (q i:Nat):0≤ctE Y q i∧ctE Y q i≤33554432:=co_bd (o:=q) (i:=i) hM (k:=Y.m.n) (Nat.le_refl _)
theorem ct_le {Y:Yd} (hM:okMs Y.c.n Y.m) {q i:Nat} (hi:i<Y.c.n):ctE Y q i≤csJ Y Y.m.n q:=by
 have:∀ m,i<m→ctE Y q i≤sumJ (ctE Y q) m:=by
  intro m
  induction m with
  | zero=>intro h; omega
  | succ m ih =>
   intro h
   have nn:0≤sumJ (ctE Y q) m:=(sj_bd (g:=ctE Y q) (B:=33554432) (m:=m) fun j hj=>ct_bd hM q j).1
   have c:=ct_bd hM q m
   show _≤sumJ (ctE Y q) m+ctE Y q m
   by_cases e:i=m
   ·subst e; omega
   ·have:=ih (by omega); omega
 exact this Y.c.n hi
theorem es_ct (Y:Yd) (q:Nat):sumJ (ctE Y q) Y.c.n=csJ Y Y.m.n q:=rfl
theorem rb_bd {Y:Yd} {d:Nat} (hC:okCl Y.c) (hM:okMs Y.c.n Y.m) (hd:d<dn Y.m Y.m.n) {i:Nat} (hi:i<Y.c.n) (k:Nat):(0≤(rbF Y d k i).lo∧(rbF Y d k i).lo≤k*335544320)∧0≤(rbF Y d k i).hi∧(rbF Y d k i).hi≤k*335544320:=by
 refine ⟨sj_bd (B:=335544320) fun q hq=>?_,sj_bd (B:=335544320) fun q hq=>?_⟩
 ·have a:=oJ_bd hC hM (k:=q) hd
  have b:=ct_le hM (q:=q) hi
  omega
 ·have a:=oJ_bd hC hM (k:=q) hd
  have b:=ct_bd hM q i
  omega
theorem rbF_s (Y:Yd) (d k i:Nat):(rbF Y d (k+1) i).lo=(rbF Y d k i).lo+max 0 (oJ Y d k - (csJ Y Y.m.n k - ctE Y k i))∧(rbF Y d (k+1) i).hi=(rbF Y d k i).hi+min (oJ Y d k) (ctE Y k i):=⟨rfl,rfl⟩
theorem rb_true {Y:Yd} {a:Int} (h:Y.c.n≤1000∧Y.m.n≤1000):rbG Y a:=by
 rw [rbG_vc]
 have e0:Yd.mk Y.c Y.m=Y:=rfl
 have hs:=snN Y.m
 have es:=es_ct Y
 simp only [rI,rE,tA,tB,tC,tD,and_true,true_and,Nat.zero_lt_one,and_self,implies_true,Int.toNat_natCast,Classical.not_not,ms_fold,cl_fold,mv_fold,cv_fold,e0,Nat.zero_add,Nat.add_zero,tn1,tn2,hs,es,Bool.false_eq_true,false_iff,if_true,true_iff,h]
 refine ⟨fun h0=>?_,fun h0=>⟨?_,fun h1=>?_,fun h1=>?_⟩⟩
 ·have e:rdE Y a=stE Y:=by unfold rdE; rw [if_neg h0]
  exact ⟨by unfold rbN; rw [e,if_neg h0],e.symm⟩
 ·obtain ⟨⟨hC,hM⟩,hO,hN⟩:=st_ok0 h0
  have:=dn_i Y.m Y.m.n
  omega
 ·obtain ⟨⟨hC,hM⟩,hO,hN⟩:=st_ok0 h0
  have e:rdE Y a=2:=by unfold rdE; rw [if_pos h0,if_neg (by omega)]
  exact ⟨by unfold rbN; rw [e,if_neg (by omega)],e.symm⟩
 obtain ⟨⟨hC,hM⟩,hO,hN⟩:=st_ok0 h0
 have e:rdE Y a=0:=by unfold rdE; rw [if_pos h0,if_pos (by omega)]
 have hn:=hM.n
 have hc:=hC.b
 have hl:=ln_le Y.m
 obtain ⟨d,rfl⟩:=Int.eq_ofNat_of_zero_le h1.1
 have hd:d<dn Y.m Y.m.n:=by omega
 simp only [Int.toNat_natCast,Int.ofNat_eq_natCast] at *
 refine ⟨by omega,by omega,by omega,by omega,⟨0,⟨e,Nat.zero_le _⟩,rfl,fun i hi=>⟨rfl,rfl⟩⟩,fun z hz=>⟨fun hlt=>⟨⟨by omega,by omega,hC,hM⟩,⟨⟨e,by show z<_; omega,Nat.zero_le _⟩,fun i hi=>rfl,rfl⟩,?_⟩,fun hlt=>?_⟩⟩
 ·rintro ⟨k,j⟩ ⟨h2,rfl⟩
  have hk:=h2.k
  have hj:=h2.i
  dsimp only at hk hj ⊢
  refine ⟨fun hjl=>?_,fun hjl=>?_⟩
  ·have hjc:j<Y.c.n:=by omega
   have c1:=ct_bd hM k j
   have c2:=ct_le hM (q:=k) hjc
   have o1:=oJ_bd hC hM (k:=k) hd
   have cs:=cs_bd hC hM (i:=Y.m.n) (k:=k) (Nat.le_refl _)
   have b:=rb_bd hC hM hd hjc k
   have m1:rbM Y d k j j=rbF Y d k j:=by unfold rbM; rw [if_neg (by omega)]; rfl
   have e1:((j:Int)+1).toNat=j+1:=by omega
   simp only [m1,e1]
   have fin:rbI2 Y d (k,j+1):=⟨e,hk,by show j+1≤_; omega⟩
   have ctb:∀ i,i<Y.c.n→-1099511627776≤ctE Y k i∧ctE Y k i≤1099511627776:=fun i hi=>by have:=ct_bd hM k i; omega
   and_intros
   any_goals omega
   intro i hi
   obtain ⟨s1,s2⟩:=rbF_s Y d k j
   by_cases x:i=j
   ·subst x
    have m2:rbM Y d k (i+1) i=rbF Y d (k+1) i:=by unfold rbM; rw [if_pos (by omega)]; rfl
    rw [m2,s1,s2]
    simp only [if_true]
    exact ⟨trivial,trivial⟩
   ·have m2:rbM Y d k (j+1) i=rbM Y d k j i:=by
     unfold rbM
     by_cases y:i<j
     ·rw [if_pos y,if_pos (by omega)]
     ·rw [if_neg y,if_neg (by omega)]
    rw [m2]
    simp only [if_neg x]
    exact ⟨trivial,trivial⟩
  ·have ej:j=Y.c.n:=by omega
   subst ej
   refine ⟨by omega,k+1,⟨e,by omega⟩,by omega,by omega,fun i hi=>?_⟩
   have m2:rbM Y d k Y.c.n i=rbF Y d (k+1) i:=by unfold rbM; rw [if_pos hi]; rfl
   rw [m2]
   exact ⟨rfl,rfl⟩
 ·have ez:z=lnJ Y.m:=by have:=hz.kn; omega
  subst ez
  have en:rbN Y d=Y.c.n:=by unfold rbN; rw [e,if_pos rfl]
  exact ⟨en.symm,by omega,fun i hi=>⟨rfl,rfl⟩,e.symm⟩
theorem rb_ok:rbC.Ok Try.prog:=by
 refine ⟨by kernel_rfl,fun x k hk=>?_⟩
 simp only [rbC] at hk
 split at hk
 ·rename_i n f m g a
  obtain ⟨h1,h2,h3,hk⟩:=hk
  have hh:=rb_true (Y:=⟨clOf n f,msOf m g⟩) (a:=a) h3
  unfold rbG at hh
  simp only [Yd.sv] at hh
  rw [← h1,← h2] at hh
  have hh:funN Try.prog (ctrsF [stC] (ctrs [inC,l7C,c8C,smC])) noX (ictrs []) _ noL 17 [.agg [.lst 8 n f,.lst 3 m g],i6 a] _:=hh
  exact ⟨_,newD (ctrsF_sound (ctrs_sound (by
   intro x hx
   simp at hx
   rcases hx with rfl | rfl | rfl | rfl
   ·exact in_ok
   ·exact l7_ok
   ·exact c8_ok
   ·exact sm_ok)) (by intro x hx; simp at hx; subst hx; exact st_okT)) nilS_x nilS_ic hh (by simp [flatS,flatSL,scS,SV.cells,rbR,twL,Tw.sv]),hk⟩
 ·exact hk.elim
end Go.Proofs.Ytfiaadlgfjokjaa

set_option maxRecDepth 100000
namespace Go.Proofs.Ytfiaadlgfjokjaa
open Go Go.Lg
attribute [local irreducible] funS bodyH bodyZ
theorem st_e {w v n:Nat} {g:Nat→Gr} {E:Nat→Int} (hg:∀ k,(g k).co=k) (hE:∀ k,keyW w (g k)=E k):∀ i,i≤n→keyW w (stF w g n i)=E (stF w g n i).co.toNat:=by
 intro i hi
 exact stF_bd (P:=fun x=>keyW w x=E x.co.toNat) (q:=n+1) (fun k hk=>by rw [hE,hg]; simp) n (by omega) i (by omega)
theorem so_ok {w n:Nat} {g:Nat→Gr} {E:Nat→Int} (hg:∀ k,(g k).co=k) (hE:∀ k,keyW w (g k)=E k):okO n E fun p=>(stF w g n p).co.toNat:=by
 have hs:=stF_sorted (w:=w) hg n
 refine ⟨fun p q hpq hq=>?_,fun p hp=>?_,fun i hi=>?_⟩
 ·have b:=or_lt (w:=w) hg hpq hq
  have a1:=st_e (v:=0) (n:=n) hg hE p (by omega)
  have a2:=st_e (v:=0) (n:=n) hg hE q (by omega)
  have c1:=hs.2.1 p (by omega)
  have c2:=hs.2.1 q (by omega)
  unfold befG at b
  rw [a1,a2] at b
  rcases b with b | ⟨b1,b2⟩
  ·exact .inl b
  ·exact .inr ⟨b1,by omega⟩
 ·have:=hs.2.1 p hp
  omega
 ·obtain ⟨a,h1,h2⟩:=or_sur (w:=w) hg hi
  exact ⟨a,h1,by omega⟩
theorem sA_ok (w:Nat) (C:Cl):okO C.n (eA w C) (sA w C):=so_ok (w:=0) (g:=gA w C) (fun k=>rfl) fun k=>rfl
theorem sB_ok (w:Nat) (C:Cl):okO C.n (eB w C) (sB w C):=so_ok (w:=1) (g:=gB w C) (fun k=>rfl) fun k=>rfl
theorem fl_gR (p:Pn) (f:Nat→Gr):∀ k,flR p f k=gR p.l.at (fun i=>(f i).co.toNat) p.tn k
 | 0=>rfl
 | k+1=>by
  show flR p f k - min (flR p f k) _=gR _ _ _ k - min (gR _ _ _ k) _
  rw [fl_gR p f k]
theorem fl_gG {p:Pn} {f:Nat→Gr} {e:Nat→Int} {s:Int} {n:Nat} (h:∀ k,k<n→s*(f k).gv=e (f k).co.toNat):∀ k,k≤n→s*flG p f k=gG p.l.at e (fun i=>(f i).co.toNat) p.tn k
 | 0,_=>by show s*0=0; omega
 | k+1,hk=>by
  have i:=fl_gG (p:=p) h k (by omega)
  have j:=h k (by omega)
  show s*(flG p f k+min (flR p f k) (p.l.at (f k).co.toNat)*(f k).gv)=gG _ _ _ _ k+min (gR _ _ _ k) (p.l.at (f k).co.toNat)*e (f k).co.toNat
  rw [← i,← j,fl_gR,Int.mul_add,← Int.mul_assoc,← Int.mul_assoc,Int.mul_comm s (min _ _)]
theorem fl_A (p:Pn) (w:Nat) (C:Cl):flG p (stA w C) C.n=gG p.l.at (eA w C) (sA w C) p.tn C.n:=by
 have:=fl_gG (p:=p) (f:=stA w C) (e:=eA w C) (s:=1) (n:=C.n) (fun k hk=>by
  have:=st_e (w:=0) (v:=0) (n:=C.n) (g:=gA w C) (E:=eA w C) (fun k=>rfl) (fun k=>rfl) k (by omega)
  rw [Int.one_mul]; exact this) C.n (Nat.le_refl _)
 rw [Int.one_mul] at this
 exact this
theorem fl_B (p:Pn) (w:Nat) (C:Cl):-flG p (stB w C) C.n=gG p.l.at (eB w C) (sB w C) p.tn C.n:=by
 have:=fl_gG (p:=p) (f:=stB w C) (e:=eB w C) (s:=-1) (n:=C.n) (fun k hk=>by
  have:=st_e (w:=1) (v:=0) (n:=C.n) (g:=gB w C) (E:=eB w C) (fun k=>rfl) (fun k=>rfl) k (by omega)
  have h2:-(stB w C k).gv=eB w C (stB w C k).co.toNat:=this
  omega) C.n (Nat.le_refl _)
 rw [Int.neg_mul,Int.one_mul] at this
 exact this
theorem po_G {M:Ms} {s:Tw} (G:Pn→Int):∀ K,(∀ k,k<K→cmT s (lyF M k).st=0→G ⟨lyF M k,k,0⟩=0)→sumJ (fun i=>G ((poM M s K).getD i zP)) (poM M s K).length=sumJ (fun k=>G ⟨lyF M k,k,cmT s (lyF M k).st⟩) K
 | 0,_=>rfl
 | K+1,h=>by
  have ih:=po_G G K fun k hk=>h k (by omega)
  show _=sumJ (fun k=>G ⟨lyF M k,k,cmT s (lyF M k).st⟩) K+G ⟨lyF M K,K,cmT s (lyF M K).st⟩
  rw [← ih]
  have hnn:=cm_nn s (lyF M K).st
  by_cases x:0<cmT s (lyF M K).st
  ·have e:poM M s (K+1)=poM M s K ++ [⟨lyF M K,K,cmT s (lyF M K).st⟩]:=by
    show poL (lyF M) s (K+1)=poL (lyF M) s K ++ _
    simp only [poL]; rw [if_pos x]
   rw [e,List.length_append]
   show sumJ _ (poM M s K).length+G (((poM M s K) ++ [_]).getD (poM M s K).length zP)=_
   congr 1
   ·exact sumJ_congr fun i hi=>by rw [List.getD_eq_getElem?_getD,List.getD_eq_getElem?_getD,List.getElem?_append_left hi]
   ·simp [List.getD]
  ·have e:poM M s (K+1)=poM M s K:=by
    show poL (lyF M) s (K+1)=poL (lyF M) s K
    simp only [poL]; rw [if_neg x]
   have z:cmT s (lyF M K).st=0:=by omega
   rw [e,z,h K (by omega) z]; omega
end Go.Proofs.Ytfiaadlgfjokjaa

set_option maxRecDepth 100000
namespace Go.Proofs.Ytfiaadlgfjokjaa
open Go Go.Lg
attribute [local irreducible] funS bodyH bodyZ
theorem of_ok:ofC.Ok Try.prog:=by
 refine ⟨by kernel_rfl,fun x k hk=>?_⟩
 simp only [ofC] at hk
 split at hk
 ·rename_i a b c d e f g h w
  obtain ⟨h1,hk⟩:=hk
  obtain ⟨q,rfl⟩:=Int.eq_ofNat_of_zero_le h1.1
  have h0:of0 ⟨a,b,c,d,e,f,g,h⟩:=by rw [of0_vc]; simp
  have h2:of1 ⟨a,b,c,d,e,f,g,h⟩:=by rw [of1_vc]; simp
  have h3:of2 ⟨a,b,c,d,e,f,g,h⟩:=by rw [of2_vc]; simp
  have h4:of3 ⟨a,b,c,d,e,f,g,h⟩:=by rw [of3_vc]; simp
  have hh:ofG ⟨a,b,c,d,e,f,g,h⟩ q:=by
   have:q=0∨q=1∨q=2∨q=3:=by omega
   rcases this with rfl | rfl | rfl | rfl
   ·exact h0
   ·exact h2
   ·exact h3
   ·exact h4
  unfold ofG at hh
  rw [Int.toNat_natCast] at hk
  exact ⟨_,plainD nilS_cs nilS_x nilS_ic hh (by simp [plainS,plainS.plainL,Tw.sv]),hk⟩
 ·exact hk.elim
theorem rn_bd {Y:Yd} (hC:okCl Y.c) (hM:okMs Y.c.n Y.m) {q a:Nat}:∀ {d:Nat},a+d≤dn Y.m Y.m.n→0≤rnF Y a (a+d) q∧rnF Y a (a+d) q≤csJ Y Y.m.n q:=by
 have mono:∀ d,a+d≤dn Y.m Y.m.n→sumJ (fun j=>oJ Y j q) a≤sumJ (fun j=>oJ Y j q) (a+d):=by
  intro d
  induction d with
  | zero=>intro _; exact Int.le_refl _
  | succ d ih =>
   intro h
   have i:=ih (by omega)
   have o:=oJ_bd hC hM (d:=a+d) (k:=q) (by omega)
   show _≤sumJ (fun j=>oJ Y j q) (a+d)+oJ Y (a+d) q
   omega
 have tot:∀ e d,d+e=dn Y.m Y.m.n→sumJ (fun j=>oJ Y j q) d≤sumJ (fun j=>oJ Y j q) (dn Y.m Y.m.n):=by
  intro e
  induction e with
  | zero=>intro d h; rw [show d=dn Y.m Y.m.n by omega]; exact Int.le_refl _
  | succ e ih =>
   intro d h
   have i:=ih (d+1) (by omega)
   have o:=oJ_bd hC hM (d:=d) (k:=q) (by omega)
   have:sumJ (fun j=>oJ Y j q) (d+1)=sumJ (fun j=>oJ Y j q) d+oJ Y d q:=rfl
   omega
 intro d h
 have x:=mono d h
 have y:=tot (dn Y.m Y.m.n - (a+d)) (a+d) (by omega)
 have w:=wk_sum Y q (Nat.le_refl Y.m.n)
 have l:=lfJ_bd hC hM (i:=Y.m.n) (Nat.le_refl _) q
 have z:0≤sumJ (fun j=>oJ Y j q) a:=(sj_bd (B:=335544320) fun j hj=>oJ_bd hC hM (k:=q) (by omega)).1
 unfold lfJ at l
 unfold rnF
 omega
theorem ry_0 {Y:Yd} {a b w:Int} (h:ryE Y a b w=0):stE Y=0∧0≤a∧a≤b∧b<dn Y.m Y.m.n∧0≤w∧w≤3:=by
 unfold ryE at h
 split at h
 ·split at h
  ·omega
  ·exact ⟨by assumption,by omega⟩
 ·contradiction
theorem le_yd {Y:Yd} {q t:Int} {k:Nat} {e:Nat→Int} {σ:Nat→Nat} (hC:okCl Y.c) (hM:okMs Y.c.n Y.m) (ho:okO Y.c.n e σ) (he:∀ i,i<Y.c.n→-100000≤e i∧e i≤100000) (h0:0≤t) (h1:t≤csJ Y Y.m.n k):leP Y.c.n (ctE Y k) e σ t :=
 ⟨hC.b,fun i hi=>by have:=ct_bd hM k i; have:=he i hi; omega,h0,h1,ho⟩
theorem e_bd {Y:Yd} {w i:Nat} (hC:okCl Y.c) (hi:i<Y.c.n):(-100000≤eA w Y.c i∧eA w Y.c i≤100000)∧-100000≤eB w Y.c i∧eB w Y.c i≤100000:=by
 have s:=sp_ok (w:=w) (hC.h i hi)
 have a:=s.a
 have b:=s.b
 have c:=s.c
 unfold eA eB
 omega
theorem ryF_s (Y:Yd) (a b w k:Nat):(ryF Y a b w (k+1)).lo=(ryF Y a b w k).lo+gG (ctE Y k) (eA w Y.c) (sA w Y.c) (rnF Y a (b+1) k) Y.c.n∧(ryF Y a b w (k+1)).hi=(ryF Y a b w k).hi+-(gG (ctE Y k) (eB w Y.c) (sB w Y.c) (rnF Y a (b+1) k) Y.c.n):=⟨rfl,rfl⟩
section
variable {Y:Yd} (hC:okCl Y.c) (hM:okMs Y.c.n Y.m) {a b:Nat} (hab:a≤b) (hb:b<dn Y.m Y.m.n)
include hC hM hab hb
theorem rn_le (q:Nat):0≤rnF Y a (b+1) q∧rnF Y a (b+1) q≤csJ Y Y.m.n q:=by
 have:=rn_bd hC hM (q:=q) (a:=a) (d:=b+1 - a) (by omega)
 rwa [show a+(b+1 - a)=b+1 by omega] at this
theorem lA (w q:Nat):leP Y.c.n (ctE Y q) (eA w Y.c) (sA w Y.c) (rnF Y a (b+1) q) :=
 le_yd (q:=0) hC hM (sA_ok w Y.c) (fun i hi=>(e_bd hC hi).1) (rn_le hC hM hab hb q).1 (rn_le hC hM hab hb q).2
theorem lB (w q:Nat):leP Y.c.n (ctE Y q) (eB w Y.c) (sB w Y.c) (rnF Y a (b+1) q) :=
 le_yd (q:=0) hC hM (sB_ok w Y.c) (fun i hi=>(e_bd hC hi).2) (rn_le hC hM hab hb q).1 (rn_le hC hM hab hb q).2
theorem gA_bd (w q:Nat):(-201326592000000≤gG (ctE Y q) (eA w Y.c) (sA w Y.c) (rnF Y a (b+1) q) Y.c.n∧gG (ctE Y q) (eA w Y.c) (sA w Y.c) (rnF Y a (b+1) q) Y.c.n≤201326592000000) ∧
  -201326592000000≤gG (ctE Y q) (eB w Y.c) (sB w Y.c) (rnF Y a (b+1) q) Y.c.n∧gG (ctE Y q) (eB w Y.c) (sB w Y.c) (rnF Y a (b+1) q) Y.c.n≤201326592000000:=by
 have x:=gG_bd (lA hC hM hab hb w q) Y.c.n (Nat.le_refl _)
 have y:=gG_bd (lB hC hM hab hb w q) Y.c.n (Nat.le_refl _)
 have:=hC.b
 omega
theorem ryF_bd (w:Nat):∀ k:Nat,(-(201326592000000*(k:Int))≤(ryF Y a b w k).lo∧(ryF Y a b w k).lo≤201326592000000*k)∧-(201326592000000*(k:Int))≤(ryF Y a b w k).hi∧(ryF Y a b w k).hi≤201326592000000*k
 | 0=>⟨⟨Int.le_refl 0,Int.le_refl 0⟩,Int.le_refl 0,Int.le_refl 0⟩
 | k+1=>by
  have i:=ryF_bd w k
  have x:=gA_bd hC hM hab hb w k
  obtain ⟨s1,s2⟩:=ryF_s Y a b w k
  rw [s1,s2]
  have e:((k+1:Nat):Int)=k+1:=by omega
  rw [e]
  omega
end
end Go.Proofs.Ytfiaadlgfjokjaa

set_option maxRecDepth 100000
namespace Go.Proofs.Ytfiaadlgfjokjaa
open Go Go.Lg
attribute [local irreducible] funS bodyH bodyZ
theorem co_et (c:Co):Co.mk c.g0 c.g1 c.t0 c.t1 c.s0 c.s1 c.k0 c.k1=c:=rfl
theorem ct_et (Y:Yd) (k:Nat):(fun i=>ctF Y.m k Y.m.n i)=ctE Y k:=rfl
theorem rn_s (Y:Yd) (a d q:Nat):rnF Y a d q+oJ Y d q=rnF Y a (d+1) q:=by
 show sumJ (fun j=>oJ Y j q) d - sumJ (fun j=>oJ Y j q) a+oJ Y d q=sumJ (fun j=>oJ Y j q) d+oJ Y d q - sumJ (fun j=>oJ Y j q) a
 omega
theorem ry_true {Y:Yd} {a b w:Int} (h:Y.c.n≤1000∧Y.m.n≤1000):ryG Y a b w:=by
 rw [ryG_vc]
 have e0:Yd.mk Y.c Y.m=Y:=rfl
 have hs:=snN Y.m
 simp only [ryG0,ryG1,ryG2,rI,rE,tt3,tt4,tt5,tt13,tt14,rI,rE,tA,tB,tC,tD,and_true,true_and,Nat.zero_lt_one,and_self,implies_true,Int.toNat_natCast,Classical.not_not,ms_fold,cl_fold,mv_fold,cv_fold,e0,Nat.zero_add,Nat.add_zero,tn1,tn2,hs,Bool.false_eq_true,false_iff,if_true,true_iff,h,co_et,ct_et]
 have bad:ryE Y a b w≠0→0=(ryS Y a b w).lo∧0=(ryS Y a b w).hi:=fun x=>by unfold ryS; rw [if_neg x]; exact ⟨rfl,rfl⟩
 refine ⟨fun h0=>?_,fun h0=>⟨fun h1=>?_,fun h1=>⟨fun h2=>?_,fun h2=>⟨fun h3=>?_,fun h3=>⟨fun h4=>?_,fun h4=>?_⟩⟩⟩⟩⟩
 ·have e:ryE Y a b w=stE Y:=by unfold ryE; rw [if_neg h0]
  have:=bad (by omega)
  exact ⟨this.1,this.2,e.symm⟩
 ·have e:ryE Y a b w=2:=by unfold ryE; rw [if_pos h0,if_pos (by omega)]
  have:=bad (by omega)
  exact ⟨this.1,this.2,e.symm⟩
 ·have e:ryE Y a b w=2:=by unfold ryE; rw [if_pos h0,if_pos (by omega)]
  have:=bad (by omega)
  exact ⟨this.1,this.2,e.symm⟩
 ·obtain ⟨-,-,hN⟩:=st_ok0 h0
  have e:ryE Y a b w=2:=by unfold ryE; rw [if_pos h0,if_pos (by omega)]
  have:=bad (by omega)
  exact ⟨this.1,this.2,e.symm⟩
 ·have e:ryE Y a b w=2:=by unfold ryE; rw [if_pos h0,if_pos (by omega)]
  have:=bad (by omega)
  exact ⟨this.1,this.2,e.symm⟩
 obtain ⟨⟨hC,hM⟩,hO,hN⟩:=st_ok0 h0
 have e:ryE Y a b w=0:=by unfold ryE; rw [if_pos h0,if_neg (by omega)]
 have hn:=hM.n
 have hc:=hC.b
 have hl:=ln_le Y.m
 have dni:=dn_i Y.m Y.m.n
 obtain ⟨A,rfl⟩:=Int.eq_ofNat_of_zero_le (show 0≤a by omega)
 obtain ⟨B,rfl⟩:=Int.eq_ofNat_of_zero_le (show 0≤b by omega)
 obtain ⟨w,rfl⟩:=Int.eq_ofNat_of_zero_le h4.1
 simp only [Int.toNat_natCast,Int.ofNat_eq_natCast] at *
 have hB:B<dn Y.m Y.m.n:=by omega
 have hAB:A≤B:=by omega
 have hi:ryI Y A B w:=⟨e⟩
 refine ⟨⟨0,⟨hi,Nat.zero_le _⟩,rfl,rfl,rfl,rfl⟩,fun z hz=>⟨fun hl1=>?_,fun hl1=>?_⟩⟩
 ·have hzn:z<Y.c.n:=by omega
  have bd:=e_bd (w:=w) hC hzn
  unfold eA eB at bd
  refine ⟨by omega,by omega,by omega,by omega,by omega,by omega,by omega,by omega,by omega,z+1,⟨hi,by omega⟩,by omega,rfl,rfl,by omega,rfl,fun i hi=>?_,rfl,fun i hi=>?_⟩
  ·by_cases x:i<z
   ·rw [if_pos x]
   ·rw [if_neg x]; rw [show i=z by omega]; rfl
  ·by_cases x:i<z
   ·rw [if_pos x]
   ·rw [if_neg x]; rw [show i=z by omega]; unfold eB; omega
 ·have ez:z=Y.c.n:=by have:=hz.kn; omega
  subst ez
  refine ⟨⟨0,⟨hi,Nat.zero_le _⟩,by and_intros <;> rfl⟩,fun z hz=>⟨fun hl2=>⟨?_,?_⟩,fun hl2=>?_⟩⟩
  ·have hzl:z<lnJ Y.m:=by omega
   and_intros
   all_goals first | omega | rfl | skip
   ·exact ⟨hi,hzl,Int.le_refl _,by show (A:Int)≤B+1; omega⟩
   ·unfold rnF; omega
  ·rintro ⟨k,d⟩ ⟨h2,rfl⟩
   have hk:=h2.k
   have d0:=h2.d0
   have d1:=h2.d1
   dsimp only at hk d0 d1 hl2 ⊢
   refine ⟨fun hdl=>?_,fun hdl=>?_⟩
   ·have e1:((d:Int)+1).toNat=d+1:=by omega
    have r:=rn_bd hC hM (q:=k) (a:=A) (d:=d - A) (by omega)
    rw [show A+(d - A)=d by omega] at r
    have o:=oJ_bd hC hM (d:=d) (k:=k) (by omega)
    have cs:=cs_bd hC hM (i:=Y.m.n) (k:=k) (Nat.le_refl _)
    have fin:ryI4 Y A B w (k,d+1):=⟨hi,hk,by show (A:Int)≤((d+1:Nat):Int); omega,by show ((d+1:Nat):Int)≤_; omega⟩
    simp only [e1,rn_s]
    have r2:=rn_s Y A d k
    and_intros
    all_goals first | omega | rfl
   ·have ed:d=B+1:=by omega
    subst ed
    have lA1:=lA hC hM hAB hB w k
    have lB1:=lB hC hM hAB hB w k
    have g:=gA_bd hC hM hAB hB w k
    have f:=ryF_bd hC hM hAB hB w k
    unfold ryF at f
    dsimp only at f
    refine ⟨⟨by omega,by omega,hC,hM⟩,by omega,sA w Y.c,lA1,by omega,by omega,sB w Y.c,lB1,by omega,by omega,k+1,⟨hi,hk⟩,by omega,by omega,rfl,?_⟩
    rw [Int.sub_eq_add_neg]; rfl
  ·have ez:z=lnJ Y.m:=by have:=hz.kn; omega
   subst ez
   have es:ryS Y A B w=ryF Y A B w (lnJ Y.m):=by unfold ryS; rw [if_pos e]; simp only [Int.toNat_natCast]
   rw [es]
   exact ⟨rfl,rfl,e.symm⟩
theorem ry_ok:ryC.Ok Try.prog:=by
 refine ⟨by kernel_rfl,fun x k hk=>?_⟩
 simp only [ryC] at hk
 split at hk
 ·rename_i n f m g a b w
  obtain ⟨h1,h2,h3,hk⟩:=hk
  have hh:=ry_true (Y:=⟨clOf n f,msOf m g⟩) (a:=a) (b:=b) (w:=w) h3
  unfold ryG at hh
  simp only [Yd.sv] at hh
  rw [← h1,← h2] at hh
  have hh:funH Try.prog (ctrsF [stC] (ctrs [inC,ofC,l7C,c8C,leC])) noX (ictrs []) _ noL 19 [.agg [.lst 8 n f,.lst 3 m g],i6 a,i6 b,i6 w] _:=hh
  exact ⟨_,plainD (ctrsF_sound (ctrs_sound (by
   intro x hx
   simp at hx
   rcases hx with rfl | rfl | rfl | rfl | rfl
   ·exact in_ok
   ·exact of_ok
   ·exact l7_ok
   ·exact c8_ok
   ·exact le_ok)) (by intro x hx; simp at hx; subst hx; exact st_okT)) nilS_x nilS_ic hh (by simp [plainS,plainS.plainL,Tw.sv,ryR]),hk⟩
 ·exact hk.elim
end Go.Proofs.Ytfiaadlgfjokjaa

namespace Go.Proofs.Ytfiaadlgfjokjaa
open Go Go.Lg
attribute [local irreducible] bodyH bodyZ funS
noncomputable def csP:CSpec:=ctrsF [] (ctrs [lgC,awC,beC,rbC,ylC,ryC,ltC 20])
noncomputable def spsG (Y:Yd) (a b c w:Int):Prop:=funH Try.prog csP noX (ictrs []) noL noL 4 [Y.sv,i6 a,i6 b,i6 c,i6 w] (.bool true)
end Go.Proofs.Ytfiaadlgfjokjaa

set_option maxRecDepth 100000
namespace Go.Proofs.Ytfiaadlgfjokjaa
open Go Go.Lg
theorem spsG_vc (Y:Yd) (a:Int) (b:Int) (c:Int) (w:Int):spsG Y a b c w=((0:Nat)<(1:Nat)∧tA Y∧tB Y∧tC Y∧tD Y∧((10:Int)<(↑Y.c.n:Int)∨(36:Int)<(↑Y.m.n:Int)→rE true∧True)∧(¬((10:Int)<(↑Y.c.n:Int)∨(36:Int)<(↑Y.m.n:Int))→(0:Nat)<(1:Nat)∧tA Y∧tB Y∧tC Y∧tD Y∧(0:Nat)<(1:Nat)∧tA Y∧tB Y∧tC Y∧tD Y∧(Y.c.1≤(1000:Nat)∧Y.m.1≤(1000:Nat))∧(0:Nat)<(1:Nat)∧tA Y∧tB Y∧tC Y∧tD Y∧(0:Nat)<(1:Nat)∧tA Y∧tB Y∧tC Y∧tD Y∧(Y.c.1≤(1000:Nat)∧Y.m.1≤(1000:Nat))∧(∀ (i:Nat),i<beN Y a→True∧True∧True)∧(∀ (i:Nat),i<rbN Y a→True∧True∧True)∧((SV.lst (2:Nat) (beN Y a) fun i=>(bsS (dwL Y a) i).sv)=twL (beN Y a) fun i=>tOf (bsS (dwL Y a) i).sv)∧((SV.lst (2:Nat) (rbN Y a) fun i=>(rbF Y a.toNat (lnJ Y.m) i).sv)=twL (rbN Y a) fun i=>tOf (rbF Y a.toNat (lnJ Y.m) i).sv)∧beN Y a≤(1000:Nat)∧((beN Y a=rbN Y a∧eqT (beN Y a) (fun i=>tOf (bsS (dwL Y a) i).sv) fun i=>tOf (rbF Y a.toNat (lnJ Y.m) i).sv)→(drE Y a a=rdE Y a→(0:Nat)<(1:Nat)∧(0:Nat)<(1:Nat)∧((ylS Y b c w).1=(ryS Y b c w).1∧(ylS Y b c w).2=(ryS Y b c w).2→(ylE Y b c w=ryE Y b c w→rE true∧True)∧(¬ylE Y b c w=ryE Y b c w→false=true∧True))∧(¬((ylS Y b c w).1=(ryS Y b c w).1∧(ylS Y b c w).2=(ryS Y b c w).2)→false=true∧True))∧(¬drE Y a a=rdE Y a→false=true∧True))∧(¬(beN Y a=rbN Y a ∧
eqT (beN Y a) (fun i=>tOf (bsS (dwL Y a) i).sv) fun i=>tOf (rbF Y a.toNat (lnJ Y.m) i).sv)→false=true∧True))):=by kernel_rfl
end Go.Proofs.Ytfiaadlgfjokjaa

set_option maxRecDepth 100000
namespace Go.Proofs.Ytfiaadlgfjokjaa
open Go Go.Lg
attribute [local irreducible] funS bodyH bodyZ
theorem st_dr0 {Y:Yd} {a b:Int} (h:drE Y a b=0):stE Y=0∧0≤a∧a≤b∧b<dn Y.m Y.m.n:=by
 unfold drE at h
 rw [ck_st] at h
 split at h
 ·split at h
  ·omega
  ·exact ⟨by assumption,by omega⟩
 ·contradiction
theorem yl_ry (Y:Yd) (a b w:Int):ylE Y a b w=ryE Y a b w:=by
 unfold ylE ryE drE
 rw [ck_st]
 by_cases h:stE Y=0
 ·rw [if_pos h,if_pos h]
  by_cases h1:a<0∨b<a∨(dn Y.m Y.m.n:Int)≤b
  ·rw [if_pos h1,if_neg (by omega),if_pos (by omega)]
  ·rw [if_neg h1,if_pos rfl]
   by_cases h2:w<0∨3<w
   ·rw [if_pos h2,if_pos (by omega)]
   ·rw [if_neg h2,if_neg (by omega)]
 ·rw [if_neg h,if_neg h,if_neg h]
theorem cm_sumq {l:La} {x y z:Int} (h1:x≤y) (h2:y≤z) (h:l.fr≤l.to):cmT ⟨x,y⟩ l.st+cmT ⟨y,z⟩ l.st=cmT ⟨x,z⟩ l.st:=by
 unfold cmT La.st
 dsimp only
 omega
theorem dsq_mono {Y:Yd} (hM:okMs Y.c.n Y.m) {d:Nat} (hd:d<dn Y.m Y.m.n):ds Y.m d Y.m.n≤ds Y.m ((d:Int)+1) Y.m.n:=by
 obtain ⟨i,hi,hc,rfl⟩:=at_ex hd
 have d1:ds Y.m (dn Y.m i) Y.m.n=sumJ (uoI Y.m) i:=ds_to (by omega)
 have d2:ds Y.m ((dn Y.m i:Int)+1) Y.m.n=sumJ (uoI Y.m) (i+1):=by
  have:=ds_to (M:=Y.m) (k:=i+1) (m:=Y.m.n) (by omega)
  rw [dn_y hc] at this
  exact this
 rw [d1,d2]
 have t:=(hM.h i hi).t0
 show sumJ (uoI Y.m) i≤sumJ (uoI Y.m) i+uoI Y.m i
 have e1:uoI Y.m i=(Y.m.f i).tn:=if_pos hc
 omega
theorem lyq_at {Y:Yd} (hM:okMs Y.c.n Y.m) {k i:Nat} (hk:k<nlJ Y.m) (hi:i<6):(lyF Y.m k).at i=ctE Y k i :=
 (co_inv (M:=Y.m) hi (fun k hk=>(hM.h k hk).c0) Y.m.n (Nat.le_refl _)).1 k hk
section
variable {Y:Yd} (hC:okCl Y.c) (hM:okMs Y.c.n Y.m)
include hC hM
theorem ly_all {k:Nat} (hk:k<nlJ Y.m):(lyF Y.m k).to - (lyF Y.m k).fr=csJ Y Y.m.n k:=by
 have hP:=ly_of hC hM
 have e:=cs_ov hM hP hk (i:=Y.m.n) (Nat.le_refl _)
 rw [e,ov_is hP hk]
 have a:=bk_le hP hk
 rw [bk_fr hk,bk_to hP hk]
 have n:=bk_n Y.m
 have mono:∀ d k,k+d=nlJ Y.m→bkJ Y.m k≤bkJ Y.m (nlJ Y.m):=by
  intro d
  induction d with
  | zero=>intro k h; rw [show k=nlJ Y.m by omega]; exact Int.le_refl _
  | succ d ih =>
   intro k h
   have:=ih (k+1) (by omega)
   have:=bk_le hP (k:=k) (by omega)
   omega
 have m:=mono (nlJ Y.m - (k+1)) (k+1) (by omega)
 omega
theorem rn_cm (hO:pqO Y Y.m.n) {k a:Nat} (hk:k<nlJ Y.m):∀ d,a+d<dn Y.m Y.m.n→ds Y.m a Y.m.n≤ds Y.m (((a+d:Nat):Int)+1) Y.m.n∧rnF Y a (a+d+1) k=cmT ⟨ds Y.m a Y.m.n,ds Y.m (((a+d:Nat):Int)+1) Y.m.n⟩ (lyF Y.m k).st
 | 0,h=>by
  have o:=oJ_ov hM (ly_of hC hM) hO h hk
  have m:=dsq_mono hM h
  refine ⟨m,?_⟩
  show rnF Y a (a+1) k=cmT ⟨ds Y.m ((a+0:Nat):Int) Y.m.n,_⟩ _
  rw [← o,← rn_s]
  unfold rnF
  show sumJ (fun j=>oJ Y j k) a - sumJ (fun j=>oJ Y j k) a+oJ Y a k=oJ Y a k
  omega
 | d+1,h=>by
  obtain ⟨i1,i2⟩:=rn_cm hO (k:=k) (a:=a) hk d (by omega)
  have o:=oJ_ov hM (ly_of hC hM) hO h hk
  have m:=dsq_mono hM h
  have hP:=ly_of hC hM
  have lb:=bk_le hP hk
  have ec:((a+(d+1):Nat):Int)=((a+d:Nat):Int)+1:=by omega
  have ec2:a+(d+1)=a+d+1:=by omega
  rw [ec] at m o
  rw [ec]
  refine ⟨by omega,?_⟩
  rw [← rn_s,ec2,i2,show oJ Y (a+d+1) k=oJ Y (a+(d+1)) k from rfl,o]
  exact cm_sumq i1 m (by rw [bk_fr hk,bk_to hP hk]; exact lb.2)
end
theorem be_rb (Y:Yd) (a:Int):beN Y a=rbN Y a∧eqT (beN Y a) (bsS (dwL Y a)) (rbF Y a.toNat (lnJ Y.m)):=by
 have e:=dr_rd Y a
 by_cases h:drE Y a a=0
 ·obtain ⟨h0,h1,h2,h3⟩:=st_dr0 h
  obtain ⟨⟨hC,hM⟩,hO,hN⟩:=st_ok0 h0
  have hb:=hC.b
  have en:beN Y a=Y.c.n:=by unfold beN; rw [if_pos h]
  have en2:rbN Y a=Y.c.n:=by unfold rbN; rw [← e,if_pos h]
  refine ⟨by rw [en,en2],fun i hi=>?_⟩
  rw [en] at hi
  obtain ⟨A,rfl⟩:=Int.eq_ofNat_of_zero_le h1
  have hd:dwL Y A=poM Y.m (drS Y A A) (lnJ Y.m):=by unfold dwL; rw [if_pos h,ln_is]; rfl
  have hs:drS Y A A=⟨ds Y.m A Y.m.n,ds Y.m ((A:Int)+1) Y.m.n⟩:=drS_y h
  have hA:A<dn Y.m Y.m.n:=by omega
  have cm:∀ k,k<lnJ Y.m→cmT (drS Y A A) (lyF Y.m k).st=oJ Y A k:=fun k hk=>by
   rw [hs]; exact (oJ_ov hM (ly_of hC hM) hO hA (by rw [ln_is] at hk; exact hk)).symm
  have at0:∀ k,k<lnJ Y.m→(lyF Y.m k).at i=ctE Y k i:=fun k hk=>lyq_at hM (by rw [ln_is] at hk; exact hk) (by omega)
  have al:∀ k,k<lnJ Y.m→(lyF Y.m k).to - (lyF Y.m k).fr=csJ Y Y.m.n k:=fun k hk=>ly_all hC hM (by rw [ln_is] at hk; exact hk)
  have bd:∀ k,0≤ctE Y k i∧ctE Y k i≤csJ Y Y.m.n k:=fun k=>⟨(ct_bd hM k i).1,ct_le hM hi⟩
  have g1:=po_G (M:=Y.m) (s:=drS Y A A) (fun p=>(shS p i).lo) (lnJ Y.m) fun k hk _=>by
   show max 0 (0 - ((lyF Y.m k).to - (lyF Y.m k).fr - (lyF Y.m k).at i))=0
   have:=at0 k hk
   have:=al k hk
   have:=bd k
   omega
  have g2:=po_G (M:=Y.m) (s:=drS Y A A) (fun p=>(shS p i).hi) (lnJ Y.m) fun k hk _=>by
   show min 0 ((lyF Y.m k).at i)=0
   have:=at0 k hk
   have:=bd k
   omega
  rw [Int.toNat_natCast]
  unfold bsS bsJ rbF
  rw [hd]
  refine ⟨g1.trans (sumJ_congr fun k hk=>?_),g2.trans (sumJ_congr fun k hk=>?_)⟩
  ·show max 0 (cmT _ _ - ((lyF Y.m k).to - (lyF Y.m k).fr - (lyF Y.m k).at i))=_
   rw [cm k hk,al k hk,at0 k hk]
  ·show min (cmT _ _) ((lyF Y.m k).at i)=_
   rw [cm k hk,at0 k hk]
 ·have en:beN Y a=0:=by unfold beN; rw [if_neg h]
  have en2:rbN Y a=0:=by unfold rbN; rw [← e,if_neg h]
  exact ⟨by rw [en,en2],fun i hi=>by omega⟩
theorem gG_congr {c c' e:Nat→Int} {σ:Nat→Nat} {t:Int} {n:Nat} (h:∀ p,p<n→c (σ p)=c' (σ p)):∀ k,k≤n→gR c σ t k=gR c' σ t k∧gG c e σ t k=gG c' e σ t k
 | 0,_=>⟨rfl,rfl⟩
 | k+1,hk=>by
  obtain ⟨i1,i2⟩:=gG_congr h (e:=e) (t:=t) k (by omega)
  have:=h k (by omega)
  refine ⟨?_,?_⟩
  ·show gR c σ t k - min (gR c σ t k) (c (σ k))=gR c' σ t k - min (gR c' σ t k) (c' (σ k))
   rw [i1,this]
  ·show gG c e σ t k+min (gR c σ t k) (c (σ k))*e (σ k)=gG c' e σ t k+min (gR c' σ t k) (c' (σ k))*e (σ k)
   rw [i1,i2,this]
theorem gG_0 {c e:Nat→Int} {σ:Nat→Nat} {n:Nat} (h:∀ p,p<n→0≤c (σ p)):∀ k,k≤n→gR c σ 0 k=0∧gG c e σ 0 k=0
 | 0,_=>⟨rfl,rfl⟩
 | k+1,hk=>by
  obtain ⟨i1,i2⟩:=gG_0 h (e:=e) k (by omega)
  have:=h k (by omega)
  have m:min (gR c σ 0 k) (c (σ k))=0:=by omega
  refine ⟨?_,?_⟩
  ·show gR c σ 0 k - min (gR c σ 0 k) (c (σ k))=0
   omega
  ·show gG c e σ 0 k+min (gR c σ 0 k) (c (σ k))*e (σ k)=0
   rw [m,i2]; omega
theorem ys_ry (Y:Yd) (a b w:Int):(ylS Y a b w).lo=(ryS Y a b w).lo∧(ylS Y a b w).hi=(ryS Y a b w).hi:=by
 have e:=yl_ry Y a b w
 unfold ylS ryS
 by_cases h:ylE Y a b w=0
 ·have hr:ryE Y a b w=0:=by rw [← e]; exact h
  rw [if_pos h,if_pos hr]
  obtain ⟨h0,h1,h2,h3,h4,h5⟩:=ry_0 hr
  obtain ⟨⟨hC,hM⟩,hO,hN⟩:=st_ok0 h0
  have hb:=hC.b
  obtain ⟨A,rfl⟩:=Int.eq_ofNat_of_zero_le h1
  obtain ⟨B,rfl⟩:=Int.eq_ofNat_of_zero_le (show 0≤b by omega)
  obtain ⟨w,rfl⟩:=Int.eq_ofNat_of_zero_le h4
  simp only [Int.toNat_natCast]
  have hdr:drE Y A B=0:=by
   refine Classical.byContradiction fun x=>?_
   have:=ylE_e (w:=w) x
   omega
  have hs:drS Y A B=⟨ds Y.m A Y.m.n,ds Y.m ((B:Int)+1) Y.m.n⟩:=drS_y hdr
  have cm:∀ k,k<lnJ Y.m→cmT (drS Y A B) (lyF Y.m k).st=rnF Y A (B+1) k:=fun k hk=>by
   have:=(rn_cm hC hM hO (k:=k) (a:=A) (by rw [ln_is] at hk; exact hk) (B - A) (by omega)).2
   rw [show A+(B - A)=B by omega] at this
   rw [hs,this]
  have hp:ylP Y A B=poM Y.m (drS Y A B) (lnJ Y.m):=by rw [ln_is]; rfl
  have at0:∀ k,k<lnJ Y.m→∀ i,i<6→(lyF Y.m k).at i=ctE Y k i:=fun k hk i hi=>lyq_at hM (by rw [ln_is] at hk; exact hk) hi
  have oa:=sA_ok w Y.c
  have ob:=sB_ok w Y.c
  have g1:=po_G (M:=Y.m) (s:=drS Y A B) (fun p=>flG p (stA w Y.c) Y.c.n) (lnJ Y.m) fun k hk _=>by
   rw [fl_A]
   exact (gG_0 (n:=Y.c.n) (fun p hp=>by have:=oa.b p hp; rw [at0 k hk _ (by omega)]; exact (ct_bd hM k _).1) _ (Nat.le_refl _)).2
  have g2:=po_G (M:=Y.m) (s:=drS Y A B) (fun p=>flG p (stB w Y.c) Y.c.n) (lnJ Y.m) fun k hk _=>by
   have:=fl_B ⟨lyF Y.m k,k,0⟩ w Y.c
   rw [(gG_0 (n:=Y.c.n) (fun p hp=>by have:=ob.b p hp; rw [at0 k hk _ (by omega)]; exact (ct_bd hM k _).1) _ (Nat.le_refl _)).2] at this
   omega
  show sumJ _ _=sumJ _ _∧sumJ _ _=sumJ _ _
  rw [hp]
  refine ⟨g1.trans (sumJ_congr fun k hk=>?_),g2.trans (sumJ_congr fun k hk=>?_)⟩
  ·rw [fl_A,cm k hk]
   exact (gG_congr (n:=Y.c.n) (fun p hp=>at0 k hk _ (by have:=oa.b p hp; omega)) _ (Nat.le_refl _)).2
  ·have:=fl_B ⟨lyF Y.m k,k,cmT (drS Y A B) (lyF Y.m k).st⟩ w Y.c
   rw [cm k hk,(gG_congr (n:=Y.c.n) (fun p hp=>at0 k hk _ (by have:=ob.b p hp; omega)) _ (Nat.le_refl _)).2] at this
   rw [cm k hk]
   have t:flG ⟨lyF Y.m k,k,rnF Y A (B+1) k⟩ (stB w Y.c) Y.c.n=-gG (ctE Y k) (eB w Y.c) (sB w Y.c) (rnF Y A (B+1) k) Y.c.n:=by
    have t2:-flG ⟨lyF Y.m k,k,rnF Y A (B+1) k⟩ (stB w Y.c) Y.c.n=gG (ctE Y k) (eB w Y.c) (sB w Y.c) (rnF Y A (B+1) k) Y.c.n:=this
    omega
   exact t
 ·have hr:¬ ryE Y a b w=0:=by rw [← e]; exact h
  rw [if_neg h,if_neg hr]
  exact ⟨rfl,rfl⟩
end Go.Proofs.Ytfiaadlgfjokjaa

set_option maxRecDepth 100000
namespace Go.Proofs.Ytfiaadlgfjokjaa
open Go Go.Lg
attribute [local irreducible] funS bodyH bodyZ
theorem sps_true (Y:Yd) (a b c w:Int):spsG Y a b c w:=by
 rw [spsG_vc]
 have e0:Yd.mk Y.c Y.m=Y:=rfl
 have h1:=be_rb Y a
 have h2:=ys_ry Y b c w
 have h3:=yl_ry Y b c w
 have h4:=dr_rd Y a
 have l1:beN Y a≤1000:=by
  unfold beN
  split
  ·rename_i h
   obtain ⟨h0,-⟩:=st_dr0 h
   obtain ⟨⟨hC,hM⟩,hO,hN⟩:=st_ok0 h0
   have:=hC.b
   omega
  ·omega
 have ef:∀ f:Nat→Tw,(fun i=>tOf (f i).sv)=f:=fun f=>rfl
 simp only [rI,rE,tA,tB,tC,tD,and_true,true_and,Nat.zero_lt_one,and_self,implies_true,Int.toNat_natCast,Classical.not_not,ms_fold,cl_fold,mv_fold,cv_fold,e0,ef]
 refine fun hl=>⟨by omega,by omega,rfl,rfl,l1,fun _=>⟨fun _=>⟨fun _ hn=>absurd h3 hn,fun hn=>absurd h2 hn⟩,fun hn=>absurd h4 hn⟩,fun hn=>absurd h1 hn⟩
end Go.Proofs.Ytfiaadlgfjokjaa
