import Derived.Test.YtblomfkinjmjdaaGjGkGl1
import Derived.Test.YtblomfkinjmjdaaGaGaVGbGcGcVGd
import Derived.Test.YtblomfkinjmjdaaPfPgPhPiPjPkPnPu
set_option linter.unusedVariables false
set_option linter.unusedSimpArgs false
namespace Go.Proofs.Ytblomfkinjmjdaa
open Go Go.Lg
attribute [local irreducible] bodyH funS
structure Bs where
 n:Nat
 f:Nat→Int
def Bs.sv (b:Bs):SV:=.lst 1 b.n fun i=>.int .u16 (b.f i)
structure okBs (b:Bs):Prop where
 n:1≤b.n
 f:∀ i,i<b.n→0≤b.f i∧b.f i<65536
end Go.Proofs.Ytblomfkinjmjdaa

namespace Go.Proofs.Ytblomfkinjmjdaa
open Go Go.Lg
attribute [local irreducible] bodyH funS
structure Sup where
 lo:Int
 hi:Int
 v:Int
 mo:Int
 pay:Int
def Sup.sv (t:Sup):SV:=.agg [i6 t.lo,i6 t.hi,i6 t.v,i6 t.mo,i6 t.pay]
structure Sl where
 n:Nat
 f:Nat→Sup
def Sl.sv (L:Sl):SV:=.lst 5 L.n fun i=>(L.f i).sv
structure okSu (t:Sup):Prop where
 sp:okSp t.lo t.hi
 v0:0≤t.v
 v1:t.v≤1
 m0:0≤t.mo
 m1:t.mo≤20
 p0:0≤t.pay
 p1:t.pay≤1000000
def okSl (L:Sl):Prop:=∀ i,i<L.n→okSu (L.f i)
structure Dm where
 vol:Int
 least:Int
 most:Int
structure Mx where
 p0:Int
 p1:Int
 p2:Int
 p3:Int
 vol:Int
 cold:Int
 hot:Int
 cost:Int
abbrev Xs:=Nat→Int
noncomputable def voS (L:Sl) (x:Xs) (k:Nat):Int:=sumJ (fun i=>x i*(L.f i).v) k
noncomputable def coS (L:Sl) (x:Xs) (k:Nat):Int:=sumJ (fun i=>x i*(L.f i).lo) k
noncomputable def hoS (L:Sl) (x:Xs) (k:Nat):Int:=sumJ (fun i=>x i*(L.f i).hi) k
noncomputable def csS (L:Sl) (x:Xs) (k:Nat):Int:=sumJ (fun i=>x i*(L.f i).pay) k
def ptI (x:Xs) (k i:Nat):Int:=if i<k then x i else 0
noncomputable def mxOf (L:Sl) (x:Xs) (k:Nat):Mx:=⟨ptI x k 0,ptI x k 1,ptI x k 2,ptI x k 3,voS L x k,coS L x k,hoS L x k,csS L x k⟩
structure Rig (L:Sl) (D:Dm) (y:Xs):Prop where
 b:∀ i,i<L.n→0≤y i∧y i≤(L.f i).mo
 v:voS L y L.n=D.vol
 c:D.least≤coS L y L.n
 h:hoS L y L.n≤D.most
def moX (L:Sl):Xs:=fun i=>(L.f i).mo
noncomputable def rvV (L:Sl) (k:Nat):Int:=if k≤L.n then voS L (moX L) L.n - voS L (moX L) k else 0
noncomputable def rvC (L:Sl) (k:Nat):Int:=if k≤L.n then coS L (moX L) L.n - coS L (moX L) k else 0
def pasP (D:Dm) (m:Mx):Prop:=D.vol<m.vol∨D.most<m.hot
def beyP (D:Dm) (m:Mx) (a b:Int):Prop:=m.vol+a<D.vol∨m.cold+b<D.least
structure Ss where
 fb:Prop
 b:Mx
def upX (x:Xs) (k:Nat) (n:Int):Xs:=fun i=>if i=k then n else x i
def itF (g:Nat→Ss→Ss):Nat→Ss→Ss
 | 0,s=>s
 | n+1,s=>g n (itF g n s)
open Classical in
noncomputable def stF (L:Sl) (D:Dm) (rec:Nat→Xs→Ss→Ss) (k:Nat) (x:Xs) (n:Nat) (s:Ss):Ss :=
 if pasP D (mxOf L (upX x k n) (k+1))∨(s.fb∧s.b.cost≤csS L (upX x k n) (k+1)) then s
 else if beyP D (mxOf L (upX x k n) (k+1)) (rvV L (k+1)) (rvC L (k+1)) then s
 else rec (k+1) (upX x k n) s
noncomputable def trF (L:Sl) (D:Dm):Nat→Nat→Xs→Ss→Ss
 | 0,k,x,s=>⟨True,mxOf L x k⟩
 | r+1,k,x,s=>itF (stF L D (trF L D r) k x) ((L.f k).mo.toNat+1) s
def Com (L:Sl) (D:Dm) (k:Nat) (x y:Xs):Prop:=(∀ i,i<k→y i=x i)∧Rig L D y
def lexLe (n:Nat) (y z:Xs):Prop:=(∀ i,i<n→y i=z i)∨∃ j,j<n∧(∀ i,i<j→y i=z i)∧y j<z j
def Opt (L:Sl) (A:Xs→Prop) (s s':Ss):Prop :=
 (s'=s∧∀ y,A y→s.fb∧s.b.cost≤csS L y L.n) ∨
 (s'.fb∧∃ y,A y∧s'.b=mxOf L y L.n∧(s.fb→csS L y L.n<s.b.cost)∧∀ z,A z→csS L y L.n≤csS L z L.n∧(csS L z L.n=csS L y L.n→lexLe L.n y z))
theorem opt_join {L:Sl} {A B:Xs→Prop} {s s1 s2:Ss} (h1:Opt L A s s1) (h2:Opt L B s1 s2) (hl:∀ y z,A y→B z→lexLe L.n y z):Opt L (fun y=>A y∨B y) s s2:=by
 rcases h1 with ⟨rfl,a⟩ | ⟨f1,y1,a1,e1,c1,o1⟩
 ·rcases h2 with ⟨rfl,b⟩ | ⟨f2,y2,a2,e2,c2,o2⟩
  ·exact .inl ⟨rfl,fun y hy=>hy.elim (a y) (b y)⟩
  ·refine .inr ⟨f2,y2,.inr a2,e2,c2,fun z hz=>?_⟩
   rcases hz with hz | hz
   ·obtain ⟨q1,q2⟩:=a z hz
    have:=c2 q1
    exact ⟨by omega,fun e=>by omega⟩
   ·exact o2 z hz
 ·have ec:s1.b.cost=csS L y1 L.n:=by rw [e1]; rfl
  rcases h2 with ⟨rfl,b⟩ | ⟨f2,y2,a2,e2,c2,o2⟩
  ·refine .inr ⟨f1,y1,.inl a1,e1,c1,fun z hz=>?_⟩
   rcases hz with hz | hz
   ·exact o1 z hz
   ·have:=(b z hz).2
    exact ⟨by omega,fun _=>hl _ _ a1 hz⟩
  ·have c2':=c2 f1
   refine .inr ⟨f2,y2,.inr a2,e2,fun hf=>by have:=c1 hf; omega,fun z hz=>?_⟩
   rcases hz with hz | hz
   ·have:=(o1 z hz).1
    exact ⟨by omega,fun e=>by omega⟩
   ·exact o2 z hz
theorem opt_none {L:Sl} {B:Xs→Prop} {s:Ss} (h:∀ y,¬ B y):Opt L B s s:=.inl ⟨rfl,fun y hy=>absurd hy (h y)⟩
theorem opt_cost {L:Sl} {B:Xs→Prop} {s:Ss} (hf:s.fb) (h:∀ y,B y→s.b.cost≤csS L y L.n):Opt L B s s:=.inl ⟨rfl,fun y hy=>⟨hf,h y hy⟩⟩
theorem opt_congr {L:Sl} {A B:Xs→Prop} {s s':Ss} (h:Opt L A s s') (e:∀ y,A y↔B y):Opt L B s s':=by
 have:A=B:=funext fun y=>propext (e y)
 rw [← this]; exact h
theorem sumJ_cg {g g':Nat→Int} {m:Nat} (h:∀ k,k<m→g k=g' k):sumJ g m=sumJ g' m:=by
 induction m with
 | zero=>rfl
 | succ m ih =>
  simp only [sumJ]
  rw [ih fun k hk=>h k (by omega),h m (by omega)]
theorem sumJ_ext {g g':Nat→Int} {a b:Nat} (hab:a≤b) (h:∀ k,a≤k→k<b→g k≤g' k):sumJ g b - sumJ g a≤sumJ g' b - sumJ g' a:=by
 induction b with
 | zero =>
  have:a=0:=by omega
  subst this; omega
 | succ b ih =>
  rcases Nat.lt_or_eq_of_le hab with h1 | h1
  ·have:=ih (by omega) fun k h1 h2=>h k h1 (by omega)
   have:=h b (by omega) (by omega)
   simp only [sumJ]; omega
  ·subst h1; omega
theorem sumJ_zero (m:Nat):sumJ (fun _=>0) m=0:=by
 induction m with
 | zero=>rfl
 | succ m ih=>simp only [sumJ]; omega
theorem sumJ_up {g:Nat→Int} {a b:Nat} (hab:a≤b) (h:∀ k,a≤k→k<b→0≤g k):sumJ g a≤sumJ g b:=by
 have:=sumJ_ext (g:=fun _=>0) (g':=g) hab h
 rw [sumJ_zero,sumJ_zero] at this
 omega
section
variable {L:Sl} (hL:okSl L) {D:Dm}
include hL
theorem vo_up {y:Xs} (hy:∀ i,i<L.n→0≤y i) {k:Nat} (hk:k≤L.n):voS L y k≤voS L y L.n:=sumJ_up hk fun i _ hi=>Int.mul_nonneg (hy i hi) (hL i hi).v0
theorem ho_up {y:Xs} (hy:∀ i,i<L.n→0≤y i) {k:Nat} (hk:k≤L.n):hoS L y k≤hoS L y L.n:=sumJ_up hk fun i _ hi=>Int.mul_nonneg (hy i hi) (Int.le_trans (hL i hi).sp.a (hL i hi).sp.b)
theorem cs_up {y:Xs} (hy:∀ i,i<L.n→0≤y i) {k:Nat} (hk:k≤L.n):csS L y k≤csS L y L.n:=sumJ_up hk fun i _ hi=>Int.mul_nonneg (hy i hi) (hL i hi).p0
theorem vo_rest {y:Xs} (hy:∀ i,i<L.n→y i≤(L.f i).mo) {k:Nat} (hk:k≤L.n):voS L y L.n≤voS L y k+rvV L k:=by
 have:=sumJ_ext (g:=fun i=>y i*(L.f i).v) (g':=fun i=>moX L i*(L.f i).v) hk fun i _ hi=>Int.mul_le_mul_of_nonneg_right (hy i hi) (hL i hi).v0
 have e1:voS L y L.n=sumJ (fun i=>y i*(L.f i).v) L.n:=rfl
 have e2:voS L y k=sumJ (fun i=>y i*(L.f i).v) k:=rfl
 rw [rvV,if_pos hk]
 unfold voS at *
 omega
theorem co_rest {y:Xs} (hy:∀ i,i<L.n→y i≤(L.f i).mo) {k:Nat} (hk:k≤L.n):coS L y L.n≤coS L y k+rvC L k:=by
 have:=sumJ_ext (g:=fun i=>y i*(L.f i).lo) (g':=fun i=>moX L i*(L.f i).lo) hk fun i _ hi=>Int.mul_le_mul_of_nonneg_right (hy i hi) (hL i hi).sp.a
 rw [rvC,if_pos hk]
 unfold coS at *
 omega
omit hL in
theorem same_s {x y:Xs} {k:Nat} (h:∀ i,i<k→y i=x i):voS L y k=voS L x k∧coS L y k=coS L x k∧hoS L y k=hoS L x k∧csS L y k=csS L x k:=by
 refine ⟨sumJ_cg fun i hi=>?_,sumJ_cg fun i hi=>?_,sumJ_cg fun i hi=>?_,sumJ_cg fun i hi=>?_⟩ <;> (show y i*_=x i*_; rw [h i hi])
omit hL in
theorem same_mx {x y:Xs} {k:Nat} (h:∀ i,i<k→y i=x i):mxOf L y k=mxOf L x k:=by
 obtain ⟨e1,e2,e3,e4⟩:=same_s (L:=L) h
 have pt:∀ i,ptI y k i=ptI x k i:=fun i=>by
  unfold ptI
  by_cases hi:i<k
  ·rw [if_pos hi,if_pos hi,h i hi]
  ·rw [if_neg hi,if_neg hi]
 unfold mxOf
 rw [e1,e2,e3,e4,pt,pt,pt,pt]
omit hL in
theorem com_up {k:Nat} {x y:Xs} {n:Int}:Com L D (k+1) (upX x k n) y↔Com L D k x y∧y k=n:=by
 constructor
 ·rintro ⟨h1,h2⟩
  refine ⟨⟨fun i hi=>?_,h2⟩,?_⟩
  ·have:=h1 i (by omega)
   rw [this]; unfold upX; rw [if_neg (by omega)]
  ·have:=h1 k (by omega)
   rw [this]; unfold upX; rw [if_pos rfl]
 ·rintro ⟨⟨h1,h2⟩,h3⟩
  refine ⟨fun i hi=>?_,h2⟩
  unfold upX
  by_cases e:i=k
  ·subst e; rw [if_pos rfl]; exact h3
  ·rw [if_neg e]; exact h1 i (by omega)
theorem try_opt:∀ (r k:Nat) (x:Xs) (s:Ss),k+r=L.n→(∀ i,i<k→0≤x i∧x i≤(L.f i).mo)→¬ pasP D (mxOf L x k)→¬ beyP D (mxOf L x k) (rvV L k) (rvC L k)→(s.fb→csS L x k<s.b.cost)→Opt L (Com L D k x) s (trF L D r k x s)
 | 0,k,x,s,hk,hx,hp,hb,hc=>by
  have hk:k=L.n:=by omega
  subst hk
  have e1:rvV L L.n=0:=by rw [rvV,if_pos (Nat.le_refl _)]; omega
  have e2:rvC L L.n=0:=by rw [rvC,if_pos (Nat.le_refl _)]; omega
  unfold pasP at hp
  unfold beyP at hb
  rw [e1,e2] at hb
  have m1:(mxOf L x L.n).vol=voS L x L.n:=rfl
  have m2:(mxOf L x L.n).cold=coS L x L.n:=rfl
  have m3:(mxOf L x L.n).hot=hoS L x L.n:=rfl
  rw [m1,m3] at hp
  rw [m1,m2] at hb
  refine .inr ⟨trivial,x,⟨fun _ _=>rfl,hx,by omega,by omega,by omega⟩,rfl,hc,fun z hz=>?_⟩
  rw [(same_s hz.1).2.2.2]
  exact ⟨Int.le_refl _,fun _=>.inl fun i hi=>(hz.1 i hi).symm⟩
 | r+1,k,x,s,hk,hx,hp,hb,hc=>by
  have hkn:k<L.n:=by omega
  have mo:=(hL k hkn).m0
  have key:∀ n:Nat,n≤(L.f k).mo.toNat+1→Opt L (fun y=>Com L D k x y∧y k<n) s (itF (stF L D (trF L D r) k x) n s):=by
   intro n
   induction n with
   | zero =>
    intro _
    exact opt_none fun y ⟨h1,h2⟩=>by have:=(h1.2.b k hkn).1; omega
   | succ n ih =>
    intro hn
    have h1:=ih (by omega)
    have hstep:Opt L (Com L D (k+1) (upX x k n)) (itF (stF L D (trF L D r) k x) n s) (itF (stF L D (trF L D r) k x) (n+1) s):=by
     show Opt L _ _ (stF L D (trF L D r) k x n (itF (stF L D (trF L D r) k x) n s))
     generalize itF (stF L D (trF L D r) k x) n s=s1
     unfold stF
     split
     ·rename_i hq
      rcases hq with hq | ⟨hq1,hq2⟩
      ·refine opt_none fun y hy=>?_
       obtain ⟨e1,e2,e3,e4⟩:=same_s (L:=L) hy.1
       have v:=vo_up hL (fun i hi=>(hy.2.b i hi).1) (by omega:k+1≤L.n)
       have h:=ho_up hL (fun i hi=>(hy.2.b i hi).1) (by omega:k+1≤L.n)
       have r1:=hy.2.v
       have r2:=hy.2.h
       have m1:(mxOf L (upX x k n) (k+1)).vol=voS L (upX x k n) (k+1):=rfl
       have m3:(mxOf L (upX x k n) (k+1)).hot=hoS L (upX x k n) (k+1):=rfl
       unfold pasP at hq
       rw [m1,m3] at hq
       omega
      ·refine opt_cost hq1 fun y hy=>?_
       have e4:=(same_s (L:=L) hy.1).2.2.2
       have h:=cs_up hL (fun i hi=>(hy.2.b i hi).1) (by omega:k+1≤L.n)
       omega
     ·rename_i hq
      split
      ·rename_i hq2
       refine opt_none fun y hy=>?_
       obtain ⟨e1,e2,e3,e4⟩:=same_s (L:=L) hy.1
       have v:=vo_rest hL (fun i hi=>(hy.2.b i hi).2) (by omega:k+1≤L.n)
       have h:=co_rest hL (fun i hi=>(hy.2.b i hi).2) (by omega:k+1≤L.n)
       have r1:=hy.2.v
       have r2:=hy.2.c
       have m1:(mxOf L (upX x k n) (k+1)).vol=voS L (upX x k n) (k+1):=rfl
       have m2:(mxOf L (upX x k n) (k+1)).cold=coS L (upX x k n) (k+1):=rfl
       unfold beyP at hq2
       rw [m1,m2] at hq2
       omega
      ·rename_i hq2
       refine try_opt r (k+1) (upX x k n) s1 (by omega) (fun i hi=>?_) (fun h=>hq (.inl h)) hq2 fun hf=>?_
       ·unfold upX
        by_cases e:i=k
        ·subst e; rw [if_pos rfl]; omega
        ·rw [if_neg e]; exact hx i (by omega)
       ·exact Int.not_le.1 fun h=>hq (.inr ⟨hf,h⟩)
    refine opt_congr (opt_join h1 hstep fun y z hy hz=>?_) fun y=>?_
    ·obtain ⟨hz1,hz2⟩:=com_up.1 hz
     exact .inr ⟨k,hkn,fun i hi=>by rw [hy.1.1 i hi,hz1.1 i hi],by rw [hz2]; exact hy.2⟩
    ·rw [com_up]
     constructor
     ·rintro (⟨h1,h2⟩ | ⟨h1,h2⟩)
      ·exact ⟨h1,by omega⟩
      ·exact ⟨h1,by omega⟩
     ·rintro ⟨h1,h2⟩
      by_cases e:y k<n
      ·exact .inl ⟨h1,e⟩
      ·exact .inr ⟨h1,by omega⟩
  refine opt_congr (key _ (Nat.le_refl _)) fun y=>⟨fun h=>h.1,fun h=>⟨h,?_⟩⟩
  have:=(h.2.b k hkn).2
  omega
end
end Go.Proofs.Ytblomfkinjmjdaa

namespace Go.Proofs.Ytblomfkinjmjdaa
open Go Go.Lg
attribute [local irreducible] bodyH funS
def Mx.cells (m:Mx):List SV:=[i6 m.p0,i6 m.p1,i6 m.p2,i6 m.p3,i6 m.vol,i6 m.cold,i6 m.hot,i6 m.cost]
def Mx.sv (m:Mx):SV:=.agg m.cells
def Dm.sv (d:Dm):SV:=.agg [i6 d.vol,i6 d.least,i6 d.most]
def sOf:SV→Sup
 | .agg [.int _ a,.int _ b,.int _ c,.int _ d,.int _ e]=>⟨a,b,c,d,e⟩
 | _=>⟨0,0,0,0,0⟩
def slOf (n:Nat) (f:Nat→SV):Sl:=⟨n,fun i=>sOf (f i)⟩
theorem sl_fold (T:Sl):(slOf T.n fun i=>(T.f i).sv)=T:=rfl
theorem ssv_fold (T:Sl):(SV.lst 5 T.n fun i=>(T.f i).sv)=T.sv:=rfl
noncomputable def vlG (L:Sl):Prop:=funH Try.prog (ctrs [frC,vhC]) noX (ictrs [])
 (oneL 0 (natH (fun k=>k≤L.n∧∀ i,i<k→okSu (L.f i)) (fun k=>L.n - k) 0 (fun k=>mkF 32 [(5,L.sv),(6,i6 L.n),(7,i6 k)]) (fun _=>mkX []) fun _=>none)) noL 32 [L.sv] (.dec (okSl L) (Classical.propDecidable _))
noncomputable def vlC:Ctr:=⟨32,fun args k=>match args with
 | [.lst 5 n f]=>SV.lst 5 n f=(slOf n f).sv∧n≤1000∧k (.dec (okSl (slOf n f)) (Classical.propDecidable _))
 | _=>False⟩
def addM (m:Mx) (k:Int) (s:Sup) (n:Int):Mx:=⟨if k.toNat=0 then n else m.p0,if k.toNat=1 then n else m.p1,if k.toNat=2 then n else m.p2,if k.toNat=3 then n else m.p3,m.vol+n*s.v,m.cold+n*s.lo,m.hot+n*s.hi,m.cost+n*s.pay⟩
structure okM (m:Mx):Prop where
 v:0≤m.vol∧m.vol≤1000000000
 c:0≤m.cold∧m.cold≤1000000000
 h:0≤m.hot∧m.hot≤1000000000
 p:0≤m.cost∧m.cost≤1000000000
noncomputable def wiMC:Ctr:=⟨55,fun args k=>match args with
 | [.agg [.int .i64 a,.int .i64 b,.int .i64 c,.int .i64 d,.int .i64 e,.int .i64 f,.int .i64 g,.int .i64 h],.int .i64 at',.agg [.int .i64 s1,.int .i64 s2,.int .i64 s3,.int .i64 s4,.int .i64 s5],.int .i64 n] =>
  okM ⟨a,b,c,d,e,f,g,h⟩∧okSu ⟨s1,s2,s3,s4,s5⟩∧(0≤at'∧at'<4)∧(0≤n∧n≤20)∧k (addM ⟨a,b,c,d,e,f,g,h⟩ at' ⟨s1,s2,s3,s4,s5⟩ n).sv
 | _=>False⟩
noncomputable def wiMG (m:Mx) (k:Int) (s:Sup) (n:Int):Prop:=funH Try.prog (ctrs []) noX (ictrs []) noL noL 55 [m.sv,i6 k,s.sv,i6 n] (addM m k s n).sv
def paC:Ctr:=⟨56,fun args k=>match args with
 | [.agg [.int .i64 x,.int .i64 y,.int .i64 z],.agg [.int .i64 a,.int .i64 b,.int .i64 c,.int .i64 d,.int .i64 e,.int .i64 f,.int .i64 g,.int .i64 h]]=>k (.dec (pasP ⟨x,y,z⟩ ⟨a,b,c,d,e,f,g,h⟩) (Classical.propDecidable _))
 | _=>False⟩
noncomputable def paG (D:Dm) (m:Mx):Prop:=funH Try.prog (ctrs []) noX (ictrs []) noL noL 56 [D.sv,m.sv] (.dec (pasP D m) (Classical.propDecidable _))
def beC:Ctr:=⟨57,fun args k=>match args with
 | [.agg [.int .i64 x,.int .i64 y,.int .i64 z],.agg [.int .i64 a,.int .i64 b,.int .i64 c,.int .i64 d,.int .i64 e,.int .i64 f,.int .i64 g,.int .i64 h],.agg [.int .i64 u,.int .i64 v]]=>okM ⟨a,b,c,d,e,f,g,h⟩∧(0≤u∧u≤1000000000)∧(0≤v∧v≤1000000000)∧k (.dec (beyP ⟨x,y,z⟩ ⟨a,b,c,d,e,f,g,h⟩ u v) (Classical.propDecidable _))
 | _=>False⟩
noncomputable def beG (D:Dm) (m:Mx) (u v:Int):Prop:=funH Try.prog (ctrs []) noX (ictrs []) noL noL 57 [D.sv,m.sv,.agg [i6 u,i6 v]] (.dec (beyP D m u v) (Classical.propDecidable _))
def T10 (f:Nat→Int):SV:=.agg [i6 (f 0),i6 (f 1),i6 (f 2),i6 (f 3),i6 (f 4),i6 (f 5),i6 (f 6),i6 (f 7),i6 (f 8),i6 (f 9)]
noncomputable def lfI (L:Sl) (j:Nat):Int:=if j % 2=0 then rvV L (j / 2) else rvC L (j / 2)
noncomputable def lfZ (L:Sl) (z j:Nat):Int:=if z≤j / 2 then lfI L j else 0
noncomputable def reL (L:Sl):Nat→Option HSpec:=oneL 0 (natH (fun z=>z≤L.n) (fun z=>z) 2 (fun z=>mkF 47 [(0,L.sv),(2,.ptr 0 0 0),(3,.ptr 1 0 0),(4,i6 ((z:Int) - 1))]) (fun z=>mkX [vr 10 (T10 fun _=>0),vr 10 (T10 (lfZ L z))]) fun _=>none)
noncomputable def reG (L:Sl):Prop:=funH Try.prog (ctrs []) noX (ictrs []) (reL L) noL 53 [L.sv] (T10 (lfI L))
noncomputable def reC:Ctr:=⟨53,fun args k=>match args with
 | [.lst 5 n f]=>SV.lst 5 n f=(slOf n f).sv∧n≤4∧okSl (slOf n f)∧k (T10 (lfI (slOf n f)))
 | _=>False⟩
end Go.Proofs.Ytblomfkinjmjdaa

set_option maxRecDepth 100000
namespace Go.Proofs.Ytblomfkinjmjdaa
open Go Go.Lg
theorem vlG_vc (L:Sl):vlG L =
((∃ (z:Nat),(z≤L.1∧∀ (i:Nat),i<z→okSu (L.f i))∧L.1=L.1∧(∀ (i:Nat),i<L.1→rE ((L.f i).sv.den)∧True∧True∧True∧True∧True∧True)∧rE (↑L.1:Int)∧(0:Int)=(↑z:Int)∧True)∧∀ (z:Nat),(z≤L.1∧∀ (i:Nat),i<z→okSu (L.f i))→((↑z:Int)<(↑L.1:Int)→(0:Int)≤(↑z:Int)∧(↑z:Int)<(↑L.1:Int)∧(0:Nat)<(1:Nat)∧(¬okSp (L.f (↑z:Int).toNat).lo (L.f (↑z:Int).toNat).hi→(false=true↔okSl L)∧True)∧(¬¬okSp (L.f (↑z:Int).toNat).lo (L.f (↑z:Int).toNat).hi→(0:Nat)<(1:Nat)∧(¬((0:Int)≤(L.f (↑z:Int).toNat).3∧(L.f (↑z:Int).toNat).3≤(1:Int))→(false=true↔okSl L)∧True)∧(¬¬((0:Int)≤(L.f (↑z:Int).toNat).3∧(L.f (↑z:Int).toNat).3≤(1:Int))→(0:Nat)<(1:Nat)∧(¬((0:Int)≤(L.f (↑z:Int).toNat).4∧(L.f (↑z:Int).toNat).4≤(20:Int))→(false=true↔okSl L)∧True)
∧ (¬¬((0:Int)≤(L.f (↑z:Int).toNat).4∧(L.f (↑z:Int).toNat).4≤(20:Int))→(0:Nat)<(1:Nat)∧(¬((0:Int)≤(L.f (↑z:Int).toNat).5∧(L.f (↑z:Int).toNat).5≤(1000000:Int))→(false=true↔okSl L)∧True)∧(¬¬((0:Int)≤(L.f (↑z:Int).toNat).5∧(L.f (↑z:Int).toNat).5≤(1000000:Int))→rI ((↑z:Int)+(1:Int))∧∃ (z_1:Nat),(z_1≤L.1∧∀ (i:Nat),i<z_1→okSu (L.f i))∧L.1 - z_1<L.1 - z∧L.1=L.1∧(∀ (i:Nat),i<L.1→rE ((L.f i).sv.den)∧True∧True∧True∧True∧True∧True)∧rE (↑L.1:Int)∧(↑z:Int)+(1:Int)=(↑z_1:Int)∧True)))))∧(¬(↑z:Int)<(↑L.1:Int)→(rE true↔okSl L)∧True)):=by kernel_rfl
theorem wiMG_vc (m:Mx) (k:Int) (s:Sup) (n:Int):wiMG m k s n =
((0:Int)≤k∧k<(↑(4:Nat):Int)∧(0:Nat)+k.toNat*(1:Nat)<(8:Nat)∧(0:Nat)<(1:Nat)∧(0:Nat)<(1:Nat)∧rI (n*s.3)∧rI ((if (0:Nat)+k.toNat*(1:Nat)=(0:Nat)+(1:Nat)+(1:Nat)+(1:Nat)+(1:Nat) then n else m.5)+n*s.3)∧(0:Nat)<(1:Nat)∧(0:Nat)<(1:Nat)∧rI (n*s.1)∧rI ((if (0:Nat)+k.toNat*(1:Nat)=(0:Nat)+(1:Nat)+(1:Nat)+(1:Nat)+(1:Nat)+(1:Nat) then n else m.6)+n*s.1)∧(0:Nat)<(1:Nat)∧(0:Nat)<(1:Nat)∧rI (n*s.2)∧rI ((if (0:Nat)+k.toNat*(1:Nat)=(0:Nat)+(1:Nat)+(1:Nat)+(1:Nat)+(1:Nat)+(1:Nat)+(1:Nat) then n else m.7)+n*s.2)∧(0:Nat)<(1:Nat)∧(0:Nat)<(1:Nat)∧rI (n*s.5)∧rI ((if (0:Nat)+k.toNat*(1:Nat)=(0:Nat)+(1:Nat)+(1:Nat)+(1:Nat)+(1:Nat)+(1:Nat)+(1:Nat)+(1 :
Nat) then n else m.8)+n*s.5)∧(0:Nat)<(1:Nat)∧(0:Nat)<(1:Nat)∧((if (0:Nat)+k.toNat*(1:Nat)=(0:Nat) then n else m.1)=if k.toNat=(0:Nat) then n else m.1)∧((if (0:Nat)+k.toNat*(1:Nat)=(0:Nat)+(1:Nat) then n else m.2)=if k.toNat=(1:Nat) then n else m.2)∧((if (0:Nat)+k.toNat*(1:Nat)=(0:Nat)+(1:Nat)+(1:Nat) then n else m.3)=if k.toNat=(2:Nat) then n else m.3)∧((if (0:Nat)+k.toNat*(1:Nat)=(0:Nat)+(1:Nat)+(1:Nat)+(1:Nat) then n else m.4)=if k.toNat=(3:Nat) then n else m.4)∧(if (0:Nat)+k.toNat*(1:Nat)=(0:Nat)+(1:Nat)+(1:Nat)+(1:Nat)+(1:Nat) then n else m.5)+n*s.3=m.5+n*s.3∧(if (0:Nat)+k.toNat*(1:Nat)=(0:Nat)+(1:Nat)+(1:Nat)+(1:Nat)+(1:Nat)+(1:Nat) then n else m.6)+n*s.1=m.6+n*s.1∧(if (0 :
Nat)+k.toNat*(1:Nat)=(0:Nat)+(1:Nat)+(1:Nat)+(1:Nat)+(1:Nat)+(1:Nat)+(1:Nat) then n else m.7)+n*s.2=m.7+n*s.2∧(if (0:Nat)+k.toNat*(1:Nat)=(0:Nat)+(1:Nat)+(1:Nat)+(1:Nat)+(1:Nat)+(1:Nat)+(1:Nat)+(1:Nat) then n else m.8)+n*s.5=m.8+n*s.5∧True):=by kernel_rfl
theorem paG_vc (D:Dm) (m:Mx):paG D m =
((0:Nat)<(1:Nat) ∧
 (0:Nat)<(1:Nat) ∧
  (D.1<m.5→(true=true↔pasP D m)∧True) ∧
   (¬D.1<m.5→(0:Nat)<(1:Nat)∧(0:Nat)<(1:Nat)∧(D.3<m.7↔pasP D m)∧True)):=by kernel_rfl
theorem beG_vc (D:Dm) (m:Mx) (u:Int) (v:Int):beG D m u v =
((0:Nat)<(1:Nat) ∧
 (0:Nat)<(1:Nat) ∧
  ((-9223372036854775808:Int)≤m.5+u∧m.5+u≤(9223372036854775807:Int)) ∧
   (0:Nat)<(1:Nat) ∧
    (m.5+u<D.1→(true=true↔beyP D m u v)∧True) ∧
     (¬m.5+u<D.1 →
      (0:Nat)<(1:Nat) ∧
       (0:Nat)<(1:Nat) ∧
        ((-9223372036854775808:Int)≤m.6+v∧m.6+v≤(9223372036854775807:Int)) ∧
         (0:Nat)<(1:Nat)∧(m.6+v<D.2↔beyP D m u v)∧True)):=by kernel_rfl
theorem reG_vc (L:Sl):reG L =
(rI ((↑L.1:Int) - (1:Int))∧(∃ (z:Nat),z≤L.1∧L.1=L.1∧(∀ (i:Nat),i<L.1→rE ((L.f i).sv.den)∧True∧True∧True∧True∧True∧True)∧rE (0:Nat)∧rE (0:Nat)∧rE (0:Nat)∧rE (0:Nat)∧(↑L.1:Int) - (1:Int)=(↑z:Int) - (1:Int)∧rE (0:Int)∧rE (0:Int)∧rE (0:Int)∧rE (0:Int)∧rE (0:Int)∧rE (0:Int)∧rE (0:Int)∧rE (0:Int)∧rE (0:Int)∧rE (0:Int)∧(0:Int)=lfZ L z (0:Nat)∧(0:Int)=lfZ L z (1:Nat)∧(0:Int)=lfZ L z (2:Nat)∧(0:Int)=lfZ L z (3:Nat)∧(0:Int)=lfZ L z (4:Nat)∧(0:Int)=lfZ L z (5:Nat)∧(0:Int)=lfZ L z (6:Nat)∧(0:Int)=lfZ L z (7:Nat)∧(0:Int)=lfZ L z (8:Nat)∧(0:Int)=lfZ L z (9:Nat)∧True)∧∀ (z:Nat),z≤L.1→((0:Int)≤(↑z:Int) - (1:Int)→(0:Int)≤(↑z:Int) - (1:Int)∧(↑z:Int) - (1:Int)<(↑L.1:Int)∧rI ((↑z:Int)
- (1:Int)+(1:Int))∧(0:Int)≤(↑z:Int) - (1:Int)+(1:Int)∧(↑z:Int) - (1:Int)+(1:Int)<(↑(5:Nat):Int)∧(0:Nat)<(1:Nat)∧(0:Nat)+((↑z:Int) - (1:Int)+(1:Int)).toNat*(2:Nat)+(0:Nat)<(10:Nat)∧(0:Nat)<(1:Nat)∧(0:Nat)<(1:Nat)∧rI ((L.f ((↑z:Int) - (1:Int)).toNat).4*(L.f ((↑z:Int) - (1:Int)).toNat).3)∧rI (cellZ (T10 (lfZ L z)).cells ((0:Nat)+((↑z:Int) - (1:Int)+(1:Int)).toNat*(2:Nat)+(0:Nat))+(L.f ((↑z:Int) - (1:Int)).toNat).4*(L.f ((↑z:Int) - (1:Int)).toNat).3)∧(0:Int)≤(↑z:Int) - (1:Int)∧(↑z:Int) - (1:Int)<(↑(5:Nat):Int)∧(0:Nat)+((↑z:Int) - (1:Int)).toNat*(2:Nat)+(0:Nat)<(10:Nat)∧rI ((↑z:Int) - (1:Int)+(1:Int))∧(0:Int)≤(↑z:Int) - (1:Int)+(1:Int)∧(↑z:Int) - (1:Int)+(1:Int)<(↑(5:Nat):Int) ∧
(0:Nat)<(1:Nat)∧(0:Nat)+((↑z:Int) - (1:Int)+(1:Int)).toNat*(2:Nat)+(1:Nat)<(10:Nat)∧(0:Nat)<(1:Nat)∧(0:Nat)<(1:Nat)∧rI ((L.f ((↑z:Int) - (1:Int)).toNat).4*(L.f ((↑z:Int) - (1:Int)).toNat).1)∧rI (cellZ ((SRow.v (10:Nat) (SV.agg (setZ IntKind.i64 ((0:Nat)+((↑z:Int) - (1:Int)).toNat*Nat.succ (1:Nat)+(0:Nat)) (cellZ (T10 (lfZ L z)).cells ((0:Nat)+((↑z:Int) - (1:Int)+(1:Int)).toNat*Nat.succ (1:Nat)+(0:Nat))+(L.f ((↑z:Int) - (1:Int)).toNat).mo*(L.f ((↑z:Int) - (1:Int)).toNat).v) [i6 (lfZ L z (0:Nat)),i6 (lfZ L z (1:Nat)),i6 (lfZ L z (2:Nat)),i6 (lfZ L z (3:Nat)),i6 (lfZ L z (4:Nat)),i6 (lfZ L z (5:Nat)),i6 (lfZ L z (6:Nat)),i6 (lfZ L z (7:Nat)),i6 (lfZ L z (8:Nat)),i6 (lfZ L z (9:Nat))] (0:Nat)))).f (0:Nat)).cells ((0:Nat)+((↑z:Int) - (1:Int)
+ (1:Int)).toNat*(2:Nat)+(1:Nat))+(L.f ((↑z:Int) - (1:Int)).toNat).4*(L.f ((↑z:Int) - (1:Int)).toNat).1)∧(0:Int)≤(↑z:Int) - (1:Int)∧(↑z:Int) - (1:Int)<(↑(5:Nat):Int)∧(0:Nat)+((↑z:Int) - (1:Int)).toNat*(2:Nat)+(1:Nat)<(10:Nat)∧rI ((↑z:Int) - (1:Int) - (1:Int))∧∃ (z_1:Nat),z_1≤L.1∧z_1<z∧L.1=L.1∧(∀ (i:Nat),i<L.1→rE ((L.f i).sv.den)∧True∧True∧True∧True∧True∧True)∧rE (0:Nat)∧rE (0:Nat)∧rE (0:Nat)∧rE (0:Nat)∧(↑z:Int) - (1:Int) - (1:Int)=(↑z_1:Int) - (1:Int)∧rE (0:Int)∧rE (0:Int)∧rE (0:Int)∧rE (0:Int)∧rE (0:Int)∧rE (0:Int)∧rE (0:Int)∧rE (0:Int)∧rE (0:Int)∧rE (0:Int)∧(if (0:Nat)+((↑z:Int) - (1:Int)).toNat*(2:Nat)+(1:Nat)=(0:Nat) then cellZ ((SRow.v (10:Nat) (SV.agg (setZ IntKind.i64 ((0:Nat)
+ ((↑z:Int) - (1:Int)).toNat*Nat.succ (1:Nat)+(0:Nat)) (cellZ (T10 (lfZ L z)).cells ((0:Nat)+((↑z:Int) - (1:Int)+(1:Int)).toNat*Nat.succ (1:Nat)+(0:Nat))+(L.f ((↑z:Int) - (1:Int)).toNat).mo*(L.f ((↑z:Int) - (1:Int)).toNat).v) [i6 (lfZ L z (0:Nat)),i6 (lfZ L z (1:Nat)),i6 (lfZ L z (2:Nat)),i6 (lfZ L z (3:Nat)),i6 (lfZ L z (4:Nat)),i6 (lfZ L z (5:Nat)),i6 (lfZ L z (6:Nat)),i6 (lfZ L z (7:Nat)),i6 (lfZ L z (8:Nat)),i6 (lfZ L z (9:Nat))] (0:Nat)))).f (0:Nat)).cells ((0:Nat)+((↑z:Int) - (1:Int)+(1:Int)).toNat*(2:Nat)+(1:Nat))+(L.f ((↑z:Int) - (1:Int)).toNat).4*(L.f ((↑z:Int) - (1:Int)).toNat).1 else if (0:Nat)+((↑z:Int) - (1:Int)).toNat*(2:Nat)+(0:Nat)=(0:Nat) then cellZ (T10 (lfZ L z)).cells ((0:Nat)+((↑z:Int) - (1:Int)+(1:Int)).toNat*(2:Nat)+(0
: Nat))+(L.f ((↑z:Int) - (1:Int)).toNat).4*(L.f ((↑z:Int) - (1:Int)).toNat).3 else lfZ L z (0:Nat))=lfZ L z_1 (0:Nat)∧(if (0:Nat)+((↑z:Int) - (1:Int)).toNat*(2:Nat)+(1:Nat)=(0:Nat)+(1:Nat) then cellZ ((SRow.v (10:Nat) (SV.agg (setZ IntKind.i64 ((0:Nat)+((↑z:Int) - (1:Int)).toNat*Nat.succ (1:Nat)+(0:Nat)) (cellZ (T10 (lfZ L z)).cells ((0:Nat)+((↑z:Int) - (1:Int)+(1:Int)).toNat*Nat.succ (1:Nat)+(0:Nat))+(L.f ((↑z:Int) - (1:Int)).toNat).mo*(L.f ((↑z:Int) - (1:Int)).toNat).v) [i6 (lfZ L z (0:Nat)),i6 (lfZ L z (1:Nat)),i6 (lfZ L z (2:Nat)),i6 (lfZ L z (3:Nat)),i6 (lfZ L z (4:Nat)),i6 (lfZ L z (5:Nat)),i6 (lfZ L z (6:Nat)),i6 (lfZ L z (7:Nat)),i6 (lfZ L z (8:Nat)),i6 (lfZ L z (9:Nat))] (0:Nat)))).f (0:Nat)).cells ((0:Nat)+((↑z:Int) - (1:Int)+(1:Int)).toNat
* (2:Nat)+(1:Nat))+(L.f ((↑z:Int) - (1:Int)).toNat).4*(L.f ((↑z:Int) - (1:Int)).toNat).1 else if (0:Nat)+((↑z:Int) - (1:Int)).toNat*(2:Nat)+(0:Nat)=(0:Nat)+(1:Nat) then cellZ (T10 (lfZ L z)).cells ((0:Nat)+((↑z:Int) - (1:Int)+(1:Int)).toNat*(2:Nat)+(0:Nat))+(L.f ((↑z:Int) - (1:Int)).toNat).4*(L.f ((↑z:Int) - (1:Int)).toNat).3 else lfZ L z (1:Nat))=lfZ L z_1 (1:Nat)∧(if (0:Nat)+((↑z:Int) - (1:Int)).toNat*(2:Nat)+(1:Nat)=(0:Nat)+(1:Nat)+(1:Nat) then cellZ ((SRow.v (10:Nat) (SV.agg (setZ IntKind.i64 ((0:Nat)+((↑z:Int) - (1:Int)).toNat*Nat.succ (1:Nat)+(0:Nat)) (cellZ (T10 (lfZ L z)).cells ((0:Nat)+((↑z:Int) - (1:Int)+(1:Int)).toNat*Nat.succ (1:Nat)+(0:Nat))+(L.f ((↑z:Int) - (1:Int)).toNat).mo*(L.f ((↑z:Int) - (1:Int)).toNat).v) [i6
(lfZ L z (0:Nat)),i6 (lfZ L z (1:Nat)),i6 (lfZ L z (2:Nat)),i6 (lfZ L z (3:Nat)),i6 (lfZ L z (4:Nat)),i6 (lfZ L z (5:Nat)),i6 (lfZ L z (6:Nat)),i6 (lfZ L z (7:Nat)),i6 (lfZ L z (8:Nat)),i6 (lfZ L z (9:Nat))] (0:Nat)))).f (0:Nat)).cells ((0:Nat)+((↑z:Int) - (1:Int)+(1:Int)).toNat*(2:Nat)+(1:Nat))+(L.f ((↑z:Int) - (1:Int)).toNat).4*(L.f ((↑z:Int) - (1:Int)).toNat).1 else if (0:Nat)+((↑z:Int) - (1:Int)).toNat*(2:Nat)+(0:Nat)=(0:Nat)+(1:Nat)+(1:Nat) then cellZ (T10 (lfZ L z)).cells ((0:Nat)+((↑z:Int) - (1:Int)+(1:Int)).toNat*(2:Nat)+(0:Nat))+(L.f ((↑z:Int) - (1:Int)).toNat).4*(L.f ((↑z:Int) - (1:Int)).toNat).3 else lfZ L z (2:Nat))=lfZ L z_1 (2:Nat)∧(if (0:Nat)+((↑z:Int) - (1:Int)).toNat*(2:Nat)+(1:Nat)=(0:Nat)+(1:Nat)+(1:Nat)+(1
: Nat) then cellZ ((SRow.v (10:Nat) (SV.agg (setZ IntKind.i64 ((0:Nat)+((↑z:Int) - (1:Int)).toNat*Nat.succ (1:Nat)+(0:Nat)) (cellZ (T10 (lfZ L z)).cells ((0:Nat)+((↑z:Int) - (1:Int)+(1:Int)).toNat*Nat.succ (1:Nat)+(0:Nat))+(L.f ((↑z:Int) - (1:Int)).toNat).mo*(L.f ((↑z:Int) - (1:Int)).toNat).v) [i6 (lfZ L z (0:Nat)),i6 (lfZ L z (1:Nat)),i6 (lfZ L z (2:Nat)),i6 (lfZ L z (3:Nat)),i6 (lfZ L z (4:Nat)),i6 (lfZ L z (5:Nat)),i6 (lfZ L z (6:Nat)),i6 (lfZ L z (7:Nat)),i6 (lfZ L z (8:Nat)),i6 (lfZ L z (9:Nat))] (0:Nat)))).f (0:Nat)).cells ((0:Nat)+((↑z:Int) - (1:Int)+(1:Int)).toNat*(2:Nat)+(1:Nat))+(L.f ((↑z:Int) - (1:Int)).toNat).4*(L.f ((↑z:Int) - (1:Int)).toNat).1 else if (0:Nat)+((↑z:Int) - (1:Int)).toNat*(2:Nat)+(0:Nat)=(0:Nat)+(1:Nat)+(1:Nat)+(1 :
Nat) then cellZ (T10 (lfZ L z)).cells ((0:Nat)+((↑z:Int) - (1:Int)+(1:Int)).toNat*(2:Nat)+(0:Nat))+(L.f ((↑z:Int) - (1:Int)).toNat).4*(L.f ((↑z:Int) - (1:Int)).toNat).3 else lfZ L z (3:Nat))=lfZ L z_1 (3:Nat)∧(if (0:Nat)+((↑z:Int) - (1:Int)).toNat*(2:Nat)+(1:Nat)=(0:Nat)+(1:Nat)+(1:Nat)+(1:Nat)+(1:Nat) then cellZ ((SRow.v (10:Nat) (SV.agg (setZ IntKind.i64 ((0:Nat)+((↑z:Int) - (1:Int)).toNat*Nat.succ (1:Nat)+(0:Nat)) (cellZ (T10 (lfZ L z)).cells ((0:Nat)+((↑z:Int) - (1:Int)+(1:Int)).toNat*Nat.succ (1:Nat)+(0:Nat))+(L.f ((↑z:Int) - (1:Int)).toNat).mo*(L.f ((↑z:Int) - (1:Int)).toNat).v) [i6 (lfZ L z (0:Nat)),i6 (lfZ L z (1:Nat)),i6 (lfZ L z (2:Nat)),i6 (lfZ L z (3:Nat)),i6 (lfZ L z (4:Nat)),i6 (lfZ L z (5:Nat)),i6 (lfZ L z (6:Nat)),i6 (lfZ L z
(7:Nat)),i6 (lfZ L z (8:Nat)),i6 (lfZ L z (9:Nat))] (0:Nat)))).f (0:Nat)).cells ((0:Nat)+((↑z:Int) - (1:Int)+(1:Int)).toNat*(2:Nat)+(1:Nat))+(L.f ((↑z:Int) - (1:Int)).toNat).4*(L.f ((↑z:Int) - (1:Int)).toNat).1 else if (0:Nat)+((↑z:Int) - (1:Int)).toNat*(2:Nat)+(0:Nat)=(0:Nat)+(1:Nat)+(1:Nat)+(1:Nat)+(1:Nat) then cellZ (T10 (lfZ L z)).cells ((0:Nat)+((↑z:Int) - (1:Int)+(1:Int)).toNat*(2:Nat)+(0:Nat))+(L.f ((↑z:Int) - (1:Int)).toNat).4*(L.f ((↑z:Int) - (1:Int)).toNat).3 else lfZ L z (4:Nat))=lfZ L z_1 (4:Nat)∧(if (0:Nat)+((↑z:Int) - (1:Int)).toNat*(2:Nat)+(1:Nat)=(0:Nat)+(1:Nat)+(1:Nat)+(1:Nat)+(1:Nat)+(1:Nat) then cellZ ((SRow.v (10:Nat) (SV.agg (setZ IntKind.i64 ((0:Nat)+((↑z:Int) - (1:Int)).toNat*Nat.succ (1:Nat)
+ (0:Nat)) (cellZ (T10 (lfZ L z)).cells ((0:Nat)+((↑z:Int) - (1:Int)+(1:Int)).toNat*Nat.succ (1:Nat)+(0:Nat))+(L.f ((↑z:Int) - (1:Int)).toNat).mo*(L.f ((↑z:Int) - (1:Int)).toNat).v) [i6 (lfZ L z (0:Nat)),i6 (lfZ L z (1:Nat)),i6 (lfZ L z (2:Nat)),i6 (lfZ L z (3:Nat)),i6 (lfZ L z (4:Nat)),i6 (lfZ L z (5:Nat)),i6 (lfZ L z (6:Nat)),i6 (lfZ L z (7:Nat)),i6 (lfZ L z (8:Nat)),i6 (lfZ L z (9:Nat))] (0:Nat)))).f (0:Nat)).cells ((0:Nat)+((↑z:Int) - (1:Int)+(1:Int)).toNat*(2:Nat)+(1:Nat))+(L.f ((↑z:Int) - (1:Int)).toNat).4*(L.f ((↑z:Int) - (1:Int)).toNat).1 else if (0:Nat)+((↑z:Int) - (1:Int)).toNat*(2:Nat)+(0:Nat)=(0:Nat)+(1:Nat)+(1:Nat)+(1:Nat)+(1:Nat)+(1:Nat) then cellZ (T10 (lfZ L z)).cells ((0:Nat)+((↑z:Int) - (1:Int)+(1:Int)).toNat*(2:Nat)
+ (0:Nat))+(L.f ((↑z:Int) - (1:Int)).toNat).4*(L.f ((↑z:Int) - (1:Int)).toNat).3 else lfZ L z (5:Nat))=lfZ L z_1 (5:Nat)∧(if (0:Nat)+((↑z:Int) - (1:Int)).toNat*(2:Nat)+(1:Nat)=(0:Nat)+(1:Nat)+(1:Nat)+(1:Nat)+(1:Nat)+(1:Nat)+(1:Nat) then cellZ ((SRow.v (10:Nat) (SV.agg (setZ IntKind.i64 ((0:Nat)+((↑z:Int) - (1:Int)).toNat*Nat.succ (1:Nat)+(0:Nat)) (cellZ (T10 (lfZ L z)).cells ((0:Nat)+((↑z:Int) - (1:Int)+(1:Int)).toNat*Nat.succ (1:Nat)+(0:Nat))+(L.f ((↑z:Int) - (1:Int)).toNat).mo*(L.f ((↑z:Int) - (1:Int)).toNat).v) [i6 (lfZ L z (0:Nat)),i6 (lfZ L z (1:Nat)),i6 (lfZ L z (2:Nat)),i6 (lfZ L z (3:Nat)),i6 (lfZ L z (4:Nat)),i6 (lfZ L z (5:Nat)),i6 (lfZ L z (6:Nat)),i6 (lfZ L z (7:Nat)),i6 (lfZ L z (8:Nat)),i6 (lfZ L z (9:Nat))] (0:Nat)))).f (0 :
Nat)).cells ((0:Nat)+((↑z:Int) - (1:Int)+(1:Int)).toNat*(2:Nat)+(1:Nat))+(L.f ((↑z:Int) - (1:Int)).toNat).4*(L.f ((↑z:Int) - (1:Int)).toNat).1 else if (0:Nat)+((↑z:Int) - (1:Int)).toNat*(2:Nat)+(0:Nat)=(0:Nat)+(1:Nat)+(1:Nat)+(1:Nat)+(1:Nat)+(1:Nat)+(1:Nat) then cellZ (T10 (lfZ L z)).cells ((0:Nat)+((↑z:Int) - (1:Int)+(1:Int)).toNat*(2:Nat)+(0:Nat))+(L.f ((↑z:Int) - (1:Int)).toNat).4*(L.f ((↑z:Int) - (1:Int)).toNat).3 else lfZ L z (6:Nat))=lfZ L z_1 (6:Nat)∧(if (0:Nat)+((↑z:Int) - (1:Int)).toNat*(2:Nat)+(1:Nat)=(0:Nat)+(1:Nat)+(1:Nat)+(1:Nat)+(1:Nat)+(1:Nat)+(1:Nat)+(1:Nat) then cellZ ((SRow.v (10:Nat) (SV.agg (setZ IntKind.i64 ((0:Nat)+((↑z:Int) - (1:Int)).toNat*Nat.succ (1:Nat)+(0:Nat)) (cellZ (T10 (lfZ L
z)).cells ((0:Nat)+((↑z:Int) - (1:Int)+(1:Int)).toNat*Nat.succ (1:Nat)+(0:Nat))+(L.f ((↑z:Int) - (1:Int)).toNat).mo*(L.f ((↑z:Int) - (1:Int)).toNat).v) [i6 (lfZ L z (0:Nat)),i6 (lfZ L z (1:Nat)),i6 (lfZ L z (2:Nat)),i6 (lfZ L z (3:Nat)),i6 (lfZ L z (4:Nat)),i6 (lfZ L z (5:Nat)),i6 (lfZ L z (6:Nat)),i6 (lfZ L z (7:Nat)),i6 (lfZ L z (8:Nat)),i6 (lfZ L z (9:Nat))] (0:Nat)))).f (0:Nat)).cells ((0:Nat)+((↑z:Int) - (1:Int)+(1:Int)).toNat*(2:Nat)+(1:Nat))+(L.f ((↑z:Int) - (1:Int)).toNat).4*(L.f ((↑z:Int) - (1:Int)).toNat).1 else if (0:Nat)+((↑z:Int) - (1:Int)).toNat*(2:Nat)+(0:Nat)=(0:Nat)+(1:Nat)+(1:Nat)+(1:Nat)+(1:Nat)+(1:Nat)+(1:Nat)+(1:Nat) then cellZ (T10 (lfZ L z)).cells ((0:Nat)+((↑z:Int) - (1:Int)+(1:Int)).toNat*(2:Nat)+(0 :
Nat))+(L.f ((↑z:Int) - (1:Int)).toNat).4*(L.f ((↑z:Int) - (1:Int)).toNat).3 else lfZ L z (7:Nat))=lfZ L z_1 (7:Nat)∧(if (0:Nat)+((↑z:Int) - (1:Int)).toNat*(2:Nat)+(1:Nat)=(0:Nat)+(1:Nat)+(1:Nat)+(1:Nat)+(1:Nat)+(1:Nat)+(1:Nat)+(1:Nat)+(1:Nat) then cellZ ((SRow.v (10:Nat) (SV.agg (setZ IntKind.i64 ((0:Nat)+((↑z:Int) - (1:Int)).toNat*Nat.succ (1:Nat)+(0:Nat)) (cellZ (T10 (lfZ L z)).cells ((0:Nat)+((↑z:Int) - (1:Int)+(1:Int)).toNat*Nat.succ (1:Nat)+(0:Nat))+(L.f ((↑z:Int) - (1:Int)).toNat).mo*(L.f ((↑z:Int) - (1:Int)).toNat).v) [i6 (lfZ L z (0:Nat)),i6 (lfZ L z (1:Nat)),i6 (lfZ L z (2:Nat)),i6 (lfZ L z (3:Nat)),i6 (lfZ L z (4:Nat)),i6 (lfZ L z (5:Nat)),i6 (lfZ L z (6:Nat)),i6 (lfZ L z (7:Nat)),i6 (lfZ L z (8:Nat)),i6 (lfZ L z (9:Nat))] (0 :
Nat)))).f (0:Nat)).cells ((0:Nat)+((↑z:Int) - (1:Int)+(1:Int)).toNat*(2:Nat)+(1:Nat))+(L.f ((↑z:Int) - (1:Int)).toNat).4*(L.f ((↑z:Int) - (1:Int)).toNat).1 else if (0:Nat)+((↑z:Int) - (1:Int)).toNat*(2:Nat)+(0:Nat)=(0:Nat)+(1:Nat)+(1:Nat)+(1:Nat)+(1:Nat)+(1:Nat)+(1:Nat)+(1:Nat)+(1:Nat) then cellZ (T10 (lfZ L z)).cells ((0:Nat)+((↑z:Int) - (1:Int)+(1:Int)).toNat*(2:Nat)+(0:Nat))+(L.f ((↑z:Int) - (1:Int)).toNat).4*(L.f ((↑z:Int) - (1:Int)).toNat).3 else lfZ L z (8:Nat))=lfZ L z_1 (8:Nat)∧(if (0:Nat)+((↑z:Int) - (1:Int)).toNat*(2:Nat)+(1:Nat)=(0:Nat)+(1:Nat)+(1:Nat)+(1:Nat)+(1:Nat)+(1:Nat)+(1:Nat)+(1:Nat)+(1:Nat)+(1:Nat) then cellZ ((SRow.v (10:Nat) (SV.agg (setZ IntKind.i64 ((0:Nat)+((↑z:Int) - (1 :
Int)).toNat*Nat.succ (1:Nat)+(0:Nat)) (cellZ (T10 (lfZ L z)).cells ((0:Nat)+((↑z:Int) - (1:Int)+(1:Int)).toNat*Nat.succ (1:Nat)+(0:Nat))+(L.f ((↑z:Int) - (1:Int)).toNat).mo*(L.f ((↑z:Int) - (1:Int)).toNat).v) [i6 (lfZ L z (0:Nat)),i6 (lfZ L z (1:Nat)),i6 (lfZ L z (2:Nat)),i6 (lfZ L z (3:Nat)),i6 (lfZ L z (4:Nat)),i6 (lfZ L z (5:Nat)),i6 (lfZ L z (6:Nat)),i6 (lfZ L z (7:Nat)),i6 (lfZ L z (8:Nat)),i6 (lfZ L z (9:Nat))] (0:Nat)))).f (0:Nat)).cells ((0:Nat)+((↑z:Int) - (1:Int)+(1:Int)).toNat*(2:Nat)+(1:Nat))+(L.f ((↑z:Int) - (1:Int)).toNat).4*(L.f ((↑z:Int) - (1:Int)).toNat).1 else if (0:Nat)+((↑z:Int) - (1:Int)).toNat*(2:Nat)+(0:Nat)=(0:Nat)+(1:Nat)+(1:Nat)+(1:Nat)+(1:Nat)+(1:Nat)+(1:Nat)+(1:Nat)+(1:Nat)+(1:Nat) then cellZ (T10
(lfZ L z)).cells ((0:Nat)+((↑z:Int) - (1:Int)+(1:Int)).toNat*(2:Nat)+(0:Nat))+(L.f ((↑z:Int) - (1:Int)).toNat).4*(L.f ((↑z:Int) - (1:Int)).toNat).3 else lfZ L z (9:Nat))=lfZ L z_1 (9:Nat)∧True)∧(¬(0:Int)≤(↑z:Int) - (1:Int)→(0:Nat)<(1:Nat)∧(0:Nat)<(1:Nat)∧lfZ L z (0:Nat)=lfI L (0:Nat)∧lfZ L z (1:Nat)=lfI L (1:Nat)∧lfZ L z (2:Nat)=lfI L (2:Nat)∧lfZ L z (3:Nat)=lfI L (3:Nat)∧lfZ L z (4:Nat)=lfI L (4:Nat)∧lfZ L z (5:Nat)=lfI L (5:Nat)∧lfZ L z (6:Nat)=lfI L (6:Nat)∧lfZ L z (7:Nat)=lfI L (7:Nat)∧lfZ L z (8:Nat)=lfI L (8:Nat)∧lfZ L z (9:Nat)=lfI L (9:Nat)∧True)):=by kernel_rfl
end Go.Proofs.Ytblomfkinjmjdaa

set_option maxRecDepth 100000
namespace Go.Proofs.Ytblomfkinjmjdaa
open Go Go.Lg
attribute [local irreducible] bodyH funS
theorem vl_true {L:Sl} (hn:L.n≤1000):vlG L:=by
 rw [vlG_vc]
 simp only [rI,rE,tt3,tt4,tt5,tt13,tt14,and_true,true_and,Nat.zero_lt_one,implies_true,Int.toNat_natCast,Bool.false_eq_true,false_iff,true_iff,Classical.not_not]
 refine ⟨⟨0,⟨by omega,fun i hi=>by omega⟩,rfl⟩,fun z hz=>⟨fun hl=>⟨by omega,hl,fun h1 hh=>h1 (hh z (by omega)).sp,fun h1=>⟨fun h2 hh=>h2 ⟨(hh z (by omega)).v0,(hh z (by omega)).v1⟩,fun h2=>⟨fun h3 hh=>h3 ⟨(hh z (by omega)).m0,(hh z (by omega)).m1⟩,fun h3=>⟨fun h4 hh=>h4 ⟨(hh z (by omega)).p0,(hh z (by omega)).p1⟩,fun h4=>⟨by omega,z+1,⟨by omega,fun i hi=>?_⟩,by omega,by omega⟩⟩⟩⟩⟩,fun hl i hi=>hz.2 i (by omega)⟩⟩
 by_cases e:i<z
 ·exact hz.2 i e
 ·have:i=z:=by omega
  subst this; exact ⟨h1,h2.1,h2.2,h3.1,h3.2,h4.1,h4.2⟩
theorem vl_ok:vlC.Ok Try.prog:=by
 refine ⟨by kernel_rfl,fun x k hk=>?_⟩
 simp only [vlC] at hk
 split at hk
 ·rename_i n f
  obtain ⟨hf,h1,hk⟩:=hk
  have hh:=vl_true (L:=slOf n f) h1
  unfold vlG at hh
  rw [← hf] at hh
  exact ⟨_,Does.plain (funH_does vt_cs nilS_x nilS_ic mixed hh) trivial,hk⟩
 ·exact hk.elim
theorem wiM_true {m:Mx} {k:Int} {s:Sup} {n:Int} (hm:okM m) (hs:okSu s) (hk:0≤k∧k<4) (hn:0≤n∧n≤20):wiMG m k s n:=by
 rw [wiMG_vc]
 have ne:∀ j:Nat,4≤j→¬ (0+k.toNat*1=j):=fun j hj=>by omega
 have e4:=ne (0+1+1+1+1) (by omega)
 have e5:=ne (0+1+1+1+1+1) (by omega)
 have e6:=ne (0+1+1+1+1+1+1) (by omega)
 have e7:=ne (0+1+1+1+1+1+1+1) (by omega)
 simp only [if_neg e4,if_neg e5,if_neg e6,if_neg e7,rI,rE,and_true,true_and,Nat.zero_lt_one,Nat.zero_add,Nat.mul_one]
 have a1:=hm.v
 have a2:=hm.c
 have a3:=hm.h
 have a4:=hm.p
 have s1:=hs.sp.a
 have s2:=hs.sp.b
 have s3:=hs.sp.c
 have b1:=mul_bd hn.1 hn.2 hs.v0 hs.v1
 have b2:=mul_bd hn.1 hn.2 s1 (by omega:s.lo≤10000)
 have b3:=mul_bd hn.1 hn.2 (by omega:0≤s.hi) s3
 have b4:=mul_bd hn.1 hn.2 hs.p0 hs.p1
 exact ⟨by omega,by omega,by omega,by omega,by omega,by omega,by omega,by omega,by omega,by omega,by omega⟩
theorem wiM_ok:wiMC.Ok Try.prog:=by
 refine ⟨by kernel_rfl,fun x k hk=>?_⟩
 simp only [wiMC] at hk
 split at hk
 ·rename_i a b c d e f g h at' s1 s2 s3 s4 s5 n
  obtain ⟨h1,h2,h3,h4,hk⟩:=hk
  have hh:=wiM_true h1 h2 h3 h4
  unfold wiMG at hh
  exact ⟨_,Does.plain (funH_does nilS_cs nilS_x nilS_ic mixed hh) (by simp [plainS,plainS.plainL,Mx.sv,Mx.cells]),hk⟩
 ·exact hk.elim
theorem pa_true (D:Dm) (m:Mx):paG D m:=by
 rw [paG_vc]
 simp only [rI,rE,and_true,true_and,Nat.zero_lt_one,pasP,true_iff]
 exact ⟨fun h=>.inl h,fun h=>⟨fun h2=>.inr h2,fun h2=>h2.resolve_left h⟩⟩
theorem pa_ok:paC.Ok Try.prog:=by
 refine ⟨by kernel_rfl,fun x k hk=>?_⟩
 simp only [paC] at hk
 split at hk
 ·rename_i x y z a b c d e f g h
  have hh:=pa_true ⟨x,y,z⟩ ⟨a,b,c,d,e,f,g,h⟩
  unfold paG at hh
  exact ⟨_,Does.plain (funH_does nilS_cs nilS_x nilS_ic mixed hh) trivial,hk⟩
 ·exact hk.elim
theorem be_true {D:Dm} {m:Mx} {u v:Int} (hm:okM m) (hu:0≤u∧u≤1000000000) (hv:0≤v∧v≤1000000000):beG D m u v:=by
 rw [beG_vc]
 have a1:=hm.v
 have a2:=hm.c
 simp only [rI,rE,and_true,true_and,Nat.zero_lt_one,beyP,true_iff]
 exact ⟨by omega,fun h=>.inl h,fun h=>⟨by omega,fun h2=>.inr h2,fun h2=>h2.resolve_left h⟩⟩
theorem be_ok:beC.Ok Try.prog:=by
 refine ⟨by kernel_rfl,fun x k hk=>?_⟩
 simp only [beC] at hk
 split at hk
 ·rename_i x y z a b c d e f g h u v
  obtain ⟨h1,h2,h3,hk⟩:=hk
  have hh:=be_true (D:=⟨x,y,z⟩) h1 h2 h3
  unfold beG at hh
  exact ⟨_,Does.plain (funH_does nilS_cs nilS_x nilS_ic mixed hh) trivial,hk⟩
 ·exact hk.elim
theorem rv_step {L:Sl} {k:Nat} (hk:k<L.n):rvV L k=rvV L (k+1)+(L.f k).mo*(L.f k).v∧rvC L k=rvC L (k+1)+(L.f k).mo*(L.f k).lo:=by
 unfold rvV rvC
 rw [if_pos (by omega),if_pos (by omega),if_pos (by omega),if_pos (by omega)]
 have e1:voS L (moX L) (k+1)=voS L (moX L) k+(L.f k).mo*(L.f k).v:=rfl
 have e2:coS L (moX L) (k+1)=coS L (moX L) k+(L.f k).mo*(L.f k).lo:=rfl
 rw [e1,e2]
 omega
theorem rv_end {L:Sl} {k:Nat} (hk:L.n≤k):rvV L k=0∧rvC L k=0:=by
 unfold rvV rvC
 rcases Nat.lt_or_eq_of_le hk with h | h
 ·rw [if_neg (by omega),if_neg (by omega)]; exact ⟨rfl,rfl⟩
 ·subst h
  rw [if_pos (Nat.le_refl _),if_pos (Nat.le_refl _)]; omega
theorem rv_bd {L:Sl} (hL:okSl L) (hn:L.n≤4) (k:Nat):(0≤rvV L k∧rvV L k≤1000)∧(0≤rvC L k∧rvC L k≤1000000):=by
 have key:∀ j k,k+j=L.n→(0≤rvV L k∧rvV L k≤j*20)∧(0≤rvC L k∧rvC L k≤j*200000):=by
  intro j
  induction j with
  | zero =>
   intro k hk
   obtain ⟨e1,e2⟩:=rv_end (L:=L) (k:=k) (by omega)
   rw [e1,e2]; omega
  | succ j ih =>
   intro k hk
   obtain ⟨e1,e2⟩:=rv_step (L:=L) (k:=k) (by omega)
   have h:=ih (k+1) (by omega)
   have s:=hL k (by omega)
   have b1:=mul_bd s.m0 s.m1 s.v0 s.v1
   have b2:=mul_bd s.m0 s.m1 s.sp.a (Int.le_trans s.sp.b s.sp.c)
   rw [e1,e2]
   push_cast
   omega
 by_cases h:k≤L.n
 ·have:=key (L.n - k) k (by omega)
  omega
 ·obtain ⟨e1,e2⟩:=rv_end (L:=L) (k:=k) (by omega)
  rw [e1,e2]; omega
theorem cz_s (x:SV) (cs:List SV) (j:Nat):cellZ (x :: cs) (j+1)=cellZ cs j:=rfl
theorem cz_0 (x:SV) (cs:List SV):cellZ (x :: cs) 0=numZ x:=rfl
theorem nz_i (K:IntKind) (z:Int):numZ (SV.int K z)=z:=rfl
theorem nz_6 (z:Int):numZ (i6 z)=z:=rfl
theorem re_true {L:Sl} (hL:okSl L) (hn:L.n≤4):reG L:=by
 rw [reG_vc]
 have bd:=rv_bd hL hn
 refine ⟨by unfold rI; omega,⟨L.n,Nat.le_refl _,rfl,fun i hi=>⟨rfl,trivial,trivial,trivial,trivial,trivial,trivial⟩,rfl,rfl,rfl,rfl,rfl,rfl,rfl,rfl,rfl,rfl,rfl,rfl,rfl,rfl,rfl,?_⟩,fun z hz=>⟨fun hl=>?_,fun hl=>?_⟩⟩
 ·have e:∀ j,(0:Int)=lfZ L L.n j:=fun j=>by
   unfold lfZ
   split
   ·rename_i h
    obtain ⟨e1,e2⟩:=rv_end (L:=L) (k:=j / 2) h
    unfold lfI; rw [e1,e2]; split <;> rfl
   ·rfl
  exact ⟨e 0,e 1,e 2,e 3,e 4,e 5,e 6,e 7,e 8,e 9,trivial⟩
 ·obtain ⟨k,rfl⟩:∃ k,z=k+1:=⟨z - 1,by omega⟩
  have s:=hL k (by omega)
  have b1:=mul_bd s.m0 s.m1 s.v0 s.v1
  have b2:=mul_bd s.m0 s.m1 s.sp.a (Int.le_trans s.sp.b s.sp.c)
  obtain ⟨e1,e2⟩:=rv_step (L:=L) (k:=k) (by omega)
  have c1:=bd (k+1)
  have hk:k=0∨k=1∨k=2∨k=3:=by omega
  rcases hk with rfl | rfl | rfl | rfl <;>
  ·simp only [rI,rE,and_true,true_and,Nat.zero_lt_one,implies_true,T10,SV.cells,setZ,lfZ,lfI,SRow.v]
   simp [cz_s,cz_0,nz_i,nz_6] at e1 e2 c1 ⊢
   repeat' apply And.intro
   all_goals first
    | omega
    | (refine ⟨0,?_⟩; simp; omega)
    | (refine ⟨1,?_⟩; simp; omega)
    | (refine ⟨2,?_⟩; simp; omega)
    | (refine ⟨3,?_⟩; simp; omega)
 ·have:z=0:=by omega
  subst this
  have e:∀ j,lfZ L 0 j=lfI L j:=fun j=>by unfold lfZ; rw [if_pos (by omega)]
  exact ⟨by omega,by omega,e 0,e 1,e 2,e 3,e 4,e 5,e 6,e 7,e 8,e 9,trivial⟩
theorem re_ok:reC.Ok Try.prog:=by
 refine ⟨by kernel_rfl,fun x k hk=>?_⟩
 simp only [reC] at hk
 split at hk
 ·rename_i n f
  obtain ⟨hf,h1,h2,hk⟩:=hk
  have hh:=re_true h2 h1
  unfold reG at hh
  rw [← hf] at hh
  exact ⟨_,Does.plain (funH_does nilS_cs nilS_x nilS_ic mixed hh) (by simp [plainS,plainS.plainL,T10]),hk⟩
 ·exact hk.elim
end Go.Proofs.Ytblomfkinjmjdaa
