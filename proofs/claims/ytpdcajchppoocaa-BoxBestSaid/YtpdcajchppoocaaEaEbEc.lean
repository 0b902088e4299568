import Derived.Test.YtpdcajchppoocaaProg
import Derived.Test.YtpdcajchppoocaaPfPgPhPiPjPkPnPxPu
set_option linter.unusedVariables false
set_option linter.unusedSimpArgs false
namespace Go.Lg
def b6 (z:Int):SV:=.int .i64 z
structure Tn where
 nb:Nat
 rm:Nat→Int
 rt:Nat→Int
 fo:Nat→Int
 we:Int
 rv:Int
 re:Int
 wo:Int
 ti:Int
 nl:Nat
 lo:Nat→Int
 hi:Nat→Int
structure St where
 h:Int
 n:Int
 bx:Nat→Int
 fo:Nat→Int
 rv:Nat→Int
 ba:Nat→Int
def St.sv (s:St):SV:=.agg [b6 s.h,b6 s.n,b6 (s.bx 0),b6 (s.bx 1),b6 (s.bx 2),b6 (s.bx 3),b6 (s.bx 4),b6 (s.fo 0),b6 (s.fo 1),b6 (s.fo 2),b6 (s.fo 3),b6 (s.fo 4),
 b6 (s.rv 0),b6 (s.rv 1),b6 (s.rv 2),b6 (s.rv 3),b6 (s.rv 4),b6 (s.ba 0),b6 (s.ba 1),b6 (s.ba 2),b6 (s.ba 3),b6 (s.ba 4)]
def upF (f:Nat→Int) (i:Int) (v:Int):Nat→Int:=fun j=>if (j:Int)=i then v else f j
def roF (n:Nat) (f:Nat→Int):Nat→Int:=fun i=>if i+1<n then f (i+1) else if i+1=n then f 0 else f i
def cbS (m:Int) (s:St):St:=if s.n<m∧s.ba s.n.toNat=s.h then ⟨s.h,s.n+1,s.bx,s.fo,s.rv,upF s.ba s.n 0⟩ else s
def coS (T:Tn) (s:St):Int:=if s.rv 0<T.rv then T.wo else T.ti
def tnS (T:Tn) (s:St):St :=
 ⟨s.h,s.n - 1,roF T.nb s.bx,fun i=>if s.n - 1≤(i:Int) then 0 else roF T.nb s.fo i,roF T.nb (upF s.rv 0 (if s.rv 0<T.rv then s.rv 0+1 else 0)),roF T.nb (upF s.ba 0 (s.h+T.re))⟩
def rooS (T:Tn) (s:St) (j:Nat):Int:=T.rm (s.bx j).toNat - T.we*s.rv j - s.fo j
def lvS (T:Tn) (s:St) (c:Int):Nat→Int
 | 0=>c
 | j+1=>lvS T s c j - min (min (lvS T s c j) (T.rt (s.bx j).toNat)) (rooS T s j)
def tkS (T:Tn) (s:St) (c:Int) (j:Nat):Int:=min (min (lvS T s c j) (T.rt (s.bx j).toNat)) (rooS T s j)
theorem lvS_succ (T:Tn) (s:St) (c:Int) (j:Nat):lvS T s c (j+1)=lvS T s c j - tkS T s c j:=rfl
def paS (T:Tn) (s:St) (c:Int) (m:Nat):St:=⟨s.h,s.n,s.bx,fun i=>if i<m then s.fo i+tkS T s c i else s.fo i,s.rv,s.ba⟩
def psS (T:Tn) (s:St) (c:Int):St:=⟨s.h+1,s.n,s.bx,fun i=>if (i:Int)<s.n then s.fo i+tkS T s c i else s.fo i,s.rv,s.ba⟩
def slS (T:Tn) (s:St) (c:Int):Int:=lvS T s c s.n.toNat
def beS (T:Tn):St:=⟨0,T.nb,fun i=>if i<T.nb then i else 0,fun i=>if i<T.nb then T.fo i else 0,fun _=>0,fun _=>0⟩
noncomputable def wtS (T:Tn) (w:Nat→Prop) (s:St) (h:Nat):St:=open Classical in if w h then tnS T (cbS T.nb s) else cbS T.nb s
noncomputable def stA (T:Tn) (w:Nat→Prop) (c:Nat→Int):Nat→St
 | 0=>beS T
 | h+1=>psS T (wtS T w (stA T w c h) h) (c h)
noncomputable def slA (T:Tn) (w:Nat→Prop) (c:Nat→Int) (h:Nat):Int:=slS T (wtS T w (stA T w c h) h) (c h)
def wrA (T:Tn) (w:Nat→Prop) (c:Nat→Int) (h:Nat):Prop:=w h∧(cbS T.nb (stA T w c h)).n=1
structure okT (T:Tn):Prop where
 nb:1≤T.nb∧T.nb≤5
 rv:0≤T.rv∧T.rv≤5
 we:0≤T.we∧T.we≤10000
 re:1≤T.re∧T.re≤24
 wo:0≤T.wo∧T.wo≤1000
 ti:0≤T.ti∧T.ti≤1000
 nl:T.nl≤16
 bx:∀ i,i<T.nb→1≤T.rm i∧T.rm i≤10000∧1≤T.rt i∧T.rt i≤10000∧0≤T.fo i∧T.fo i≤T.rm i∧T.we*T.rv<T.rm i
 ld:∀ i,i<T.nl→0≤T.lo i∧T.lo i≤T.hi i∧T.hi i≤10000
structure okS (T:Tn) (s:St):Prop where
 h:0≤s.h∧s.h≤16
 n:1≤s.n∧s.n≤T.nb
 bx:∀ i,i<T.nb→0≤s.bx i∧s.bx i<T.nb
 rv:∀ i,i<T.nb→0≤s.rv i∧s.rv i≤T.rv
 fo:∀ i,i<T.nb→0≤s.fo i∧s.fo i≤T.rm (s.bx i).toNat - T.we*s.rv i
 ba:∀ i,i<T.nb→0≤s.ba i∧s.ba i≤40
theorem mul_in {T:Tn} (h:okT T) {r:Int} (hr:0≤r∧r≤T.rv):0≤T.we*r∧T.we*r≤T.we*T.rv∧T.we*T.rv≤50000:=by
 refine ⟨Int.mul_nonneg h.we.1 hr.1,Int.mul_le_mul_of_nonneg_left hr.2 h.we.1,?_⟩
 calc T.we*T.rv≤T.we*5:=Int.mul_le_mul_of_nonneg_left h.rv.2 h.we.1
  _≤50000:=by have:=h.we.2; omega
theorem be_ok {T:Tn} (h:okT T):okS T (beS T):=by
 refine ⟨⟨Int.le_refl _,by show (0:Int)≤16; omega⟩,?_,fun i hi=>?_,fun i hi=>⟨Int.le_refl _,h.rv.1⟩,fun i hi=>?_,fun i hi=>⟨Int.le_refl _,by show (0:Int)≤40; omega⟩⟩
 ·have:=h.nb; show 1≤(T.nb:Int)∧(T.nb:Int)≤T.nb; omega
 ·simp only [beS,if_pos hi]; omega
 ·have:=h.bx i hi
  simp only [beS,if_pos hi,Int.toNat_natCast,Int.mul_zero]; omega
theorem cb_ok {T:Tn} (h:okT T) {s:St} (hs:okS T s):okS T (cbS T.nb s):=by
 unfold cbS
 split
 ·rename_i hc
  refine ⟨hs.h,by have:=hs.n; show 1≤s.n+1∧s.n+1≤_; omega,hs.bx,hs.rv,hs.fo,fun i hi=>?_⟩
  show 0≤upF s.ba s.n 0 i∧upF s.ba s.n 0 i≤40
  unfold upF
  split
  ·omega
  ·exact hs.ba i hi
 ·exact hs
theorem ro_in {n:Nat} {f:Nat→Int} {p:Int→Prop} (h:∀ i,i<n→p (f i)) {i:Nat} (hi:i<n):p (roF n f i):=by
 unfold roF
 split
 ·exact h _ (by assumption)
 ·split
  ·exact h 0 (by omega)
  ·exact h i hi
theorem tn_ok {T:Tn} (h:okT T) {s:St} (hs:okS T s) (hn:2≤s.n):okS T (tnS T s):=by
 have hb:=h.nb
 refine ⟨hs.h,by have:=hs.n; show 1≤s.n - 1∧s.n - 1≤_; omega,fun i hi=>ro_in (p:=fun z=>0≤z∧z<T.nb) hs.bx hi,fun i hi=>?_,fun i hi=>?_,fun i hi=>?_⟩
 ·refine ro_in (p:=fun z=>0≤z∧z≤T.rv) (fun i hi=>?_) hi
  unfold upF
  split
  ·have:=hs.rv 0 (by omega); have:=h.rv; split <;> omega
  ·exact hs.rv i hi
 ·show 0≤(if s.n - 1≤(i:Int) then 0 else roF T.nb s.fo i)∧(if s.n - 1≤(i:Int) then 0 else roF T.nb s.fo i)≤T.rm (roF T.nb s.bx i).toNat - T.we*roF T.nb (upF s.rv 0 (if s.rv 0<T.rv then s.rv 0+1 else 0)) i
  split
  ·refine ⟨Int.le_refl _,?_⟩
   have hbx:=ro_in (p:=fun z=>0≤z∧z<T.nb) hs.bx hi
   have hrv:0≤roF T.nb (upF s.rv 0 (if s.rv 0<T.rv then s.rv 0+1 else 0)) i∧roF T.nb (upF s.rv 0 (if s.rv 0<T.rv then s.rv 0+1 else 0)) i≤T.rv:=by
    refine ro_in (p:=fun z=>0≤z∧z≤T.rv) (fun i hi=>?_) hi
    unfold upF
    split
    ·have:=hs.rv 0 (by omega); have:=h.rv; split <;> omega
    ·exact hs.rv i hi
   have hm:=mul_in h hrv
   have hr:=(h.bx (roF T.nb s.bx i).toNat (by omega)).2.2.2.2.2.2
   omega
  ·rename_i hc
   have hi2:i+1<T.nb:=by have:=hs.n; omega
   simp only [roF,if_pos hi2,upF]
   rw [if_neg (by omega)]
   exact hs.fo _ hi2
 ·refine ro_in (p:=fun z=>0≤z∧z≤40) (fun i hi=>?_) hi
  unfold upF
  split
  ·have:=hs.h; have:=h.re; omega
  ·exact hs.ba i hi
theorem lv_in {T:Tn} (h:okT T) {s:St} (hs:okS T s) {c:Int} (hc:0≤c):∀ j:Nat,(j:Int)≤s.n→0≤lvS T s c j∧lvS T s c j≤c∧((j:Int)<s.n→0≤tkS T s c j∧tkS T s c j≤rooS T s j)
 | 0,_=>⟨hc,Int.le_refl _,fun h0=>by
  have hj:0<T.nb:=by have:=hs.n; omega
  have h1:=hs.bx 0 hj
  have h2:=h.bx (s.bx 0).toNat (by omega)
  have h3:=hs.fo 0 hj
  unfold tkS rooS lvS; omega⟩
 | j+1,hj=>by
  obtain ⟨a1,a2,a3⟩:=lv_in h hs hc j (by omega)
  obtain ⟨a4,a5⟩:=a3 (by omega)
  have e:lvS T s c (j+1)=lvS T s c j - tkS T s c j:=rfl
  have t1:tkS T s c j≤lvS T s c j:=by unfold tkS; omega
  refine ⟨by omega,by omega,fun h0=>?_⟩
  have hj:j+1<T.nb:=by have:=hs.n; omega
  have h1:=hs.bx (j+1) hj
  have h2:=h.bx (s.bx (j+1)).toNat (by omega)
  have h3:=hs.fo (j+1) hj
  unfold tkS rooS
  omega
theorem ps_ok {T:Tn} (h:okT T) {s:St} (hs:okS T s) (hh:s.h≤15) {c:Int} (hc:0≤c):okS T (psS T s c):=by
 refine ⟨by have:=hs.h; show 0≤s.h+1∧s.h+1≤16; omega,hs.n,hs.bx,hs.rv,fun i hi=>?_,hs.ba⟩
 show 0≤(if (i:Int)<s.n then s.fo i+tkS T s c i else s.fo i)∧(if (i:Int)<s.n then s.fo i+tkS T s c i else s.fo i)≤_
 have h1:=hs.fo i hi
 split
 ·rename_i hlt
  obtain ⟨_,_,a⟩:=lv_in h hs hc i (by omega)
  have:=a hlt
  unfold rooS at this
  show _∧_≤T.rm (s.bx i).toNat - T.we*s.rv i
  omega
 ·exact h1
end Go.Lg

namespace Go.Lg
structure leS (s t:St):Prop where
 h:s.h=t.h
 n:s.n=t.n
 bx:s.bx=t.bx
 rv:s.rv=t.rv
 ba:s.ba=t.ba
 fo:∀ i,s.fo i≤t.fo i
theorem leS.refl (s:St):leS s s:=⟨rfl,rfl,rfl,rfl,rfl,fun _=>Int.le_refl _⟩
theorem cb_le {m:Int} {s t:St} (h:leS s t):leS (cbS m s) (cbS m t):=by
 unfold cbS
 rw [h.n,h.ba,h.h]
 split
 ·exact ⟨rfl,rfl,h.bx,h.rv,rfl,h.fo⟩
 ·exact h
theorem tn_le {T:Tn} {s t:St} (h:leS s t):leS (tnS T s) (tnS T t):=by
 refine ⟨h.h,by show s.n - 1=t.n - 1; rw [h.n],by show roF _ s.bx=roF _ t.bx; rw [h.bx],?_,?_,fun i=>?_⟩
 ·show roF _ _=roF _ _; rw [h.rv]
 ·show roF _ _=roF _ _; rw [h.ba,h.h]
 ·show (if s.n - 1≤(i:Int) then 0 else roF T.nb s.fo i)≤(if t.n - 1≤(i:Int) then 0 else roF T.nb t.fo i)
  rw [h.n]
  split
  ·exact Int.le_refl _
  ·unfold roF
   split
   ·exact h.fo _
   ·split
    ·exact h.fo _
    ·exact h.fo _
theorem lv_le {T:Tn} {s t:St} (h:leS s t) {c d:Int} (hc:c≤d):∀ j,lvS T s c j≤lvS T t d j∧s.fo j+tkS T s c j≤t.fo j+tkS T t d j
 | 0=>by
  have:=h.fo 0
  refine ⟨hc,?_⟩
  unfold tkS rooS lvS
  rw [h.bx,h.rv]; omega
 | j+1=>by
  obtain ⟨h1,h2⟩:=lv_le (T:=T) h hc j
  have e1:lvS T s c (j+1)=lvS T s c j - tkS T s c j:=rfl
  have e2:lvS T t d (j+1)=lvS T t d j - tkS T t d j:=rfl
  have f1:=h.fo j
  have f2:=h.fo (j+1)
  have h3:lvS T s c (j+1)≤lvS T t d (j+1):=by
   rw [e1,e2]
   unfold tkS rooS
   rw [h.bx,h.rv]; omega
  refine ⟨h3,?_⟩
  unfold tkS rooS
  rw [h.bx,h.rv]; omega
theorem ps_le {T:Tn} {s t:St} (h:leS s t) {c d:Int} (hc:c≤d):leS (psS T s c) (psS T t d)∧slS T s c≤slS T t d:=by
 refine ⟨⟨by show s.h+1=t.h+1; rw [h.h],h.n,h.bx,h.rv,h.ba,fun i=>?_⟩,?_⟩
 ·show (if (i:Int)<s.n then s.fo i+tkS T s c i else s.fo i)≤(if (i:Int)<t.n then t.fo i+tkS T t d i else t.fo i)
  rw [h.n]
  split
  ·exact (lv_le h hc i).2
  ·exact h.fo i
 ·unfold slS
  rw [h.n]
  exact (lv_le h hc _).1
theorem wt_le {T:Tn} {w:Nat→Prop} {s t:St} (h:leS s t) (k:Nat):leS (wtS T w s k) (wtS T w t k):=by
 unfold wtS
 split
 ·exact tn_le (cb_le h)
 ·exact cb_le h
theorem st_le {T:Tn} {w:Nat→Prop} {c d:Nat→Int}:∀ {m:Nat},(∀ h,h<m→c h≤d h)→leS (stA T w c m) (stA T w d m)
 | 0,_=>leS.refl _
 | m+1,hc=>(ps_le (wt_le (st_le (m:=m) fun h hh=>hc h (by omega)) m) (hc m (by omega))).1
theorem sl_le {T:Tn} {w:Nat→Prop} {c d:Nat→Int} {m:Nat} (hc:∀ h,h≤m→c h≤d h):slA T w c m≤slA T w d m :=
 (ps_le (wt_le (st_le (m:=m) fun h hh=>hc h (by omega)) m) (hc m (Nat.le_refl _))).2
structure skS (s t:St):Prop where
 h:s.h=t.h
 n:s.n=t.n
 bx:s.bx=t.bx
 rv:s.rv=t.rv
 ba:s.ba=t.ba
theorem cb_sk {m:Int} {s t:St} (h:skS s t):skS (cbS m s) (cbS m t):=by
 unfold cbS
 rw [h.n,h.ba,h.h]
 split
 ·exact ⟨rfl,rfl,h.bx,h.rv,rfl⟩
 ·exact h
theorem tn_sk {T:Tn} {s t:St} (h:skS s t):skS (tnS T s) (tnS T t) :=
 ⟨h.h,by show s.n - 1=t.n - 1; rw [h.n],by show roF _ s.bx=roF _ t.bx; rw [h.bx],by show roF _ _=roF _ _; rw [h.rv],by show roF _ _=roF _ _; rw [h.ba,h.h]⟩
theorem wt_sk {T:Tn} {w:Nat→Prop} {s t:St} (h:skS s t) (k:Nat):skS (wtS T w s k) (wtS T w t k):=by
 unfold wtS
 split
 ·exact tn_sk (cb_sk h)
 ·exact cb_sk h
theorem st_sk {T:Tn} {w:Nat→Prop} {c d:Nat→Int}:∀ m,skS (stA T w c m) (stA T w d m)
 | 0=>⟨rfl,rfl,rfl,rfl,rfl⟩
 | m+1=>by
  have:=wt_sk (T:=T) (w:=w) (st_sk (T:=T) (w:=w) (c:=c) (d:=d) m) m
  exact ⟨by show _+1=_+1; rw [this.h],this.n,this.bx,this.rv,this.ba⟩
theorem wr_sk {T:Tn} {w:Nat→Prop} {c d:Nat→Int} {h:Nat}:wrA T w c h↔wrA T w d h:=by
 unfold wrA
 rw [(cb_sk (m:=(T.nb:Int)) (st_sk (T:=T) (w:=w) (c:=c) (d:=d) h)).n]
theorem st_eq {T:Tn} {w:Nat→Prop} {c d:Nat→Int}:∀ {m:Nat},(∀ h,h<m→c h=d h)→stA T w c m=stA T w d m
 | 0,_=>rfl
 | m+1,hc=>by
  show psS T (wtS T w (stA T w c m) m) (c m)=psS T (wtS T w (stA T w d m) m) (d m)
  rw [st_eq (m:=m) fun h hh=>hc h (by omega),hc m (by omega)]
theorem sl_eq {T:Tn} {w:Nat→Prop} {c d:Nat→Int} {m:Nat} (hc:∀ h,h≤m→c h=d h):slA T w c m=slA T w d m:=by
 unfold slA
 rw [st_eq (m:=m) fun h hh=>hc h (by omega),hc m (Nat.le_refl _)]
theorem wt_ok {T:Tn} (h:okT T) {w:Nat→Prop} {s:St} (hs:okS T s) {k:Nat} (hw:¬ (w k∧(cbS T.nb s).n=1)):okS T (wtS T w s k):=by
 have h1:=cb_ok h hs
 unfold wtS
 split
 ·rename_i hk
  refine tn_ok h h1 ?_
  have:=h1.n
  have:¬ (cbS T.nb s).n=1:=fun e=>hw ⟨hk,e⟩
  omega
 ·exact h1
theorem wt_h {T:Tn} {w:Nat→Prop} {s:St} {k:Nat}:(wtS T w s k).h=s.h:=by
 have h1:(cbS T.nb s).h=s.h:=by unfold cbS; split <;> rfl
 unfold wtS
 split
 ·exact h1
 ·exact h1
theorem st_h {T:Tn} {w:Nat→Prop} {c:Nat→Int}:∀ m:Nat,(stA T w c m).h=m
 | 0=>rfl
 | m+1=>by
  show (wtS T w (stA T w c m) m).h+1=_
  rw [wt_h,st_h m]; omega
theorem st_ok {T:Tn} (h:okT T) {w:Nat→Prop} {c:Nat→Int}:∀ {m:Nat},m≤16→(∀ k,k<m→0≤c k)→(∀ k,k<m→¬ wrA T w c k)→okS T (stA T w c m)
 | 0,_,_,_=>be_ok h
 | m+1,hm,hc,hw=>by
  have h1:=st_ok h (m:=m) (by omega) (fun k hk=>hc k (by omega)) (fun k hk=>hw k (by omega))
  refine ps_ok h (wt_ok h h1 (hw m (by omega))) ?_ (hc m (by omega))
  rw [wt_h,st_h]; omega
theorem sl_in {T:Tn} (h:okT T) {w:Nat→Prop} {c:Nat→Int} {m:Nat} (hm:m≤15) (hc:∀ k,k≤m→0≤c k) (hw:∀ k,k≤m→¬ wrA T w c k):0≤slA T w c m∧slA T w c m≤c m:=by
 have h1:=st_ok h (m:=m) (by omega) (fun k hk=>hc k (by omega)) (fun k hk=>hw k (by omega))
 have h2:=wt_ok h h1 (hw m (Nat.le_refl _))
 have hn:=h2.n
 obtain ⟨a,b,_⟩:=lv_in h h2 (hc m (Nat.le_refl _)) (wtS T w (stA T w c m) m).n.toNat (by omega)
 exact ⟨a,b⟩
end Go.Lg

set_option maxRecDepth 100000
namespace Go.Proofs.Ytpdcajchppoocaa
open Go Go.Lg
attribute [local irreducible] bodyH
def rI (x:Int):Prop:=-9223372036854775808≤x∧x≤9223372036854775807
def rE {α:Type} (a:α):Prop:=a=a
def tt3:Prop:=True∧True∧True
def tt4:Prop:=True∧True∧True∧True
def tt5:Prop:=True∧True∧True∧True∧True
def tt13:Prop:=True∧True∧True∧True∧True∧True∧True∧True∧True∧True∧True∧True∧True
def tt14:Prop:=True∧tt13
def bxV (T:Tn) (i:Nat):SV:=.agg [b6 (T.rm i),b6 (T.rt i),b6 (T.fo i)]
def ldV (T:Tn) (i:Nat):SV:=.agg [b6 (T.lo i),b6 (T.hi i)]
def bxL (T:Tn):SV:=.lst 3 T.nb (bxV T)
def tV (T:Tn):SV:=.agg [bxL T,b6 T.we,b6 T.rv,b6 T.re,b6 T.wo,b6 T.ti,.lst 2 T.nl (ldV T)]
noncomputable def cbkG (s:St) (m:Int):Prop:=ptH Try.prog (ctrs []) noX (ictrs []) noL noL 52 22 s.sv [b6 m] (cbS m s).sv (.tup [])
noncomputable def rotX:CX:=inl Try.prog (ctrs []) none (ictrs []) 62 (oneL 0 (unrH 5)) noL (numX noX)
def atN (k:Nat) (T:Tn):Tn:=⟨k,T.rm,T.rt,T.fo,T.we,T.rv,T.re,T.wo,T.ti,T.nl,T.lo,T.hi⟩
noncomputable def trnG (T:Tn) (s:St):Prop:=ptH Try.prog (ctrs []) rotX (ictrs []) noL noL 53 22 s.sv [(tV T)] (tnS T s).sv (b6 (coS T s))
noncomputable def trn1G (T:Tn) (s:St):Prop:=trnG (atN 1 T) s
noncomputable def trn2G (T:Tn) (s:St):Prop:=trnG (atN 2 T) s
noncomputable def trn3G (T:Tn) (s:St):Prop:=trnG (atN 3 T) s
noncomputable def trn4G (T:Tn) (s:St):Prop:=trnG (atN 4 T) s
noncomputable def trn5G (T:Tn) (s:St):Prop:=trnG (atN 5 T) s
def cellsOf (s:St):List SV:=[b6 s.h,b6 s.n,b6 (s.bx 0),b6 (s.bx 1),b6 (s.bx 2),b6 (s.bx 3),b6 (s.bx 4),b6 (s.fo 0),b6 (s.fo 1),b6 (s.fo 2),b6 (s.fo 3),b6 (s.fo 4),
 b6 (s.rv 0),b6 (s.rv 1),b6 (s.rv 2),b6 (s.rv 3),b6 (s.rv 4),b6 (s.ba 0),b6 (s.ba 1),b6 (s.ba 2),b6 (s.ba 3),b6 (s.ba 4)]
def clS (T:Tn) (s:St):SV:=.clo (.func 64) [] [.ipt (cellsOf s),.ipt [bxL T]]
noncomputable def serG (T:Tn) (s:St):Prop:=funH Try.prog (ctrs []) noX (ictrs []) noL noL 63 [s.sv,bxL T] (clS T s)
noncomputable def itrG (T:Tn) (s:St):Prop:=itH Try.prog (ctrs []) noX (ictrs []) (oneL 0 (natH (fun j=>j≤s.n.toNat) (fun j=>s.n.toNat - j) 1
 (fun j=>mkF 25 [(0,.yld 0),(2,.ipt [bxL T]),(9,.lst 1 s.n.toNat fun i=>.agg [b6 (s.bx i)]),(10,b6 s.n),(11,b6 j)]) (fun _=>⟨1,.nil⟩) fun j=>some j)) noL 64 [] [.ipt (cellsOf s),.ipt [bxL T]] s.n.toNat fun j=>[b6 j,bxV T (s.bx j).toNat]
def clCtr:Ctr:=⟨63,fun args k=>match args with
 | [v,x]=>∃ T s,v=St.sv s∧x=bxL T∧k (clS T s)
 | _=>False⟩
def itI:ICtr:=⟨64,fun fs us k=>match fs,us with
 | [],[.ipt c,.ipt [x]]=>∃ T s,c=cellsOf s∧x=bxL T∧okT T∧okS T s∧k s.n.toNat 2 fun j=>[b6 j,bxV T (s.bx j).toNat]
 | _,_=>False⟩
noncomputable def pasG (T:Tn) (s:St) (c:Int):Prop:=ptH Try.prog (ctrsF [clCtr] (ctrs [])) noX (ictrs [itI]) noL
 (oneL 0 (itS 4 (fun j=>j≤s.n.toNat) (mkF 65 [(3,.ptr 1 0 0),(4,.ptr 2 0 0),(5,.ptr 3 0 0)]) (fun j=>mkX [vr 22 (paS T s c j).sv,vr 1 (.ptr 0 0 0),vr 7 (tV T),vr 1 (b6 (lvS T s c j))]) fun _=>none)) 54 22 s.sv [(tV T),b6 c] (psS T s c).sv (b6 (slS T s c))
def bgS (T:Tn) (i:Nat):St:=⟨0,T.nb,fun j=>if j<i then j else 0,fun j=>if j<i then T.fo j else 0,fun _=>0,fun _=>0⟩
noncomputable def srtG (T:Tn):Prop:=funH Try.prog (ctrs []) noX (ictrs []) (oneL 0 (natH (fun i=>i≤T.nb) (fun i=>T.nb - i) 2
 (fun i=>mkF 27 [(2,.ptr 0 0 0),(3,.ptr 1 0 0),(9,bxL T),(10,b6 T.nb),(11,b6 i)]) (fun i=>mkX [vr 22 (bgS ⟨0,fun _=>0,fun _=>0,fun _=>0,0,0,0,0,0,0,fun _=>0,fun _=>0⟩ 0).sv,vr 22 (bgS T i).sv]) fun _=>none)) noL 51 [bxL T] (beS T).sv
def iZ (s:St) (k:Nat) (x:Int):Int:=if 7+(s.2 - 1).toNat*1≤k∧k<7+(s.2 - 1).toNat*1+((5:Nat) - (s.2 - 1)).toNat then 0 else x
def nZ (k:Nat):Nat:=((k:Int) - 0).toNat
end Go.Proofs.Ytpdcajchppoocaa
