import Derived.Test.YtifjghgejnkdoaaJhJhVJitJi
import Derived.Test.YtifjghgejnkdoaaJkJkVJktJlJmJmVJntJnJoJp
import Derived.Test.YtifjghgejnkdoaaAwjIeIeVIf
import Derived.Test.YtifjghgejnkdoaaJaJaVJbTJb
set_option linter.unusedVariables false
set_option linter.unusedSimpArgs false
namespace Go.Proofs.Ytifjghgejnkdoaa
open Go Go.Lg
theorem sumJ_congr2 {f g:Nat→Int}:∀ {m:Nat},(∀ i,i<m→f i=g i)→sumJ f m=sumJ g m
 | 0,_=>rfl
 | m+1,h=>by
  show sumJ f m+f m=sumJ g m+g m
  rw [sumJ_congr2 (m:=m) fun i hi=>h i (by omega),h m (by omega)]
theorem sumJ_swap {u v:Nat→Int} {i:Nat} (h1:u i=v (i+1)) (h2:u (i+1)=v i) (h3:∀ k,k≠i→k≠i+1→u k=v k):∀ d,sumJ u (i+2+d)=sumJ v (i+2+d)
 | 0=>by
  have:=sumJ_congr2 (f:=u) (g:=v) (m:=i) fun k hk=>h3 k (by omega) (by omega)
  show sumJ u i+u i+u (i+1)=sumJ v i+v i+v (i+1)
  omega
 | d+1=>by
  show sumJ u (i+2+d)+u (i+2+d)=sumJ v (i+2+d)+v (i+2+d)
  rw [sumJ_swap h1 h2 h3 d,h3 _ (by omega) (by omega)]
theorem swp_sum {f:Nat→Int} {h:Int→Int} {j q:Nat} (hj:j+1<q):sumJ (fun k=>h (swp f (j+1) k)) q=sumJ (fun k=>h (f k)) q:=by
 obtain ⟨d,rfl⟩:∃ d,q=j+2+d:=⟨q - (j+2),by omega⟩
 refine sumJ_swap (i:=j) ?_ ?_ (fun k h1 h2=>?_) d
 ·simp [swp]
 ·simp [swp]
 ·simp only [swp]
  rw [if_neg (by omega),if_neg h2]
theorem inF_sum {sal:Nat→Sal} {h:Int→Int} {q:Nat}:∀ {j:Nat} {f:Nat→Int},j<q→sumJ (fun k=>h (inF sal f j k)) q=sumJ (fun k=>h (f k)) q
 | 0,f,_=>rfl
 | j+1,f,hj=>by
  simp only [inF]
  split
  ·rw [inF_sum (by omega),swp_sum hj]
  ·rfl
theorem stF_sum {sal:Nat→Sal} {h:Int→Int} {q:Nat}:∀ i,i≤q→sumJ (fun k=>h (stF sal i k)) q=sumJ (fun k=>h (k:Int)) q
 | 0,_=>rfl
 | i+1,hi=>by
  simp only [stF]
  rw [inF_sum (by omega),stF_sum i (by omega)]
def bef (sal:Nat→Sal) (a b:Int):Prop:=prS sal b<prS sal a∨(prS sal b=prS sal a∧a<b)
theorem bef_trans {sal:Nat→Sal} {a b c:Int} (h:bef sal a b) (k:bef sal b c):bef sal a c:=by
 unfold bef at *
 omega
theorem inF_above {sal:Nat→Sal}:∀ {j:Nat} {f:Nat→Int} {k:Nat},j<k→inF sal f j k=f k
 | 0,f,k,_=>rfl
 | j+1,f,k,h=>by
  simp only [inF]
  split
  ·rw [inF_above (by omega)]
   simp only [swp]
   rw [if_neg (by omega),if_neg (by omega)]
  ·rfl
theorem ins {sal:Nat→Sal} {i:Nat} {x:Int}:∀ (j:Nat) (f:Nat→Int),j≤i→f j=x→(∀ k,k+1<j→bef sal (f k) (f (k+1)))→(∀ k,j<k→k+1≤i→bef sal (f k) (f (k+1)))→(1≤j→j+1≤i→bef sal (f (j - 1)) (f (j+1)))→(j+1≤i→bef sal x (f (j+1)))→(∀ k,k≤i→k≠j→f k<x)→∀ k,k+1≤i→bef sal (inF sal f j k) (inF sal f j (k+1))
 | 0,f,hj,hx,A,B,C,D,E,k,hk=>by
  simp only [inF]
  by_cases e:k=0
  ·subst e; rw [hx]; exact D hk
  ·exact B k (by omega) hk
 | j+1,f,hj,hx,A,B,C,D,E,k,hk=>by
  simp only [inF]
  split
  ·rename_i hlt
   have g0:swp f (j+1) j=x:=by simp [swp,hx]
   have g1:swp f (j+1) (j+1)=f j:=by simp [swp]
   have g2:∀ k,k≠j→k≠j+1→swp f (j+1) k=f k:=fun k h1 h2=>by simp only [swp]; rw [if_neg (by omega),if_neg h2]
   refine ins j (swp f (j+1)) (by omega) g0 (fun k hk=>?_) (fun k h1 h2=>?_) (fun h1 h2=>?_) (fun h1=>?_) (fun k h1 h2=>?_) k hk
   ·rw [g2 k (by omega) (by omega),g2 (k+1) (by omega) (by omega)]; exact A k (by omega)
   ·by_cases e:k=j+1
    ·subst e; rw [g1,g2 _ (by omega) (by omega)]; exact C (by omega) h2
    ·rw [g2 k (by omega) e,g2 (k+1) (by omega) (by omega)]; exact B k (by omega) h2
   ·rw [g1,g2 _ (by omega) (by omega)]
    have:=A (j - 1) (by omega)
    rw [show j - 1+1=j by omega] at this
    exact this
   ·rw [g1]
    rw [hx] at hlt
    exact .inl hlt
   ·by_cases e:k=j+1
    ·subst e; rw [g1]; exact E j (by omega) (by omega)
    ·rw [g2 k h2 e]; exact E k h1 e
  ·rename_i hlt
   rw [hx] at hlt
   by_cases e:k<j
   ·exact A k (by omega)
   ·by_cases e2:k=j
    ·subst e2
     rw [hx]
     have:=E k (by omega) (by omega)
     unfold ltS at hlt
     unfold bef
     omega
    ·by_cases e3:k=j+1
     ·subst e3; rw [hx]; exact D hk
     ·exact B k (by omega) hk
theorem stF_sorted (sal:Nat→Sal):∀ i,(∀ k,k+1<i→bef sal (stF sal i k) (stF sal i (k+1)))∧(∀ k,k<i→0≤stF sal i k∧stF sal i k<i)∧∀ k,i≤k→stF sal i k=k
 | 0=>⟨fun k h=>by omega,fun k h=>by omega,fun k _=>rfl⟩
 | i+1=>by
  obtain ⟨h1,h2,h3⟩:=stF_sorted sal i
  refine ⟨fun k hk=>?_,fun k hk=>?_,fun k hk=>?_⟩
  ·simp only [stF]
   refine ins (i:=i) (x:=(i:Int)) i _ (Nat.le_refl _) (h3 i (Nat.le_refl _)) h1 (fun k a b=>by omega) (fun a b=>by omega) (fun a=>by omega) (fun k a b=>?_) k (by omega)
   exact (h2 k (by omega)).2
  ·simp only [stF]
   have:=inF_bd (P:=fun x=>0≤x∧x<((i+1:Nat):Int)) (sal:=sal) (q:=i+1) (j:=i) (f:=stF sal i) (fun k hk=>by
    by_cases e:k=i
    ·subst e; rw [h3 k (Nat.le_refl _)]; omega
    ·have:=h2 k (by omega); omega) (by omega) k hk
   exact this
  ·simp only [stF]
   rw [inF_above (by omega),h3 k (by omega)]
theorem ord_bef (sal:Nat→Sal) (q:Nat) {a:Nat}:∀ {d:Nat},a+1+d<q→bef sal (stF sal q a) (stF sal q (a+1+d))
 | 0,h=>(stF_sorted sal q).1 a h
 | d+1,h=>bef_trans (ord_bef sal q (by omega:a+1+d<q)) ((stF_sorted sal q).1 (a+1+d) h)
theorem ord_lt (sal:Nat→Sal) {q a b:Nat} (h:a<b) (hb:b<q):bef sal (stF sal q a) (stF sal q b):=by
 have:=ord_bef sal q (a:=a) (d:=b - (a+1)) (by omega)
 rwa [show a+1+(b - (a+1))=b by omega] at this
theorem ord_inj (sal:Nat→Sal) {q a b:Nat} (ha:a<q) (hb:b<q) (h:stF sal q a=stF sal q b):a=b:=by
 rcases Nat.lt_trichotomy a b with e | e | e
 ·have:=ord_lt sal e hb
  rw [h] at this
  unfold bef at this
  omega
 ·exact e
 ·have:=ord_lt sal e ha
  rw [h] at this
  unfold bef at this
  omega
theorem sumJ_zero {f:Nat→Int}:∀ {m:Nat},(∀ i,i<m→f i=0)→sumJ f m=0
 | 0,_=>rfl
 | m+1,h=>by
  show sumJ f m+f m=0
  rw [sumJ_zero (m:=m) fun i hi=>h i (by omega),h m (by omega)]
  rfl
theorem sumJ_one {f:Nat→Int} {j:Nat}:∀ {m:Nat},j<m→(∀ i,i<m→i≠j→f i=0)→sumJ f m=f j
 | 0,h,_=>by omega
 | m+1,h,h2=>by
  show sumJ f m+f m=f j
  by_cases e:j=m
  ·subst e
   rw [sumJ_zero fun i hi=>h2 i (by omega) (by omega)]
   omega
  ·rw [sumJ_one (by omega:j<m) fun i hi hj=>h2 i (by omega) hj,h2 m (by omega) (by omega)]
   omega
theorem ord_sur (sal:Nat→Sal) {q j:Nat} (hj:j<q):∃ a,a<q∧stF sal q a=j:=by
 refine Classical.byContradiction fun hn=>?_
 have h:=stF_sum (sal:=sal) (h:=fun x=>if x=j then 1 else 0) q (Nat.le_refl _)
 rw [sumJ_zero (m:=q) fun i hi=>if_neg fun e=>hn ⟨i,hi,e⟩] at h
 rw [sumJ_one hj fun i hi hne=>if_neg (by omega),if_pos rfl] at h
 omega
end Go.Proofs.Ytifjghgejnkdoaa

namespace Go.Proofs.Ytifjghgejnkdoaa
open Go Go.Lg
attribute [local irreducible] bodyH funS
open Classical in
noncomputable def tkI (s:Sti) (k:Nat):Int:=if (k:Int)=s.inn then s.takes else 0
noncomputable def btF (c:Nat→Tw) (s:Sti) (n:Nat):Nat→Tw:=fun k=>⟨(c k).lo+n*((s.out k).lo - tkI s k),(c k).hi+n*((s.out k).hi - tkI s k)⟩
noncomputable def bmF (c:Nat→Tw) (s:Sti) (n k:Nat):Nat→Tw:=fun j=>if j<k then btF c s (n+1) j else ⟨(btF c s n j).lo - tkI s j,(btF c s n j).hi - tkI s j⟩
structure lfA (Y:Yd) (p:Nat→Int) (x:Nat × Nat):Prop where
 a:x.1<Y.m
 b:(x.2:Int)≤p x.1
 c:x.2*(Y.sti x.1).takes≤((plX Y p x.1).l (Y.sti x.1).inn.toNat).lo
structure lfB (Y:Yd) (p:Nat→Int) (x:Nat × Nat × Nat):Prop where
 a:x.1<Y.m
 b:(x.2.1:Int)<p x.1
 c:(x.2.1+1)*(Y.sti x.1).takes≤((plX Y p x.1).l (Y.sti x.1).inn.toNat).lo
 d:x.2.2≤Y.g
end Go.Proofs.Ytifjghgejnkdoaa

namespace Go.Proofs.Ytifjghgejnkdoaa
open Go Go.Lg
attribute [local irreducible] bodyH funS
def u16L (m:Nat) (b:Nat→Int):SV:=.lst 1 m fun i=>.int .u16 (b i)
structure Tx where
 i:Nat
 k:Nat
 j:Nat
 f:Nat→Int
 z:Nat
 L:Prop
def shT (Y:Yd) (p:Nat→Int) (i k:Nat):Prop:=¬ (canL Y p i∧(k:Int)*(Y.sti i).takes≤((plX Y p i).l (Y.sti i).inn.toNat).lo)
def wiB (g:Nat) (c:Nat→Tw) (f:Nat→Int):Prop:=∀ j,j<g→(c j).lo≤f j∧f j≤(c j).hi
def svB (t:FS) (s:Nat) (k:Prop→Prop):Prop:=match sget 467 t s with
 | .bool b=>k (b=true)
 | .dec P _=>k P
 | _=>False
def svN (t:FS) (s:Nat) (k:Nat→Prop):Prop:=match sget 467 t s with
 | .int _ a=>k a.toNat
 | _=>False
def svF (X:XS) (r:Nat) (k:(Nat→Int)→Prop):Prop:=match X.row r with
 | some R=>k fun i=>prI (R.f i)
 | none=>False
theorem svB_ok {t:FS} {s:Nat} {k:Prop→Prop} (h:svB t s k):∃ P,k P:=by
 unfold svB at h
 split at h
 ·exact ⟨_,h⟩
 ·exact ⟨_,h⟩
 ·exact h.elim
theorem svN_ok {t:FS} {s:Nat} {k:Nat→Prop} (h:svN t s k):∃ P,k P:=by
 unfold svN at h
 split at h
 ·exact ⟨_,h⟩
 ·exact h.elim
theorem svF_ok {X:XS} {s:Nat} {k:(Nat→Int)→Prop} (h:svF X s k):∃ P,k P:=by
 unfold svF at h
 split at h
 ·exact ⟨_,h⟩
 ·exact h.elim
noncomputable def rdT (a b c:Nat):FS→XS→(Tx→Prop)→Prop:=fun t X k=>svN t a fun i=>svN t b fun j=>svN t c fun l=>svF X 1 fun f=>svN t 14 fun z=>svB t 15 fun L=>k ⟨i,j,l,f,z,L⟩
theorem rdT_ok (a b c:Nat) (t:FS) (X:XS) (k:Tx→Prop) (h:rdT a b c t X k):∃ s,k s:=by
 obtain ⟨i,h⟩:=svN_ok h
 obtain ⟨j,h⟩:=svN_ok h
 obtain ⟨l,h⟩:=svN_ok h
 obtain ⟨f,h⟩:=svF_ok h
 obtain ⟨z,h⟩:=svN_ok h
 obtain ⟨L,h⟩:=svB_ok h
 exact ⟨_,h⟩
noncomputable def rdU (a:Nat):FS→XS→(Nat × (Nat→Int)→Prop)→Prop:=fun t X k=>svN t a fun i=>svF X 1 fun f=>k (i,f)
theorem rdU_ok (a:Nat) (t:FS) (X:XS) (k:Nat × (Nat→Int)→Prop) (h:rdU a t X k):∃ s,k s:=by
 obtain ⟨i,h⟩:=svN_ok h
 obtain ⟨f,h⟩:=svF_ok h
 exact ⟨_,h⟩
noncomputable def prP (a b:Nat):FS→XS→(Nat→Prop)→Prop:=fun t X k=>svN t a fun i=>svN t b fun j=>k (i*64+j)
theorem prP_ok (a b:Nat) (t:FS) (X:XS) (k:Nat→Prop) (h:prP a b t X k):∃ s,k s:=by
 obtain ⟨i,h⟩:=svN_ok h
 obtain ⟨f,h⟩:=svN_ok h
 exact ⟨_,h⟩
structure iv0 (Y:Yd) (p:Nat→Int) (x:Tx):Prop where
 a:x.i≤Y.m
 b:wiB Y.g (plX Y p x.i).l x.f
 c:x.z≤48*x.i
 d:x.L→¬ canL Y p x.i
structure iv2 (Y:Yd) (p:Nat→Int) (x:Tx):Prop where
 a:x.i<Y.m
 k:(x.k:Int)≤p x.i
 b:wiB Y.g (btF (plX Y p x.i).l (Y.sti x.i) x.k) x.f
 c:x.z≤48*x.i+6*x.k
 d:x.L→shT Y p x.i x.k
structure iv4 (Y:Yd) (p:Nat→Int) (x:Tx):Prop where
 a:x.i<Y.m
 k:(x.k:Int)<p x.i
 j:x.j≤Y.g
 b:wiB Y.g (bmF (plX Y p x.i).l (Y.sti x.i) x.k x.j) x.f
 c:x.z≤48*x.i+6*x.k+x.j
 d:x.L→shT Y p x.i (x.k+1)
noncomputable def ttB (Y:Yd) (n:Nat) (p:Nat→Int) (m:Nat) (b:Nat→Int) (L:List (Nat × SV)):FS:=mkF 467 ([(1,iL n p),(2,u16L m b),(3,.ptr 0 0 0)] ++ L)
noncomputable def ttC (Y:Yd) (n:Nat) (p:Nat→Int):List (Nat × SV):=[(7,twL (lfN Y n p) (plX Y p Y.m).l),(8,i6 (erP Y n p)),(9,i6 (inI Y n p)),(10,iA (inN Y n p) (inS Y p).s),(12,.sl 1 0 Y.g),(13,.sl 2 0 Y.g)]
noncomputable def ttX (Y:Yd) (f h:Nat→Int) (l:List (Option SRow)):XS:=mkX ([vr 3 Y.sv,rw' 1 Y.g fun j=>i6 (f j),rw' 1 Y.g fun j=>i6 (h j)] ++ l)
noncomputable def lsF (Y:Yd) (p:Nat→Int) (i j:Nat):Int:=((plX Y p Y.m).l j).lo - sumJ (fun k=>if (Y.sal k).good.toNat=j then (inS Y p).s k else 0) i
noncomputable def lhF (Y:Yd) (p:Nat→Int) (i j:Nat):Tw:=⟨lsF Y p i j,((plX Y p Y.m).l j).hi - sumJ (fun k=>if (Y.sal k).good.toNat=j then (inS Y p).s k else 0) i⟩
noncomputable def suF (Y:Yd) (p:Nat→Int) (i:Nat):Int:=-(plX Y p Y.m).c+sumJ (fun k=>(inS Y p).s k*(Y.sal k).price) i
noncomputable def ttD (Y:Yd) (n:Nat) (p:Nat→Int):List (Nat × SV):=[(3,.ptr 0 0 0),(9,i6 (inI Y n p)),(10,iA (inN Y n p) (inS Y p).s),(13,.sl 2 0 Y.g)]
structure ivS (Y:Yd) (p:Nat→Int) (q:Nat) (i:Nat) (x:Nat × (Nat→Int)):Prop where
 a:x.1≤q
 b:wiB Y.g (lhF Y p i) x.2
noncomputable def regH (nr:Nat) (ms:FS→XS→Ms) (t:FS) (X:XS) (D E:DS):HSpec :=
 { toLSpec:={ σ:=Unit,inv:=fun _=>True,μ:=fun _=>0,nr:=nr,ms:=ms,t:=fun _=>t,X:=fun _=>X,rd:=fun _ _ k=>k (),rdOK:=fun _ _ _ h=>⟨(),h⟩ },D:=D,E:=E }
noncomputable def tu4 (Y:Yd) (n:Nat) (p:Nat→Int) (m:Nat) (b:Nat→Int) (x:Tx) (l:List (Nat × SV)):FS:=ttB Y n p m b (ttC Y n p ++ [(14,i6 x.z),(15,.dec x.L (Classical.propDecidable _)),(16,.dec (shT Y p x.i (x.k+1)) (Classical.propDecidable _)),(17,i6 ((plX Y p x.i).c+x.k*(Y.sti x.i).pay)),(18,i6 x.i),(19,.ptr 3 0 0),(20,i6 x.k)] ++ l)
noncomputable def tr21 (Y:Yd) (n:Nat) (p:Nat→Int) (m:Nat) (b:Nat→Int):HSpec :=
 { toLSpec:={ σ:=Tx,inv:=fun x=>iv4 Y p ⟨x.i,x.k,0,x.f,x.z,x.L⟩,μ:=fun _=>0,nr:=4,ms:=fun _ _=>[],t:=fun x=>tu4 Y n p m b x [],X:=fun x=>ttX Y x.f (fun j=>(bmF (plX Y p x.i).l (Y.sti x.i) x.k 0 j).lo) [vr 5 (Y.sti x.i).sv],rd:=rdT 18 20 20,rdOK:=rdT_ok 18 20 20 },D:=[(2,3),(5,3),(8,3),(10,1),(12,3),(16,3),(18,2),(20,3),(23,1),(25,2)],par:=some ⟨prP 18 20,prP_ok 18 20⟩,kinv:=fun y x=>x.i*64+x.k=y }
noncomputable def prQ (a b c:Nat):FS→XS→(Nat→Prop)→Prop:=fun t X k=>svN t a fun i=>svN t b fun j=>svN t c fun l=>k ((i*64+j)*64+l)
theorem prQ_ok (a b c:Nat) (t:FS) (X:XS) (k:Nat→Prop) (h:prQ a b c t X k):∃ s,k s:=by
 obtain ⟨i,h⟩:=svN_ok h
 obtain ⟨f,h⟩:=svN_ok h
 obtain ⟨f,h⟩:=svN_ok h
 exact ⟨_,h⟩
noncomputable def tr26 (Y:Yd) (n:Nat) (p:Nat→Int) (m:Nat) (b:Nat→Int):HSpec :=
 { toLSpec:={ σ:=Tx,inv:=fun x=>x.j<Y.g∧iv4 Y p ⟨x.i,x.k,x.j+1,x.f,x.z+1,x.L⟩,μ:=fun _=>0,nr:=5,ms:=fun _ _=>[],t:=fun x=>tu4 Y n p m b x [(21,i6 x.j)],X:=fun x=>ttX Y x.f (fun j=>(bmF (plX Y p x.i).l (Y.sti x.i) x.k (x.j+1) j).lo) [vr 5 (Y.sti x.i).sv,none],rd:=rdT 18 20 21,rdOK:=rdT_ok 18 20 21 },D:=[(7,1),(9,4),(22,4),(24,4),(32,2),(34,4),(37,1),(39,2)],par:=some ⟨prQ 18 20 21,prQ_ok 18 20 21⟩,kinv:=fun y x=>(x.i*64+x.k)*64+x.j=y }
noncomputable def tr45 (Y:Yd) (n:Nat) (p:Nat→Int):HSpec :=
 { toLSpec:={ σ:=Nat × (Nat→Int),inv:=fun x=>x.1<Y.q∧ivS Y p Y.q (x.1+1) x,μ:=fun _=>0,nr:=4,ms:=fun _ _=>[],t:=fun x=>mkF 467 (ttD Y n p ++ [(12,.sl 1 0 Y.g),(24,i6 (suF Y p x.1)),(25,i6 x.1),(26,.ptr 3 0 0)]),X:=fun x=>ttX Y x.2 (lsF Y p (x.1+1)) [vr 3 (Y.sal x.1).sv],rd:=rdU 25,rdOK:=rdU_ok 25 },D:=[(2,3),(5,3),(8,3),(10,1),(18,3),(20,2),(27,1),(29,2)],par:=some ⟨fun t X k=>svN t 25 k,fun t X k h=>svN_ok h⟩,kinv:=fun y x=>x.1=y }
noncomputable def ttL (Y:Yd) (n:Nat) (p:Nat→Int) (m:Nat) (b:Nat→Int):Nat→Option HSpec :=
 twoL 1011 (regH 1 (fun t _=>match sget 467 t 12,sget 467 t 13 with
   | .sl r _ _,.sl s _ _=>[some r,some s]
   | _,_=>[]) (ttB Y n p m b (ttC Y n p)) (ttX Y Y.st Y.st []) [(2,0),(6,0)] [(3,0),(7,0)]) <|
 twoL 1021 (tr21 Y n p m b) <| twoL 1026 (tr26 Y n p m b) <| twoL 1045 (tr45 Y n p) <|
 twoL 0 { toLSpec:={ σ:=Tx,inv:=iv0 Y p,μ:=fun x=>Y.m - x.i,nr:=3,ms:=fun _ _=>[],t:=fun x=>ttB Y n p m b (ttC Y n p ++ [(14,i6 x.z),(15,.dec x.L (Classical.propDecidable _)),(16,.dec (¬ canL Y p x.i) (Classical.propDecidable _)),(17,i6 (plX Y p x.i).c),(18,i6 x.i)]),X:=fun x=>ttX Y x.f (fun j=>((plX Y p x.i).l j).lo) [],rd:=rdT 18 18 18,rdOK:=rdT_ok 18 18 18 } } <|
 twoL 2 { toLSpec:={ σ:=Tx,inv:=iv2 Y p,μ:=fun x=>(p x.i).toNat - x.k,nr:=4,ms:=fun _ _=>[],t:=fun x=>ttB Y n p m b (ttC Y n p ++ [(14,i6 x.z),(15,.dec x.L (Classical.propDecidable _)),(16,.dec (shT Y p x.i x.k) (Classical.propDecidable _)),(17,i6 ((plX Y p x.i).c+x.k*(Y.sti x.i).pay)),(18,i6 x.i),(19,.ptr 3 0 0),(20,i6 x.k)]),X:=fun x=>ttX Y x.f (fun j=>(btF (plX Y p x.i).l (Y.sti x.i) x.k j).lo) [vr 5 (Y.sti x.i).sv],rd:=rdT 18 20 20,rdOK:=rdT_ok 18 20 20 },par:=some ⟨fun t X k=>svN t 18 k,fun t X k h=>svN_ok h⟩,kinv:=fun y x=>x.i=y } <|
 twoL 4 { toLSpec:={ σ:=Tx,inv:=iv4 Y p,μ:=fun x=>Y.g - x.j,nr:=4,ms:=fun _ _=>[],t:=fun x=>ttB Y n p m b (ttC Y n p ++ [(14,i6 x.z),(15,.dec x.L (Classical.propDecidable _)),(16,.dec (shT Y p x.i (x.k+1)) (Classical.propDecidable _)),(17,i6 ((plX Y p x.i).c+x.k*(Y.sti x.i).pay)),(18,i6 x.i),(19,.ptr 3 0 0),(20,i6 x.k),(21,i6 x.j)]),X:=fun x=>ttX Y x.f (fun j=>(bmF (plX Y p x.i).l (Y.sti x.i) x.k x.j j).lo) [vr 5 (Y.sti x.i).sv],rd:=rdT 18 20 21,rdOK:=rdT_ok 18 20 21 },par:=some ⟨prP 18 20,prP_ok 18 20⟩,kinv:=fun y x=>x.i*64+x.k=y } <|
 twoL 6 { toLSpec:={ σ:=Nat × (Nat→Int),inv:=ivS Y p Y.g 0,μ:=fun x=>Y.g - x.1,nr:=3,ms:=fun _ _=>[],t:=fun x=>mkF 467 (ttD Y n p ++ [(7,twL (lfN Y n p) (plX Y p Y.m).l),(12,.sl 1 0 Y.g),(17,i6 (plX Y p Y.m).c),(23,i6 x.1)]),X:=fun x=>ttX Y x.2 (lsF Y p 0) [],rd:=rdU 23,rdOK:=rdU_ok 23 } } <|
 twoL 8 { toLSpec:={ σ:=Nat × (Nat→Int),inv:=fun x=>ivS Y p Y.q x.1 x,μ:=fun x=>Y.q - x.1,nr:=3,ms:=fun _ _=>[],t:=fun x=>mkF 467 (ttD Y n p ++ [(12,.sl 1 0 Y.g),(24,i6 (suF Y p x.1)),(25,i6 x.1)]),X:=fun x=>ttX Y x.2 (lsF Y p x.1) [],rd:=rdU 25,rdOK:=rdU_ok 25 } } <|
 twoL 10 { toLSpec:={ σ:=Nat × (Nat→Int),inv:=ivS Y p Y.g Y.q,μ:=fun x=>Y.g - x.1,nr:=3,ms:=fun _ _=>[],t:=fun x=>mkF 467 (ttD Y n p ++ [(12,.sl 1 0 Y.g),(24,i6 (suF Y p Y.q)),(27,i6 x.1)]),X:=fun x=>ttX Y x.2 (lsF Y p Y.q) [],rd:=rdU 27,rdOK:=rdU_ok 27 } } <|
 twoL 12 (natH (fun i=>i≤Y.q) (fun i=>Y.q - i) 3 (fun i=>mkF 467 (ttD Y n p ++ [(24,i6 (suF Y p Y.q)),(28,i6 i)])) (fun _=>mkX [vr 3 Y.sv,none,rw' 1 Y.g fun j=>i6 (lsF Y p Y.q j)]) fun _=>none) <|
 oneL 14 (twH 467 28 29 3 (fun x=>x.1<Y.q∧x.2≤Y.q) (fun x=>Y.q - x.2) (fun x=>mkF 467 (ttD Y n p ++ [(24,i6 (suF Y p Y.q)),(28,i6 x.1),(29,i6 x.2)])) fun _=>mkX [vr 3 Y.sv,none,rw' 1 Y.g fun j=>i6 (lsF Y p Y.q j)])
noncomputable def csV:CSpec:=ctrs [lgC,awC,ydC 21,lfC,inC]
noncomputable def ttG (Y:Yd) (n:Nat) (p:Nat→Int) (m:Nat) (b:Nat→Int):Prop:=funH Try.prog csV noX (ictrs []) (ttL Y n p m b) noL 5 [Y.sv,iL n p,u16L m b] (.bool true)
end Go.Proofs.Ytifjghgejnkdoaa

set_option linter.unusedSectionVars false
namespace Go.Proofs.Ytifjghgejnkdoaa
open Go Go.Lg
theorem btF_zero (c:Nat→Tw) (s:Sti) (j:Nat):btF c s 0 j=c j:=by simp [btF]
theorem bmF_zero (c:Nat→Tw) (s:Sti) (n j:Nat):bmF c s n 0 j=⟨(btF c s n j).lo - tkI s j,(btF c s n j).hi - tkI s j⟩:=by simp [bmF]
theorem bmF_last {c:Nat→Tw} {s:Sti} {n k j:Nat} (h:j<k):bmF c s n k j=btF c s (n+1) j:=by simp [bmF,h]
theorem btF_succ (c:Nat→Tw) (s:Sti) (n j:Nat):btF c s (n+1) j=⟨(btF c s n j).lo - tkI s j+(s.out j).lo,(btF c s n j).hi - tkI s j+(s.out j).hi⟩:=by
 simp only [btF]
 have e:((n+1:Nat):Int)=n+1:=by omega
 rw [e,Int.add_mul,Int.add_mul,Int.one_mul,Int.one_mul]
 congr 1 <;> omega
theorem bmF_step (c:Nat→Tw) (s:Sti) (n k j:Nat):bmF c s n (k+1) j=if j=k then ⟨(bmF c s n k j).lo+(s.out j).lo,(bmF c s n k j).hi+(s.out j).hi⟩ else bmF c s n k j:=by
 by_cases e:j=k
 ·subst e
  rw [if_pos rfl,bmF_last (by omega),btF_succ]
  simp [bmF]
 ·rw [if_neg e]
  by_cases h:j<k
  ·rw [bmF_last h,bmF_last (by omega)]
  ·simp only [bmF]
   rw [if_neg h,if_neg (by omega)]
section
variable {Y:Yd} (h:okYd Y) {p:Nat→Int} (hp:okPl Y.m Y.sti Y.m p)
include h hp
theorem pl_succ {i j:Nat} (hi:i<Y.m) (hj:j<Y.g):btF (plX Y p i).l (Y.sti i) (p i).toNat j=(plX Y p (i+1)).l j:=by
 have s:=(h.s.b i hi).2
 have b:=hp.h i hi
 unfold okNb at b
 have on:j<(Y.sti i).on:=by have:=s.n; omega
 have e:(((p i).toNat:Nat):Int)=p i:=by omega
 show _=(⟨0+((plX Y p i).l j).lo+(tkG (Y.sti i) (p i) j).lo+(mdG (Y.sti i) (p i) (Y.sti i).on j).lo,0+((plX Y p i).l j).hi+(tkG (Y.sti i) (p i) j).hi+(mdG (Y.sti i) (p i) (Y.sti i).on j).hi⟩:Tw)
 simp only [btF,tkI,tkG,mdG,if_pos on,e]
 split
 ·simp only [Int.mul_sub,Int.zero_sub,Int.neg_mul]
  congr 1 <;> omega
 ·simp only [Int.sub_zero]
  congr 1 <;> omega
theorem pl_nn:∀ k,k≤Y.m→canL Y p k→∀ i,i<6→0≤((plX Y p k).l i).lo
 | 0,_,_,i,hi=>by
  show 0≤(if i<Y.g then (⟨Y.st i,Y.st i⟩:Tw) else ⟨0,0⟩).lo
  split
  ·rename_i hg; exact (h.g.c i hg).1
  ·exact Int.le_refl 0
 | k+1,hk,hc,i,hi=>by
  have h1:=pl_nn k (by omega) (fun i hi=>hc i (by omega)) i hi
  have c:=hc k (by omega)
  have s:=(h.s.b k (by omega)).2
  have b:=hp.h k (by omega)
  unfold okNb at b
  unfold canP at c
  show 0≤(0+((plX Y p k).l i).lo+(tkG (Y.sti k) (p k) i).lo)+(mdG (Y.sti k) (p k) (Y.sti k).on i).lo
  have hm:0≤(mdG (Y.sti k) (p k) (Y.sti k).on i).lo:=by
   unfold mdG
   split
   ·rename_i hl
    exact Int.mul_nonneg b.1 (s.o i hl).2.1
   ·exact Int.le_refl 0
  unfold tkG
  split
  ·rename_i e
   have e':(Y.sti k).inn.toNat=i:=by omega
   rw [e'] at c
   simp only [Int.zero_sub,Int.neg_mul]
   omega
  ·simp only
   omega
theorem canL_succ {i:Nat}:canL Y p (i+1)↔canL Y p i∧canP (plX Y p i) (Y.sti i) (p i) :=
 ⟨fun hh=>⟨fun k hk=>hh k (by omega),hh i (by omega)⟩,fun ⟨a,b⟩ k hk=>by
  by_cases e:k=i
  ·subst e; exact b
  ·exact a k (by omega)⟩
theorem sh_zero {i:Nat} (hi:i<Y.m):shT Y p i 0↔¬ canL Y p i:=by
 unfold shT
 have s:=(h.s.b i hi).2
 have g:=h.g.b
 constructor
 ·intro hh hc
  refine hh ⟨hc,?_⟩
  have:=pl_nn h hp i (by omega) hc (Y.sti i).inn.toNat (by have:=s.i1; have:=s.i0; omega)
  simpa using this
 ·exact fun hh hc=>hh hc.1
theorem sh_last {i:Nat} (hi:i<Y.m):shT Y p i (p i).toNat↔¬ canL Y p (i+1):=by
 have b:=hp.h i hi
 unfold okNb at b
 unfold shT
 rw [canL_succ h hp,show (((p i).toNat:Nat):Int)=p i by omega]
 rfl
theorem bt_inn {i k:Nat} (hi:i<Y.m):(btF (plX Y p i).l (Y.sti i) k (Y.sti i).inn.toNat).lo=((plX Y p i).l (Y.sti i).inn.toNat).lo - k*(Y.sti i).takes:=by
 have s:=(h.s.b i hi).2
 have i0:=s.i0
 have i1:=s.i1
 have n:=s.n
 have o:=(s.o (Y.sti i).inn.toNat (by omega)).1 (by omega)
 simp only [btF,tkI]
 rw [if_pos (by omega),o.1,Int.zero_sub,Int.mul_neg]
 omega
theorem sh_succ {i k:Nat} (hi:i<Y.m):shT Y p i (k+1)↔shT Y p i k∨(btF (plX Y p i).l (Y.sti i) k (Y.sti i).inn.toNat).lo<(Y.sti i).takes:=by
 have s:=(h.s.b i hi).2
 rw [bt_inn h hp hi]
 unfold shT
 have e:((k+1:Nat):Int)=k+1:=by omega
 rw [e,Int.add_mul,Int.one_mul]
 have t:=s.t0
 constructor
 ·intro hh
  by_cases c:canL Y p i
  ·exact .inr (Classical.byContradiction fun hn=>hh ⟨c,by omega⟩)
  ·exact .inl fun x=>c x.1
 ·rintro (hh | hh) ⟨c,x⟩
  ·exact hh ⟨c,by omega⟩
  ·omega
theorem bt_bd {i k j:Nat} (hi:i<Y.m) (hk:k≤9) (hj:j<Y.g):(-600000000≤(btF (plX Y p i).l (Y.sti i) k j).lo∧(btF (plX Y p i).l (Y.sti i) k j).lo≤600000000)∧(-600000000≤(btF (plX Y p i).l (Y.sti i) k j).hi∧(btF (plX Y p i).l (Y.sti i) k j).hi≤600000000):=by
 have b:=(pl_bd h hp i (by omega)).1 j (by have:=h.g.b; omega)
 have m4:=h.s.a
 have s:=(h.s.b i hi).2
 have o:=(s.o j (by have:=s.n; omega)).2
 obtain ⟨o1,o2,o3⟩:=o
 have t0:=s.t0
 have t1:=s.t1
 have tk:0≤tkI (Y.sti i) j∧tkI (Y.sti i) j≤1048576:=by unfold tkI; split <;> omega
 simp only [btF]
 generalize tkI (Y.sti i) j=w at *
 have:k=0∨k=1∨k=2∨k=3∨k=4∨k=5∨k=6∨k=7∨k=8∨k=9:=by omega
 rcases this with rfl | rfl | rfl | rfl | rfl | rfl | rfl | rfl | rfl | rfl <;> refine ⟨⟨?_,?_⟩,?_,?_⟩ <;> omega
end
section
variable {sal:Nat→Sal} {o:Nat→Int} {L:Nat→Tw} {q:Nat} (ho:okOr q sal o)
include ho
theorem se_fin (inj:∀ a b,a<q→b<q→o a=o b→a=b):∀ k,k≤q→∀ a,a<k→(seS sal o L k).s (o a).toNat=ssA sal (seS sal o L a) (o a)
 | 0,_,a,ha=>by omega
 | k+1,hk,a,ha=>by
  simp only [seS,ssN]
  by_cases e:a=k
  ·subst e; rw [if_pos rfl]
  ·have o1:=ho.b a (by omega)
   have o2:=ho.b k (by omega)
   rw [if_neg fun e2=>e (inj a k (by omega) (by omega) (by omega))]
   exact se_fin inj k (by omega) a (by omega)
omit ho in
theorem se_c:∀ k,(seS sal o L k).c=sumJ (fun a=>ssA sal (seS sal o L a) (o a)*(sal (o a).toNat).price) k
 | 0=>rfl
 | k+1=>by
  show (seS sal o L k).c+_=_+_
  rw [se_c k]
omit ho in
theorem se_l (g:Nat):∀ k,((seS sal o L k).l g).lo=(L g).lo - sumJ (fun a=>if (sal (o a).toNat).good.toNat=g then ssA sal (seS sal o L a) (o a) else 0) k
 | 0=>by show (L g).lo=(L g).lo - 0; omega
 | k+1=>by
  show (if g=(sal (o k).toNat).good.toNat then (⟨((seS sal o L k).l g).lo - ssA sal (seS sal o L k) (o k),((seS sal o L k).l g).hi⟩:Tw) else (seS sal o L k).l g).lo=(L g).lo - (sumJ _ k+(if (sal (o k).toNat).good.toNat=g then ssA sal (seS sal o L k) (o k) else 0))
  have ih:=se_l g k
  by_cases e:g=(sal (o k).toNat).good.toNat
  ·rw [if_pos e,if_pos (Eq.symm e)]
   simp only
   omega
  ·rw [if_neg e,if_neg fun x=>e x.symm]
   omega
end
section
variable {Y:Yd} (h:okYd Y) {p:Nat→Int} (hp:okPl Y.m Y.sti Y.m p) (hc:canL Y p Y.m)
include h hp hc
noncomputable def sS (Y:Yd) (p:Nat→Int) (k:Nat):Ss:=seS Y.sal (stF Y.sal Y.q) (plX Y p Y.m).l k
theorem sS_nn {k g:Nat} (hk:k≤Y.q) (hg:g<6):0≤((sS Y p k).l g).lo:=(se_nonneg (or_of h) (fun i hi=>pl_nn h hp Y.m (Nat.le_refl _) hc i hi) k hk).1 g hg
theorem gd_lt {i:Nat} (hi:i<Y.q):(Y.sal i).good.toNat<Y.g:=by
 have s:=h.l.b i hi
 have:=s.g0
 have:=s.g1
 have:=h.g.a
 omega
theorem ord_eq {i:Nat} (hi:i<Y.q):∃ a,a<Y.q∧stF Y.sal Y.q a=i∧(inS Y p).s i=ssA Y.sal (sS Y p a) i:=by
 obtain ⟨a,ha,e⟩:=ord_sur Y.sal hi
 refine ⟨a,ha,e,?_⟩
 have:=se_fin (L:=(plX Y p Y.m).l) (or_of h) (fun a b x y z=>ord_inj Y.sal x y z) Y.q (Nat.le_refl _) a ha
 rw [e] at this
 exact this
theorem ssA_bd {i k:Nat} (hi:i<Y.q) (hk:k≤Y.q):0≤ssA Y.sal (sS Y p k) i∧ssA Y.sal (sS Y p k) i≤(Y.sal i).most∧ssA Y.sal (sS Y p k) i≤((sS Y p k).l (Y.sal i).good.toNat).lo:=by
 have s:=h.l.b i hi
 have m0:=s.m0
 have:=sS_nn h hp hc hk (g:=(Y.sal i).good.toNat) (by have:=gd_lt h hp hc hi; have:=h.g.b; omega)
 unfold ssA
 simp only [Int.toNat_natCast]
 omega
theorem so_bd {i:Nat} (hi:i<Y.q):0≤(inS Y p).s i∧(inS Y p).s i≤(Y.sal i).most:=by
 obtain ⟨a,ha,-,e⟩:=ord_eq h hp hc hi
 rw [e]
 have:=ssA_bd h hp hc hi (k:=a) (by omega)
 exact ⟨this.1,this.2.1⟩
theorem in_c:(inS Y p).c=sumJ (fun k=>(inS Y p).s k*(Y.sal k).price) Y.q:=by
 have e:=se_c (sal:=Y.sal) (o:=stF Y.sal Y.q) (L:=(plX Y p Y.m).l) Y.q
 have e2:=stF_sum (sal:=Y.sal) (h:=fun x=>(inS Y p).s x.toNat*(Y.sal x.toNat).price) Y.q (Nat.le_refl _)
 simp only [Int.toNat_natCast] at e2
 rw [← e2]
 refine e.trans (sumJ_congr2 fun a ha=>?_)
 have:=se_fin (L:=(plX Y p Y.m).l) (or_of h) (fun a b x y z=>ord_inj Y.sal x y z) Y.q (Nat.le_refl _) a ha
 show _=(seS Y.sal (stF Y.sal Y.q) (plX Y p Y.m).l Y.q).s _*_
 rw [this]
theorem ls_eq (g:Nat):lsF Y p Y.q g=((sS Y p Y.q).l g).lo:=by
 unfold sS
 rw [se_l g Y.q]
 unfold lsF
 have e2:=stF_sum (sal:=Y.sal) (h:=fun x=>if (Y.sal x.toNat).good.toNat=g then (inS Y p).s x.toNat else 0) Y.q (Nat.le_refl _)
 simp only [Int.toNat_natCast] at e2
 rw [← e2]
 congr 1
 refine sumJ_congr2 fun a ha=>?_
 have:=se_fin (L:=(plX Y p Y.m).l) (or_of h) (fun a b x y z=>ord_inj Y.sal x y z) Y.q (Nat.le_refl _) a ha
 show (if _ then (seS Y.sal (stF Y.sal Y.q) (plX Y p Y.m).l Y.q).s _ else 0)=_
 rw [this]
theorem ls_nn {g:Nat} (hg:g<Y.g):0≤lsF Y p Y.q g:=by
 rw [ls_eq h hp hc]
 exact sS_nn h hp hc (Nat.le_refl _) (by have:=h.g.b; omega)
theorem sS_zero {g:Nat} (hg:g<6) {a:Nat} (ha:((sS Y p a).l g).lo=0):∀ d,a+d≤Y.q→((sS Y p (a+d)).l g).lo=0
 | 0,_=>ha
 | d+1,hd=>by
  have ih:=sS_zero hg ha d (by omega)
  have nn:=sS_nn h hp hc (k:=a+(d+1)) hd hg
  have ob:=(or_of h).b (a+d) (by omega)
  have hi:(stF Y.sal Y.q (a+d)).toNat<Y.q:=by omega
  have av:=ssA_bd h hp hc hi (k:=a+d) (by omega)
  have ec:(((stF Y.sal Y.q (a+d)).toNat:Nat):Int)=stF Y.sal Y.q (a+d):=by omega
  rw [ec] at av
  have el:((sS Y p (a+(d+1))).l g).lo=if g=(Y.sal (stF Y.sal Y.q (a+d)).toNat).good.toNat then ((sS Y p (a+d)).l g).lo - ssA Y.sal (sS Y p (a+d)) (stF Y.sal Y.q (a+d)) else ((sS Y p (a+d)).l g).lo:=by
   show (if g=(Y.sal (stF Y.sal Y.q (a+d)).toNat).good.toNat then (⟨((sS Y p (a+d)).l g).lo - ssA Y.sal (sS Y p (a+d)) (stF Y.sal Y.q (a+d)),((sS Y p (a+d)).l g).hi⟩:Tw) else (sS Y p (a+d)).l g).lo=_
   split <;> rfl
  rw [el] at nn ⊢
  split at nn <;> rename_i e
  ·rw [if_pos e]; omega
  ·rw [if_neg e]; exact ih
theorem sell_out {i:Nat} (hi:i<Y.q) (hl:(inS Y p).s i<(Y.sal i).most):∃ a,a<Y.q∧stF Y.sal Y.q a=i∧∀ b,a<b→b≤Y.q→((sS Y p b).l (Y.sal i).good.toNat).lo=0:=by
 obtain ⟨a,ha,e,es⟩:=ord_eq h hp hc hi
 have hg:(Y.sal i).good.toNat<6:=by have:=gd_lt h hp hc hi; have:=h.g.b; omega
 refine ⟨a,ha,e,fun b hab hb=>?_⟩
 have z:((sS Y p (a+1)).l (Y.sal i).good.toNat).lo=0:=by
  show (if (Y.sal i).good.toNat=(Y.sal (stF Y.sal Y.q a).toNat).good.toNat then (⟨((sS Y p a).l (Y.sal i).good.toNat).lo - ssA Y.sal (sS Y p a) (stF Y.sal Y.q a),((sS Y p a).l (Y.sal i).good.toNat).hi⟩:Tw) else (sS Y p a).l (Y.sal i).good.toNat).lo=0
  rw [e,Int.toNat_natCast,if_pos rfl]
  simp only
  rw [es] at hl
  unfold ssA at hl ⊢
  simp only [Int.toNat_natCast] at hl ⊢
  omega
 have:=sS_zero h hp hc hg z (b - (a+1)) (by omega)
 rwa [show a+1+(b - (a+1))=b by omega] at this
theorem more_no {i:Nat} (hi:i<Y.q) (hl:(inS Y p).s i<(Y.sal i).most):lsF Y p Y.q (Y.sal i).good.toNat=0:=by
 obtain ⟨a,ha,-,hz⟩:=sell_out h hp hc hi hl
 rw [ls_eq h hp hc]
 exact hz Y.q ha (Nat.le_refl _)
theorem price_no {i k:Nat} (hi:i<Y.q) (hk:k<Y.q) (hg:(Y.sal i).good=(Y.sal k).good) (hpr:(Y.sal k).price<(Y.sal i).price) (hl:(inS Y p).s i<(Y.sal i).most):(inS Y p).s k≤0:=by
 obtain ⟨a,ha,e,hz⟩:=sell_out h hp hc hi hl
 obtain ⟨b,hb,e2,es⟩:=ord_eq h hp hc hk
 have hab:a<b:=by
  rcases Nat.lt_trichotomy a b with x | x | x
  ·exact x
  ·subst x
   have:(i:Int)=k:=by rw [← e,e2]
   have:i=k:=by omega
   subst this; omega
  ·have o:=ord_lt Y.sal x ha
   rw [e,e2] at o
   unfold bef prS at o
   simp only [Int.toNat_natCast] at o
   omega
 have z:=hz b hab (by omega)
 have:=(ssA_bd h hp hc hk (k:=b) (by omega)).2.2
 rw [es]
 rw [hg] at z
 omega
theorem ls_le {g:Nat} (hg:g<6):∀ i,i≤Y.q→lsF Y p i g≤((plX Y p Y.m).l g).lo∧lsF Y p Y.q g≤lsF Y p i g:=by
 have nn:∀ k,k<Y.q→0≤(if (Y.sal k).good.toNat=g then (inS Y p).s k else 0):=fun k hk=>by
  split
  ·exact (so_bd h hp hc hk).1
  ·exact Int.le_refl 0
 have m1:∀ i,i≤Y.q→0≤sumJ (fun k=>if (Y.sal k).good.toNat=g then (inS Y p).s k else 0) i:=by
  intro i
  induction i with
  | zero=>exact fun _=>Int.le_refl 0
  | succ i ih =>
   intro hi
   have:=ih (by omega)
   have:=nn i (by omega)
   show 0≤sumJ _ i+(if (Y.sal i).good.toNat=g then (inS Y p).s i else 0)
   omega
 have m2:∀ d i,i+d=Y.q→sumJ (fun k=>if (Y.sal k).good.toNat=g then (inS Y p).s k else 0) i≤sumJ (fun k=>if (Y.sal k).good.toNat=g then (inS Y p).s k else 0) Y.q:=by
  intro d
  induction d with
  | zero=>intro i hi; rw [show i=Y.q by omega]; exact Int.le_refl _
  | succ d ih =>
   intro i hi
   have a:=ih (i+1) (by omega)
   have b:=nn i (by omega)
   have c:sumJ (fun k=>if (Y.sal k).good.toNat=g then (inS Y p).s k else 0) (i+1)=sumJ (fun k=>if (Y.sal k).good.toNat=g then (inS Y p).s k else 0) i+(if (Y.sal i).good.toNat=g then (inS Y p).s i else 0):=rfl
   omega
 intro i hi
 have a:=m1 i hi
 have b:=m2 (Y.q - i) i (by omega)
 unfold lsF
 omega
theorem su_bd:∀ i,i≤Y.q→(-(1000000000:Int)≤suF Y p i∧suF Y p i≤1000000000+1048576000000*i)
 | 0,_=>by
  have:=(pl_bd h hp Y.m (Nat.le_refl _)).2
  have:=h.s.a
  show _≤-(plX Y p Y.m).c+0∧-(plX Y p Y.m).c+0≤_
  omega
 | i+1,hi=>by
  have ih:=su_bd i (by omega)
  have b:=so_bd h hp hc (i:=i) (by omega)
  have s:=h.l.b i (by omega)
  have:=mul_bd b.1 (Int.le_trans b.2 s.m1) s.p0 s.p1
  have e:suF Y p (i+1)=suF Y p i+(inS Y p).s i*(Y.sal i).price:=by
   show -(plX Y p Y.m).c+(sumJ _ i+(inS Y p).s i*(Y.sal i).price)=-(plX Y p Y.m).c+sumJ _ i+(inS Y p).s i*(Y.sal i).price
   omega
  rw [e]
  push_cast
  omega
end
end Go.Proofs.Ytifjghgejnkdoaa

namespace Go.Proofs.Ytifjghgejnkdoaa
open Go Go.Lg
attribute [local irreducible] bodyH funS
end Go.Proofs.Ytifjghgejnkdoaa

set_option maxRecDepth 100000
namespace Go.Proofs.Ytifjghgejnkdoaa
open Go Go.Lg
end Go.Proofs.Ytifjghgejnkdoaa

set_option maxRecDepth 100000
namespace Go.Proofs.Ytifjghgejnkdoaa
open Go Go.Lg
attribute [local irreducible] funS bodyH
end Go.Proofs.Ytifjghgejnkdoaa

set_option maxRecDepth 100000
namespace Go.Proofs.Ytifjghgejnkdoaa
open Go Go.Lg
attribute [local irreducible] funS bodyH
theorem er0 {Y:Yd} {n:Nat} {p:Nat→Int} (h:okYd Y) (hp:okPl Y.m Y.sti n p) (hc:canL Y p Y.m):Y.g=lfN Y n p∧0=erP Y n p:=by
 have e:erP Y n p=0:=by rw [erP,if_pos h,if_pos hp,if_pos hc]
 exact ⟨by rw [lfN,if_pos e],e.symm⟩
section
variable {Y:Yd} (h:okYd Y) {p:Nat→Int} (hp:okPl Y.m Y.sti Y.m p)
include h hp
theorem bm_bd {i k j:Nat} (hi:i<Y.m) (hk:k≤9) (hj:j<Y.g):(-700000000≤(bmF (plX Y p i).l (Y.sti i) k j j).lo+((Y.sti i).out j).lo∧(bmF (plX Y p i).l (Y.sti i) k j j).lo+((Y.sti i).out j).lo≤700000000)∧(-700000000≤(bmF (plX Y p i).l (Y.sti i) k j j).hi+((Y.sti i).out j).hi∧(bmF (plX Y p i).l (Y.sti i) k j j).hi+((Y.sti i).out j).hi≤700000000):=by
 have b:=bt_bd h hp hi hk hj
 have s:=(h.s.b i hi).2
 obtain ⟨o1,o2,o3⟩:=(s.o j (by have:=s.n; omega)).2
 have t0:=s.t0
 have t1:=s.t1
 have tk:0≤tkI (Y.sti i) j∧tkI (Y.sti i) j≤1048576:=by unfold tkI; split <;> omega
 simp only [bmF,Nat.lt_irrefl,if_false]
 omega
omit hp in
theorem bm_in {i k j:Nat} (hi:i<Y.m):(if j=(Y.sti i).inn.toNat then (btF (plX Y p i).l (Y.sti i) k (Y.sti i).inn.toNat).lo - (Y.sti i).takes else (btF (plX Y p i).l (Y.sti i) k j).lo)=(btF (plX Y p i).l (Y.sti i) k j).lo - tkI (Y.sti i) j∧(if j=(Y.sti i).inn.toNat then (btF (plX Y p i).l (Y.sti i) k (Y.sti i).inn.toNat).hi - (Y.sti i).takes else (btF (plX Y p i).l (Y.sti i) k j).hi)=(btF (plX Y p i).l (Y.sti i) k j).hi - tkI (Y.sti i) j:=by
 have s:=(h.s.b i hi).2
 have i0:=s.i0
 by_cases e:j=(Y.sti i).inn.toNat
 ·rw [if_pos e,if_pos e,tkI,if_pos (by omega),← e]
  exact ⟨rfl,rfl⟩
 ·rw [if_neg e,if_neg e,tkI,if_neg (by omega)]
  exact ⟨by omega,by omega⟩
end
theorem bm_st (c:Nat→Tw) (s:Sti) (n k i:Nat):(if i=k then (bmF c s n k k).lo+(s.out k).lo else (bmF c s n k i).lo)=(bmF c s n (k+1) i).lo∧(if i=k then (bmF c s n k k).hi+(s.out k).hi else (bmF c s n k i).hi)=(bmF c s n (k+1) i).hi:=by
 rw [bmF_step]
 by_cases e:i=k
 ·subst e; simp only [if_true,and_self]
 ·simp only [if_neg e,and_self]
end Go.Proofs.Ytifjghgejnkdoaa
