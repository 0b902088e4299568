import Derived.Test.YtifjghgejnkdoaaJhJhVJitJi
import Derived.Test.YtifjghgejnkdoaaJkJkVJktJlJmJmVJntJnJoJp
import Derived.Test.YtifjghgejnkdoaaAwjIeIeVIf
import Derived.Test.YtifjghgejnkdoaaJaJaVJbTJb
set_option linter.unusedVariables false
set_option linter.unusedSimpArgs false
namespace Go.Proofs.Ytifjghgejnkdoaa
open Go Go.Lg
theorem sumJ_congr2 {f g:Nat→Int}:∀ {m:Nat},(∀ i,i<m→f i=g i)→sumJ f m=sumJ g m
 | 0,_=>rfl
 | m+1,h=>by
  show sumJ f m+f m=sumJ g m+g m
  rw [sumJ_congr2 (m:=m) fun i hi=>h i (by omega),h m (by omega)]
theorem sumJ_swap {u v:Nat→Int} {i:Nat} (h1:u i=v (i+1)) (h2:u (i+1)=v i) (h3:∀ k,k≠i→k≠i+1→u k=v k):∀ d,sumJ u (i+2+d)=sumJ v (i+2+d)
 | 0=>by
  have:=sumJ_congr2 (f:=u) (g:=v) (m:=i) fun k hk=>h3 k (by omega) (by omega)
  show sumJ u i+u i+u (i+1)=sumJ v i+v i+v (i+1)
  omega
 | d+1=>by
  show sumJ u (i+2+d)+u (i+2+d)=sumJ v (i+2+d)+v (i+2+d)
  rw [sumJ_swap h1 h2 h3 d,h3 _ (by omega) (by omega)]
theorem swp_sum {f:Nat→Int} {h:Int→Int} {j q:Nat} (hj:j+1<q):sumJ (fun k=>h (swp f (j+1) k)) q=sumJ (fun k=>h (f k)) q:=by
 obtain ⟨d,rfl⟩:∃ d,q=j+2+d:=⟨q - (j+2),by omega⟩
 refine sumJ_swap (i:=j) ?_ ?_ (fun k h1 h2=>?_) d
 ·simp [swp]
 ·simp [swp]
 ·simp only [swp]
  rw [if_neg (by omega),if_neg h2]
theorem inF_sum {sal:Nat→Sal} {h:Int→Int} {q:Nat}:∀ {j:Nat} {f:Nat→Int},j<q→sumJ (fun k=>h (inF sal f j k)) q=sumJ (fun k=>h (f k)) q
 | 0,f,_=>rfl
 | j+1,f,hj=>by
  simp only [inF]
  split
  ·rw [inF_sum (by omega),swp_sum hj]
  ·rfl
theorem stF_sum {sal:Nat→Sal} {h:Int→Int} {q:Nat}:∀ i,i≤q→sumJ (fun k=>h (stF sal i k)) q=sumJ (fun k=>h (k:Int)) q
 | 0,_=>rfl
 | i+1,hi=>by
  simp only [stF]
  rw [inF_sum (by omega),stF_sum i (by omega)]
def bef (sal:Nat→Sal) (a b:Int):Prop:=prS sal b<prS sal a∨(prS sal b=prS sal a∧a<b)
theorem bef_trans {sal:Nat→Sal} {a b c:Int} (h:bef sal a b) (k:bef sal b c):bef sal a c:=by
 unfold bef at *
 omega
theorem inF_above {sal:Nat→Sal}:∀ {j:Nat} {f:Nat→Int} {k:Nat},j<k→inF sal f j k=f k
 | 0,f,k,_=>rfl
 | j+1,f,k,h=>by
  simp only [inF]
  split
  ·rw [inF_above (by omega)]
   simp only [swp]
   rw [if_neg (by omega),if_neg (by omega)]
  ·rfl
theorem ins {sal:Nat→Sal} {i:Nat} {x:Int}:∀ (j:Nat) (f:Nat→Int),j≤i→f j=x→(∀ k,k+1<j→bef sal (f k) (f (k+1)))→(∀ k,j<k→k+1≤i→bef sal (f k) (f (k+1)))→(1≤j→j+1≤i→bef sal (f (j - 1)) (f (j+1)))→(j+1≤i→bef sal x (f (j+1)))→(∀ k,k≤i→k≠j→f k<x)→∀ k,k+1≤i→bef sal (inF sal f j k) (inF sal f j (k+1))
 | 0,f,hj,hx,A,B,C,D,E,k,hk=>by
  simp only [inF]
  by_cases e:k=0
  ·subst e; rw [hx]; exact D hk
  ·exact B k (by omega) hk
 | j+1,f,hj,hx,A,B,C,D,E,k,hk=>by
  simp only [inF]
  split
  ·rename_i hlt
   have g0:swp f (j+1) j=x:=by simp [swp,hx]
   have g1:swp f (j+1) (j+1)=f j:=by simp [swp]
   have g2:∀ k,k≠j→k≠j+1→swp f (j+1) k=f k:=fun k h1 h2=>by simp only [swp]; rw [if_neg (by omega),if_neg h2]
   refine ins j (swp f (j+1)) (by omega) g0 (fun k hk=>?_) (fun k h1 h2=>?_) (fun h1 h2=>?_) (fun h1=>?_) (fun k h1 h2=>?_) k hk
   ·rw [g2 k (by omega) (by omega),g2 (k+1) (by omega) (by omega)]; exact A k (by omega)
   ·by_cases e:k=j+1
    ·subst e; rw [g1,g2 _ (by omega) (by omega)]; exact C (by omega) h2
    ·rw [g2 k (by omega) e,g2 (k+1) (by omega) (by omega)]; exact B k (by omega) h2
   ·rw [g1,g2 _ (by omega) (by omega)]
    have:=A (j - 1) (by omega)
    rw [show j - 1+1=j by omega] at this
    exact this
   ·rw [g1]
    rw [hx] at hlt
    exact .inl hlt
   ·by_cases e:k=j+1
    ·subst e; rw [g1]; exact E j (by omega) (by omega)
    ·rw [g2 k h2 e]; exact E k h1 e
  ·rename_i hlt
   rw [hx] at hlt
   by_cases e:k<j
   ·exact A k (by omega)
   ·by_cases e2:k=j
    ·subst e2
     rw [hx]
     have:=E k (by omega) (by omega)
     unfold ltS at hlt
     unfold bef
     omega
    ·by_cases e3:k=j+1
     ·subst e3; rw [hx]; exact D hk
     ·exact B k (by omega) hk
theorem stF_sorted (sal:Nat→Sal):∀ i,(∀ k,k+1<i→bef sal (stF sal i k) (stF sal i (k+1)))∧(∀ k,k<i→0≤stF sal i k∧stF sal i k<i)∧∀ k,i≤k→stF sal i k=k
 | 0=>⟨fun k h=>by omega,fun k h=>by omega,fun k _=>rfl⟩
 | i+1=>by
  obtain ⟨h1,h2,h3⟩:=stF_sorted sal i
  refine ⟨fun k hk=>?_,fun k hk=>?_,fun k hk=>?_⟩
  ·simp only [stF]
   refine ins (i:=i) (x:=(i:Int)) i _ (Nat.le_refl _) (h3 i (Nat.le_refl _)) h1 (fun k a b=>by omega) (fun a b=>by omega) (fun a=>by omega) (fun k a b=>?_) k (by omega)
   exact (h2 k (by omega)).2
  ·simp only [stF]
   have:=inF_bd (P:=fun x=>0≤x∧x<((i+1:Nat):Int)) (sal:=sal) (q:=i+1) (j:=i) (f:=stF sal i) (fun k hk=>by
    by_cases e:k=i
    ·subst e; rw [h3 k (Nat.le_refl _)]; omega
    ·have:=h2 k (by omega); omega) (by omega) k hk
   exact this
  ·simp only [stF]
   rw [inF_above (by omega),h3 k (by omega)]
theorem ord_bef (sal:Nat→Sal) (q:Nat) {a:Nat}:∀ {d:Nat},a+1+d<q→bef sal (stF sal q a) (stF sal q (a+1+d))
 | 0,h=>(stF_sorted sal q).1 a h
 | d+1,h=>bef_trans (ord_bef sal q (by omega:a+1+d<q)) ((stF_sorted sal q).1 (a+1+d) h)
theorem ord_lt (sal:Nat→Sal) {q a b:Nat} (h:a<b) (hb:b<q):bef sal (stF sal q a) (stF sal q b):=by
 have:=ord_bef sal q (a:=a) (d:=b - (a+1)) (by omega)
 rwa [show a+1+(b - (a+1))=b by omega] at this
theorem ord_inj (sal:Nat→Sal) {q a b:Nat} (ha:a<q) (hb:b<q) (h:stF sal q a=stF sal q b):a=b:=by
 rcases Nat.lt_trichotomy a b with e | e | e
 ·have:=ord_lt sal e hb
  rw [h] at this
  unfold bef at this
  omega
 ·exact e
 ·have:=ord_lt sal e ha
  rw [h] at this
  unfold bef at this
  omega
theorem sumJ_zero {f:Nat→Int}:∀ {m:Nat},(∀ i,i<m→f i=0)→sumJ f m=0
 | 0,_=>rfl
 | m+1,h=>by
  show sumJ f m+f m=0
  rw [sumJ_zero (m:=m) fun i hi=>h i (by omega),h m (by omega)]
  rfl
theorem sumJ_one {f:Nat→Int} {j:Nat}:∀ {m:Nat},j<m→(∀ i,i<m→i≠j→f i=0)→sumJ f m=f j
 | 0,h,_=>by omega
 | m+1,h,h2=>by
  show sumJ f m+f m=f j
  by_cases e:j=m
  ·subst e
   rw [sumJ_zero fun i hi=>h2 i (by omega) (by omega)]
   omega
  ·rw [sumJ_one (by omega:j<m) fun i hi hj=>h2 i (by omega) hj,h2 m (by omega) (by omega)]
   omega
theorem ord_sur (sal:Nat→Sal) {q j:Nat} (hj:j<q):∃ a,a<q∧stF sal q a=j:=by
 refine Classical.byContradiction fun hn=>?_
 have h:=stF_sum (sal:=sal) (h:=fun x=>if x=j then 1 else 0) q (Nat.le_refl _)
 rw [sumJ_zero (m:=q) fun i hi=>if_neg fun e=>hn ⟨i,hi,e⟩] at h
 rw [sumJ_one hj fun i hi hne=>if_neg (by omega),if_pos rfl] at h
 omega
end Go.Proofs.Ytifjghgejnkdoaa

namespace Go.Proofs.Ytifjghgejnkdoaa
open Go Go.Lg
attribute [local irreducible] bodyH funS
open Classical in
noncomputable def tkI (s:Sti) (k:Nat):Int:=if (k:Int)=s.inn then s.takes else 0
noncomputable def btF (c:Nat→Tw) (s:Sti) (n:Nat):Nat→Tw:=fun k=>⟨(c k).lo+n*((s.out k).lo - tkI s k),(c k).hi+n*((s.out k).hi - tkI s k)⟩
noncomputable def bmF (c:Nat→Tw) (s:Sti) (n k:Nat):Nat→Tw:=fun j=>if j<k then btF c s (n+1) j else ⟨(btF c s n j).lo - tkI s j,(btF c s n j).hi - tkI s j⟩
theorem rd3 (n s1 s2 s3:Nat) (t:FS) (X:XS) (k:Nat × Nat × Nat→Prop) (h:(match sget n t s1,sget n t s2,sget n t s3 with
  | .int _ a,.int _ b,.int _ c=>k (a.toNat,b.toNat,c.toNat)
  | _,_,_=>False)):∃ s,k s:=by
 split at h
 ·exact ⟨_,h⟩
 ·exact h.elim
theorem rdP (n s1 s2:Nat) (t:FS) (X:XS) (k:Nat→Prop) (h:(match sget n t s1,sget n t s2 with
  | .int _ a,.int _ b=>k (a.toNat*64+b.toNat)
  | _,_=>False)):∃ s,k s:=by
 split at h
 ·exact ⟨_,h⟩
 ·exact h.elim
noncomputable def thH (n s1 s2 s3 nr:Nat) (inv:Nat × Nat × Nat→Prop) (μ:Nat × Nat × Nat→Nat) (t:Nat × Nat × Nat→FS) (X:Nat × Nat × Nat→XS):HSpec :=
 { toLSpec:={ σ:=Nat × Nat × Nat,inv:=inv,μ:=μ,nr:=nr,ms:=fun _ _=>[],t:=t,X:=X,rd:=fun t X k=>(match sget n t s1,sget n t s2,sget n t s3 with
  | .int _ a,.int _ b,.int _ c=>k (a.toNat,b.toNat,c.toNat)
  | _,_,_=>False),rdOK:=rd3 n s1 s2 s3 },par:=some ⟨fun t _ k=>match sget n t s1,sget n t s2 with
  | .int _ a,.int _ b=>k (a.toNat*64+b.toNat)
  | _,_=>False,rdP n s1 s2⟩,kinv:=fun y s=>s.1*64+s.2.1=y }
structure lfA (Y:Yd) (p:Nat→Int) (x:Nat × Nat):Prop where
 a:x.1<Y.m
 b:(x.2:Int)≤p x.1
 c:x.2*(Y.sti x.1).takes≤((plX Y p x.1).l (Y.sti x.1).inn.toNat).lo
structure lfB (Y:Yd) (p:Nat→Int) (x:Nat × Nat × Nat):Prop where
 a:x.1<Y.m
 b:(x.2.1:Int)<p x.1
 c:(x.2.1+1)*(Y.sti x.1).takes≤((plX Y p x.1).l (Y.sti x.1).inn.toNat).lo
 d:x.2.2≤Y.g
noncomputable def reL (Y:Yd) (p:Nat→Int) (pre:List (Option SRow)) (b:Nat):Nat→Option HSpec :=
 twoL 0 (appN 119 6 (fun k=>k≤Y.g) (fun k=>Y.g - k) (b+1) (fun k=>mkF 119 [(1,iL Y.m p),(2,.ptr b 0 0),(6,.sl (b+1) 0 k),(7,i6 k)]) fun k=>mkX (pre ++ [vr 3 Y.sv,rw' 2 k fun i=>.agg [i6 (Y.st i),i6 (Y.st i)]])) <|
 twoL 2 (natH (fun i=>i≤Y.m∧canL Y p i) (fun i=>Y.m - i) (b+2) (fun i=>mkF 119 [(1,iL Y.m p),(2,.ptr b 0 0),(6,.sl (b+1) 0 Y.g),(8,i6 i)]) (fun i=>mkX (pre ++ [vr 3 Y.sv,rw' 2 Y.g fun j=>((plX Y p i).l j).sv])) fun _=>none) <|
 twoL 4 (twH 119 8 10 (b+3) (lfA Y p) (fun x=>(p x.1).toNat - x.2) (fun x=>mkF 119 [(1,iL Y.m p),(2,.ptr b 0 0),(6,.sl (b+1) 0 Y.g),(8,i6 x.1),(9,.ptr (b+2) 0 0),(10,i6 x.2)]) (fun x=>mkX (pre ++ [vr 3 Y.sv,rw' 2 Y.g fun j=>(btF (plX Y p x.1).l (Y.sti x.1) x.2 j).sv,vr 5 (Y.sti x.1).sv]))) <|
 oneL 6 (thH 119 8 10 11 (b+3) (lfB Y p) (fun x=>Y.g - x.2.2) (fun x=>mkF 119 [(1,iL Y.m p),(2,.ptr b 0 0),(6,.sl (b+1) 0 Y.g),(8,i6 x.1),(9,.ptr (b+2) 0 0),(10,i6 x.2.1),(11,i6 x.2.2)]) (fun x=>mkX (pre ++ [vr 3 Y.sv,rw' 2 Y.g fun j=>(bmF (plX Y p x.1).l (Y.sti x.1) x.2.1 x.2.2 j).sv,vr 5 (Y.sti x.1).sv])))
end Go.Proofs.Ytifjghgejnkdoaa

namespace Go.Proofs.Ytifjghgejnkdoaa
open Go Go.Lg
attribute [local irreducible] bodyH funS
structure Tx where
 i:Nat
 k:Nat
 j:Nat
 f:Nat→Int
 z:Nat
 L:Prop
def shT (Y:Yd) (p:Nat→Int) (i k:Nat):Prop:=¬ (canL Y p i∧(k:Int)*(Y.sti i).takes≤((plX Y p i).l (Y.sti i).inn.toNat).lo)
def wiB (g:Nat) (c:Nat→Tw) (f:Nat→Int):Prop:=∀ j,j<g→(c j).lo≤f j∧f j≤(c j).hi
structure iv0 (Y:Yd) (p:Nat→Int) (x:Tx):Prop where
 a:x.i≤Y.m
 b:wiB Y.g (plX Y p x.i).l x.f
 c:x.z≤48*x.i
 d:x.L→¬ canL Y p x.i
structure iv2 (Y:Yd) (p:Nat→Int) (x:Tx):Prop where
 a:x.i<Y.m
 k:(x.k:Int)≤p x.i
 b:wiB Y.g (btF (plX Y p x.i).l (Y.sti x.i) x.k) x.f
 c:x.z≤48*x.i+6*x.k
 d:x.L→shT Y p x.i x.k
structure iv4 (Y:Yd) (p:Nat→Int) (x:Tx):Prop where
 a:x.i<Y.m
 k:(x.k:Int)<p x.i
 j:x.j≤Y.g
 b:wiB Y.g (bmF (plX Y p x.i).l (Y.sti x.i) x.k x.j) x.f
 c:x.z≤48*x.i+6*x.k+x.j
 d:x.L→shT Y p x.i (x.k+1)
noncomputable def lsF (Y:Yd) (p:Nat→Int) (i j:Nat):Int:=((plX Y p Y.m).l j).lo - sumJ (fun k=>if (Y.sal k).good.toNat=j then (inS Y p).s k else 0) i
noncomputable def lhF (Y:Yd) (p:Nat→Int) (i j:Nat):Tw:=⟨lsF Y p i j,((plX Y p Y.m).l j).hi - sumJ (fun k=>if (Y.sal k).good.toNat=j then (inS Y p).s k else 0) i⟩
structure ivS (Y:Yd) (p:Nat→Int) (q:Nat) (i:Nat) (x:Nat × (Nat→Int)):Prop where
 a:x.1≤q
 b:wiB Y.g (lhF Y p i) x.2
end Go.Proofs.Ytifjghgejnkdoaa

set_option linter.unusedSectionVars false
namespace Go.Proofs.Ytifjghgejnkdoaa
open Go Go.Lg
theorem bmF_last {c:Nat→Tw} {s:Sti} {n k j:Nat} (h:j<k):bmF c s n k j=btF c s (n+1) j:=by simp [bmF,h]
theorem btF_succ (c:Nat→Tw) (s:Sti) (n j:Nat):btF c s (n+1) j=⟨(btF c s n j).lo - tkI s j+(s.out j).lo,(btF c s n j).hi - tkI s j+(s.out j).hi⟩:=by
 simp only [btF]
 have e:((n+1:Nat):Int)=n+1:=by omega
 rw [e,Int.add_mul,Int.add_mul,Int.one_mul,Int.one_mul]
 congr 1 <;> omega
theorem bmF_step (c:Nat→Tw) (s:Sti) (n k j:Nat):bmF c s n (k+1) j=if j=k then ⟨(bmF c s n k j).lo+(s.out j).lo,(bmF c s n k j).hi+(s.out j).hi⟩ else bmF c s n k j:=by
 by_cases e:j=k
 ·subst e
  rw [if_pos rfl,bmF_last (by omega),btF_succ]
  simp [bmF]
 ·rw [if_neg e]
  by_cases h:j<k
  ·rw [bmF_last h,bmF_last (by omega)]
  ·simp only [bmF]
   rw [if_neg h,if_neg (by omega)]
section
variable {Y:Yd} (h:okYd Y) {p:Nat→Int} (hp:okPl Y.m Y.sti Y.m p)
include h hp
theorem pl_succ {i j:Nat} (hi:i<Y.m) (hj:j<Y.g):btF (plX Y p i).l (Y.sti i) (p i).toNat j=(plX Y p (i+1)).l j:=by
 have s:=(h.s.b i hi).2
 have b:=hp.h i hi
 unfold okNb at b
 have on:j<(Y.sti i).on:=by have:=s.n; omega
 have e:(((p i).toNat:Nat):Int)=p i:=by omega
 show _=(⟨0+((plX Y p i).l j).lo+(tkG (Y.sti i) (p i) j).lo+(mdG (Y.sti i) (p i) (Y.sti i).on j).lo,0+((plX Y p i).l j).hi+(tkG (Y.sti i) (p i) j).hi+(mdG (Y.sti i) (p i) (Y.sti i).on j).hi⟩:Tw)
 simp only [btF,tkI,tkG,mdG,if_pos on,e]
 split
 ·simp only [Int.mul_sub,Int.zero_sub,Int.neg_mul]
  congr 1 <;> omega
 ·simp only [Int.sub_zero]
  congr 1 <;> omega
theorem pl_nn:∀ k,k≤Y.m→canL Y p k→∀ i,i<6→0≤((plX Y p k).l i).lo
 | 0,_,_,i,hi=>by
  show 0≤(if i<Y.g then (⟨Y.st i,Y.st i⟩:Tw) else ⟨0,0⟩).lo
  split
  ·rename_i hg; exact (h.g.c i hg).1
  ·exact Int.le_refl 0
 | k+1,hk,hc,i,hi=>by
  have h1:=pl_nn k (by omega) (fun i hi=>hc i (by omega)) i hi
  have c:=hc k (by omega)
  have s:=(h.s.b k (by omega)).2
  have b:=hp.h k (by omega)
  unfold okNb at b
  unfold canP at c
  show 0≤(0+((plX Y p k).l i).lo+(tkG (Y.sti k) (p k) i).lo)+(mdG (Y.sti k) (p k) (Y.sti k).on i).lo
  have hm:0≤(mdG (Y.sti k) (p k) (Y.sti k).on i).lo:=by
   unfold mdG
   split
   ·rename_i hl
    exact Int.mul_nonneg b.1 (s.o i hl).2.1
   ·exact Int.le_refl 0
  unfold tkG
  split
  ·rename_i e
   have e':(Y.sti k).inn.toNat=i:=by omega
   rw [e'] at c
   simp only [Int.zero_sub,Int.neg_mul]
   omega
  ·simp only
   omega
theorem canL_succ {i:Nat}:canL Y p (i+1)↔canL Y p i∧canP (plX Y p i) (Y.sti i) (p i) :=
 ⟨fun hh=>⟨fun k hk=>hh k (by omega),hh i (by omega)⟩,fun ⟨a,b⟩ k hk=>by
  by_cases e:k=i
  ·subst e; exact b
  ·exact a k (by omega)⟩
theorem bt_inn {i k:Nat} (hi:i<Y.m):(btF (plX Y p i).l (Y.sti i) k (Y.sti i).inn.toNat).lo=((plX Y p i).l (Y.sti i).inn.toNat).lo - k*(Y.sti i).takes:=by
 have s:=(h.s.b i hi).2
 have i0:=s.i0
 have i1:=s.i1
 have n:=s.n
 have o:=(s.o (Y.sti i).inn.toNat (by omega)).1 (by omega)
 simp only [btF,tkI]
 rw [if_pos (by omega),o.1,Int.zero_sub,Int.mul_neg]
 omega
theorem bt_bd {i k j:Nat} (hi:i<Y.m) (hk:k≤9) (hj:j<Y.g):(-600000000≤(btF (plX Y p i).l (Y.sti i) k j).lo∧(btF (plX Y p i).l (Y.sti i) k j).lo≤600000000)∧(-600000000≤(btF (plX Y p i).l (Y.sti i) k j).hi∧(btF (plX Y p i).l (Y.sti i) k j).hi≤600000000):=by
 have b:=(pl_bd h hp i (by omega)).1 j (by have:=h.g.b; omega)
 have m4:=h.s.a
 have s:=(h.s.b i hi).2
 have o:=(s.o j (by have:=s.n; omega)).2
 obtain ⟨o1,o2,o3⟩:=o
 have t0:=s.t0
 have t1:=s.t1
 have tk:0≤tkI (Y.sti i) j∧tkI (Y.sti i) j≤1048576:=by unfold tkI; split <;> omega
 simp only [btF]
 generalize tkI (Y.sti i) j=w at *
 have:k=0∨k=1∨k=2∨k=3∨k=4∨k=5∨k=6∨k=7∨k=8∨k=9:=by omega
 rcases this with rfl | rfl | rfl | rfl | rfl | rfl | rfl | rfl | rfl | rfl <;> refine ⟨⟨?_,?_⟩,?_,?_⟩ <;> omega
end
section
variable {sal:Nat→Sal} {o:Nat→Int} {L:Nat→Tw} {q:Nat} (ho:okOr q sal o)
include ho
end
section
variable {Y:Yd} (h:okYd Y) {p:Nat→Int} (hp:okPl Y.m Y.sti Y.m p) (hc:canL Y p Y.m)
include h hp hc
noncomputable def sS (Y:Yd) (p:Nat→Int) (k:Nat):Ss:=seS Y.sal (stF Y.sal Y.q) (plX Y p Y.m).l k
theorem sS_nn {k g:Nat} (hk:k≤Y.q) (hg:g<6):0≤((sS Y p k).l g).lo:=(se_nonneg (or_of h) (fun i hi=>pl_nn h hp Y.m (Nat.le_refl _) hc i hi) k hk).1 g hg
theorem gd_lt {i:Nat} (hi:i<Y.q):(Y.sal i).good.toNat<Y.g:=by
 have s:=h.l.b i hi
 have:=s.g0
 have:=s.g1
 have:=h.g.a
 omega
theorem ssA_bd {i k:Nat} (hi:i<Y.q) (hk:k≤Y.q):0≤ssA Y.sal (sS Y p k) i∧ssA Y.sal (sS Y p k) i≤(Y.sal i).most∧ssA Y.sal (sS Y p k) i≤((sS Y p k).l (Y.sal i).good.toNat).lo:=by
 have s:=h.l.b i hi
 have m0:=s.m0
 have:=sS_nn h hp hc hk (g:=(Y.sal i).good.toNat) (by have:=gd_lt h hp hc hi; have:=h.g.b; omega)
 unfold ssA
 simp only [Int.toNat_natCast]
 omega
end
end Go.Proofs.Ytifjghgejnkdoaa

namespace Go.Proofs.Ytifjghgejnkdoaa
open Go Go.Lg
attribute [local irreducible] bodyH funS
def eqN (n:Nat) (f:Nat→Int) (m:Nat) (g:Nat→Int):Prop:=n=m∧∀ i,i<n→f i=g i
def eqTw (n:Nat) (f:Nat→Tw) (m:Nat) (g:Nat→Tw):Prop:=n=m∧∀ i,i<n→(f i).lo=(g i).lo∧(f i).hi=(g i).hi
noncomputable def isG (n:Nat) (f:Nat→Int) (m:Nat) (g:Nat→Int):Prop:=funH Try.prog (ctrs []) noX (ictrs []) (oneL 0 (natH (fun k=>k≤n∧n=m∧∀ i,i<k→f i=g i) (fun k=>n - k) 0 (fun k=>mkF 26 [(0,iL n f),(1,iL m g),(5,i6 k)]) (fun _=>mkX []) fun _=>none)) noL 13 [iL n f,iL m g] (.dec (eqN n f m g) (Classical.propDecidable _))
noncomputable def isC:Ctr:=⟨13,fun args k=>match args with
 | [.lst 1 n f,.lst 1 m g]=>SV.lst 1 n f=iL n (iOf f)∧SV.lst 1 m g=iL m (iOf g)∧n≤1000∧k (.dec (eqN n (iOf f) m (iOf g)) (Classical.propDecidable _))
 | _=>False⟩
noncomputable def ssqG (n:Nat) (f:Nat→Tw) (m:Nat) (g:Nat→Tw):Prop:=funH Try.prog (ctrs []) noX (ictrs []) (oneL 0 (natH (fun k=>k≤n∧n=m∧∀ i,i<k→(f i).lo=(g i).lo∧(f i).hi=(g i).hi) (fun k=>n - k) 0 (fun k=>mkF 26 [(0,twL n f),(1,twL m g),(5,i6 k)]) (fun _=>mkX []) fun _=>none)) noL 20 [twL n f,twL m g] (.dec (eqTw n f m g) (Classical.propDecidable _))
noncomputable def ssqC:Ctr:=⟨20,fun args k=>match args with
 | [.lst 2 n f,.lst 2 m g]=>SV.lst 2 n f=twL n (ftOf f)∧SV.lst 2 m g=twL m (ftOf g)∧n≤1000∧k (.dec (eqTw n (ftOf f) m (ftOf g)) (Classical.propDecidable _))
 | _=>False⟩
noncomputable def rcG (W:Wl):Prop:=funN Try.prog (ctrs [rwC]) noX (ictrs [])
 (twoL 0 (natH (fun k=>k≤W.n∧W.n≤32∧∀ i,i<k→okW (W.f i)) (fun k=>W.n - k) 1 (fun k=>mkF 78 [(0,W.sv),(3,.ptr 0 0 0),(5,i6 k)]) (fun _=>mkX [vr 2 (Tw.sv ⟨0,0⟩)]) fun _=>none) <|
 oneL 2 (appN 78 6 (fun k=>k≤W.n) (fun k=>W.n - k) 2 (fun k=>mkF 78 [(0,W.sv),(3,.ptr 0 0 0),(6,.sl 2 0 k),(7,.ptr 1 0 0),(8,i6 k)]) fun k=>mkX [vr 2 (Tw.sv ⟨0,0⟩),vr 2 (smJ (ldL W) k).sv,rw' 2 k fun i=>(ldL W i).sv])) noL 19 [W.sv] (caR W)
noncomputable def rcC:Ctr:=⟨19,caC.c⟩
noncomputable def lrL (Y:Yd) (n:Nat) (p:Nat→Int) (pre:List (Option SRow)) (b:Nat):Nat→Option HSpec :=
 oneL 0 (natH (fun k=>k≤n∧n=Y.m∧∀ i,i<k→okNb (Y.sti i).most (p i)) (fun k=>n - k) (b+1) (fun k=>mkF 45 [(1,iL n p),(2,.ptr b 0 0),(6,i6 k)]) (fun _=>mkX (pre ++ [vr 3 Y.sv])) fun _=>none)
noncomputable def lrX (Y:Yd) (p:Nat→Int) (pre:List (Option SRow)) (b:Nat):CX:=inl Try.prog (ctrs []) none (ictrs []) 34 (reL Y p pre b) noL noX
noncomputable def lrG (Y:Yd) (n:Nat) (p:Nat→Int):Prop:=funN Try.prog (ctrs [ydC 21,frC 33]) (lrX Y p [vr 3 Y.sv] 1) (ictrs []) (lrL Y n p [] 0) noL 15 [Y.sv,iL n p] (lfR Y n p)
noncomputable def lrC:Ctr:=⟨15,lfC.c⟩
end Go.Proofs.Ytifjghgejnkdoaa

set_option maxRecDepth 100000
namespace Go.Proofs.Ytifjghgejnkdoaa
open Go Go.Lg
theorem isG_vc (n:Nat) (f:Nat→Int) (m:Nat) (g:Nat→Int):isG n f m g =
((¬(↑n:Int)=(↑m:Int)→(false=true↔eqN n f m g)∧True)∧(¬¬(↑n:Int)=(↑m:Int)→(∃ (z:Nat),(z≤n∧n=m∧∀ (i:Nat),i<z→f i=g i)∧n=n∧(∀ (i:Nat),i<n→rE ((i6 (f i)).den)∧True)∧m=m∧(∀ (i:Nat),i<m→rE ((i6 (g i)).den)∧True)∧(0:Int)=(↑z:Int)∧True)∧∀ (z:Nat),(z≤n∧n=m∧∀ (i:Nat),i<z→f i=g i)→((↑z:Int)<(↑n:Int)→(0:Int)≤(↑z:Int)∧(↑z:Int)<(↑n:Int)∧(0:Int)≤(↑z:Int)∧(↑z:Int)<(↑m:Int)∧(¬f (↑z:Int).toNat=g (↑z:Int).toNat→(false=true↔eqN n f m g)∧True)∧(¬¬f (↑z:Int).toNat=g (↑z:Int).toNat→rI ((↑z:Int)+(1:Int))∧∃ (z_1:Nat),(z_1≤n∧n=m∧∀ (i:Nat),i<z_1→f i=g i)∧n - z_1<n - z∧n=n∧(∀ (i:Nat),i<n→rE ((i6 (f i)).den)∧True)∧m=m∧(∀ (i:Nat),i<m→rE ((i6 (g i)).den)∧True)∧(↑z:Int)+(1:Int) =
(↑z_1:Int)∧True))∧(¬(↑z:Int)<(↑n:Int)→(rE true↔eqN n f m g)∧True))):=by kernel_rfl
theorem ssqG_vc (n:Nat) (f:Nat→Tw) (m:Nat) (g:Nat→Tw):ssqG n f m g =
((¬(↑n:Int)=(↑m:Int)→(false=true↔eqTw n f m g)∧True)∧(¬¬(↑n:Int)=(↑m:Int)→(∃ (z:Nat),(z≤n∧n=m∧∀ (i:Nat),i<z→(f i).1=(g i).1∧(f i).2=(g i).2)∧n=n∧(∀ (i:Nat),i<n→rE ((f i).sv.den)∧True∧True∧True)∧m=m∧(∀ (i:Nat),i<m→rE ((g i).sv.den)∧True∧True∧True)∧(0:Int)=(↑z:Int)∧True)∧∀ (z:Nat),(z≤n∧n=m∧∀ (i:Nat),i<z→(f i).1=(g i).1∧(f i).2=(g i).2)→((↑z:Int)<(↑n:Int)→(0:Int)≤(↑z:Int)∧(↑z:Int)<(↑n:Int)∧(0:Int)≤(↑z:Int)∧(↑z:Int)<(↑m:Int)∧(¬((f (↑z:Int).toNat).1=(g (↑z:Int).toNat).1∧(f (↑z:Int).toNat).2=(g (↑z:Int).toNat).2)→(false=true↔eqTw n f m g)∧True)∧(¬¬((f (↑z:Int).toNat).1=(g (↑z:Int).toNat).1∧(f (↑z:Int).toNat).2=(g (↑z:Int).toNat).2)→rI ((↑z:Int)+(1:Int))∧∃ (z_1:Nat),(z_1≤n∧n=m
∧ ∀ (i:Nat),i<z_1→(f i).1=(g i).1∧(f i).2=(g i).2)∧n - z_1<n - z∧n=n∧(∀ (i:Nat),i<n→rE ((f i).sv.den)∧True∧True∧True)∧m=m∧(∀ (i:Nat),i<m→rE ((g i).sv.den)∧True∧True∧True)∧(↑z:Int)+(1:Int)=(↑z_1:Int)∧True))∧(¬(↑z:Int)<(↑n:Int)→(rE true↔eqTw n f m g)∧True))):=by kernel_rfl
theorem rcG_vc (W:Wl):rcG W =
(((32:Int)<(↑W.1:Int)→(0:Nat)<(1:Nat)∧(0:Nat)=caN W∧(0:Int)=(caA W).1∧(0:Int)=(caA W).2∧(3:Int)=erC W∧True)∧(¬(32:Int)<(↑W.1:Int)→(∃ (z:Nat),(z≤W.1∧W.1≤(32:Nat)∧∀ (i_1:Nat),i_1<z→okW (W.f i_1))∧W.1=W.1∧(∀ (i:Nat),i<W.1→rE ((W.f i).sv.den)∧True∧True∧True∧True∧True)∧rE (0:Nat)∧rE (0:Nat)∧(0:Int)=(↑z:Int)∧rE (0:Int)∧rE (0:Int)∧True)∧∀ (z:Nat),(z≤W.1∧W.1≤(32:Nat)∧∀ (i_1:Nat),i_1<z→okW (W.f i_1))→((↑z:Int)<(↑W.1:Int)→(0:Int)≤(↑z:Int)∧(↑z:Int)<(↑W.1:Int)∧(¬okW (Wg.mk (W.f (↑z:Int).toNat).elo (W.f (↑z:Int).toNat).ehi (W.f (↑z:Int).toNat).flo (W.f (↑z:Int).toNat).fhi)→(0:Nat)<(1:Nat)∧(0:Nat)=caN W∧(0:Int)=(caA W).1∧(0:Int)=(caA W).2∧(1:Int)=erC W∧True)∧(¬¬okW (Wg.mk (W.f (↑z:Int).toNat).elo (W.f (↑z:Int).toNat).ehi (W.f (↑z:Int).toNat).flo (W.f (↑z:Int).toNat).fhi)→rI ((↑z:Int)+(1:Int))∧∃ (z_1:Nat),(z_1≤W.1∧W.1≤(32:Nat)∧∀ (i_2:Nat),i_2<z_1→okW (W.f i_2))∧W.1 - z_1<W.1 - z∧W.1=W.1∧(∀ (i:Nat),i<W.1→rE ((W.f i).sv.den)∧True∧True∧True∧True∧True)∧rE (0:Nat)∧rE (0:Nat)∧(↑z:Int)+(1:Int)=(↑z_1:Int)∧rE (0:Int)∧rE (0:Int)∧True))∧(¬(↑z:Int)<(↑W.1:Int)→(∃ (z:Nat),z≤W.1∧W.1=W.1∧(∀ (i:Nat),i<W.1→rE ((W.f i).sv.den)∧True∧True∧True∧True∧True)∧rE (0:Nat)∧rE (0:Nat)∧rE (0:Nat)∧(0:Nat)=z∧rE (0:Nat)∧rE (0:Nat)∧(0:Int)=(↑z:Int)∧rE (0:Int)∧rE (0:Int)∧(0:Int)=sumJ (fun i=>(ldL W i).lo) z∧(0:Int)=sumJ (fun i=>(ldL W i).hi) z∧z=(0:Nat)∧True)∧∀ (z:Nat),z≤W.1→((↑z:Int)<(↑W.1:Int)→(0:Int)≤(↑z:Int)∧(↑z:Int)<(↑W.1:Int)∧(0:Int)≤(↑z:Int)∧(↑z:Int)<(↑W.1:Int)∧rI ((W.f (↑z:Int).toNat).3 - (W.f (↑z:Int).toNat).2)∧(0:Int)≤(↑z:Int)∧(↑z:Int)<(↑W.1:Int)∧(0:Int)≤(↑z:Int)∧(↑z:Int)<(↑W.1:Int)∧rI ((W.f (↑z:Int).toNat).4 - (W.f (↑z:Int).toNat).1)∧(0:Nat)<(1:Nat)∧True∧(∀ (i:Nat),i<(1:Nat)→rE true)∧rE (0:Nat)∧z=z∧(∀ (i:Nat),rE true)∧(z+(1:Nat))*(16:Nat)≤(140737488355328:Nat)∧z+(1:Nat)≤(4611686018427387904:Nat)∧(0:Nat)<(1:Nat)∧(0:Nat)<(1:Nat)∧rI (sumJ (fun i=>(ldL W i).lo) z+max (0:Int) ((W.f (↑z:Int).toNat).3 - (W.f (↑z:Int).toNat).2))∧(0:Nat)<(1:Nat)∧(0:Nat)<(1:Nat)∧rI (sumJ (fun i=>(ldL W i).hi) z+((W.f (↑z:Int).toNat).4 - (W.f (↑z:Int).toNat).1))∧rI ((↑z:Int)+(1:Int))∧∃ (z_1:Nat),z_1≤W.1∧W.1 - z_1<W.1 - z∧W.1=W.1∧(∀ (i:Nat),i<W.1→rE ((W.f i).sv.den)∧True∧True∧True∧True∧True)∧rE (0:Nat)∧rE (0:Nat)∧rE (0:Nat)∧z+(1:Nat)=z_1∧rE (0:Nat)∧rE (0:Nat)∧(↑z:Int)+(1:Int)=(↑z_1:Int)∧rE (0:Int)∧rE (0:Int)∧sumJ (fun i=>(ldL W i).lo) z+max (0:Int) ((W.f (↑z:Int).toNat).3 - (W.f (↑z:Int).toNat).2)=sumJ (fun i=>(ldL W i).lo) z_1∧sumJ (fun i=>(ldL W i).hi) z+((W.f (↑z:Int).toNat).4 - (W.f (↑z:Int).toNat).1)=sumJ (fun i=>(ldL W i).hi) z_1∧z_1=z+(1:Nat)∧(∀ (i_2:Nat),i_2<z_1→rE (2:Nat)∧(if i_2<z then max (0:Int) ((W.f i_2).3 - (W.f i_2).2) else max (0:Int) ((W.f (↑z:Int).toNat).3 - (W.f (↑z:Int).toNat).2))=max (0:Int) ((W.f i_2).3 - (W.f i_2).2)∧(if i_2<z then (W.f i_2).4 - (W.f i_2).1 else (W.f (↑z:Int).toNat).4 - (W.f (↑z:Int).toNat).1)=(W.f i_2).4 - (W.f i_2).1∧True)∧True)∧(¬(↑z:Int)<(↑W.1:Int)→(0:Nat)<(1:Nat)∧(0:Nat)<(1:Nat)∧z=caN W∧(0:Nat)+caN W≤z∧(∀ (i:Nat),i<caN W→rE (2:Nat)∧rE (2:Nat)∧max (0:Int) ((W.f (i+(0:Nat))).3 - (W.f (i+(0:Nat))).2)=max (0:Int) ((W.f i).3 - (W.f i).2)∧(W.f (i+(0:Nat))).4 - (W.f (i+(0:Nat))).1=(W.f i).4 - (W.f i).1∧True)∧sumJ (fun i=>(ldL W i).lo) z=(caA W).1∧sumJ (fun i=>(ldL W i).hi) z=(caA W).2∧(0:Int)=erC W∧True)))):=by kernel_rfl
def lrG0 (Y:Yd):Prop:=(∀ (i:Nat),i<Y.3→rE ((Y.sti i).sv.den)∧True∧True∧(∀ (i_1:Nat),i_1<(Y.sti i).3→True∧True∧True)∧True∧True∧True)
def lrG1 (Y:Yd):Prop:=(∀ (i:Nat),i<Y.5→rE ((Y.sal i).sv.den)∧True∧True∧True∧True)
theorem lrG_vc (Y:Yd) (n:Nat) (p:Nat→Int):lrG Y n p =
((0:Nat)<(1:Nat)∧(∀ (i:Nat),i<Y.1→True)∧(∀ (i:Nat),i<Y.3→True∧True∧(∀ (i_1:Nat),i_1<(Y.sti i).3→True∧True∧True)∧True∧True∧True)∧(∀ (i:Nat),i<Y.5→True∧True∧True∧True)∧SV.agg [SV.lst (1:Nat) Y.g fun i=>i6 (Y.st i),SV.lst (5:Nat) Y.m fun i=>(Y.sti i).sv,SV.lst (3:Nat) Y.q fun i=>(Y.sal i).sv]=(ydOf Y.g (fun i=>i6 (Y.st i)) Y.m (fun i=>(Y.sti i).sv) Y.q fun i=>(Y.sal i).sv).sv∧(¬okYd (ydOf Y.g (fun i=>i6 (Y.st i)) Y.m (fun i=>(Y.sti i).sv) Y.q fun i=>(Y.sal i).sv)→(0:Nat)=lfN Y n p∧(1:Int)=erP Y n p∧True)∧(¬¬okYd (ydOf Y.g (fun i=>i6 (Y.st i)) Y.m (fun i=>(Y.sti i).sv) Y.q fun i=>(Y.sal i).sv)→(0:Nat)<(1:Nat)∧(¬(↑n:Int)=(↑Y.3:Int)→(0:Nat)=lfN Y n p∧(2:Int)=erP Y n p∧True)∧(¬¬(↑n:Int)=(↑Y.3:Int)→(∃ (z:Nat),(z≤n∧n=Y.3∧∀ (i_1 :
Nat),i_1<z→okNb (Y.sti i_1).most (p i_1))∧n=n∧(∀ (i:Nat),i<n→rE ((i6 (p i)).den)∧True)∧rE (0:Nat)∧rE (0:Nat)∧(0:Int)=(↑z:Int)∧Y.1=Y.1∧(∀ (i:Nat),i<Y.1→rE ((i6 (Y.st i)).den)∧True)∧Y.3=Y.3∧(lrG0 Y)∧Y.5=Y.5∧(lrG1 Y)∧True)∧∀ (z:Nat),(z≤n∧n=Y.3∧∀ (i_1:Nat),i_1<z→okNb (Y.sti i_1).most (p i_1))→((↑z:Int)<(↑n:Int)→(0:Int)≤(↑z:Int)∧(↑z:Int)<(↑n:Int)∧(0:Nat)<(1:Nat)∧(0:Int)≤(↑z:Int)∧(↑z:Int)<(↑Y.3:Int)∧(¬((0:Int)≤p (↑z:Int).toNat∧p (↑z:Int).toNat≤(Y.sti (↑z:Int).toNat).6)→(0:Nat)=lfN Y n p∧(2:Int)=erP Y n p∧True)∧(¬¬((0:Int)≤p (↑z:Int).toNat∧p (↑z:Int).toNat≤(Y.sti (↑z:Int).toNat).6)→rI ((↑z:Int)+(1:Int))∧∃ (z_1:Nat),(z_1≤n∧n=Y.3∧∀ (i_2:Nat),i_2<z_1→okNb (Y.sti i_2).most (p i_2))∧n - z_1 <
n - z∧n=n∧(∀ (i:Nat),i<n→rE ((i6 (p i)).den)∧True)∧rE (0:Nat)∧rE (0:Nat)∧(↑z:Int)+(1:Int)=(↑z_1:Int)∧Y.1=Y.1∧(∀ (i:Nat),i<Y.1→rE ((i6 (Y.st i)).den)∧True)∧Y.3=Y.3∧(lrG0 Y)∧Y.5=Y.5∧(lrG1 Y)∧True))∧(¬(↑z:Int)<(↑n:Int)→(0:Nat)<(1:Nat)∧(∃ (z:Nat),z≤Y.1∧n=Y.3∧(∀ (i:Nat),i<Y.3→rE ((i6 (p i)).den)∧True)∧rE (0:Nat)∧rE (0:Nat)∧rE (0:Nat)∧(0:Nat)=z∧(0:Int)=(↑z:Int)∧Y.1=Y.1∧(∀ (i:Nat),i<Y.1→rE ((i6 (Y.st i)).den)∧True)∧Y.3=Y.3∧(lrG0 Y)∧Y.5=Y.5∧(lrG1 Y)∧Y.1=Y.1∧(∀ (i:Nat),i<Y.1→rE ((i6 (Y.st i)).den)∧True)∧Y.3=Y.3∧(lrG0 Y)∧Y.5=Y.5∧(lrG1 Y)∧z=(0:Nat)∧True)∧∀ (z:Nat),z≤Y.1→(0:Nat)<(1:Nat)∧((↑z:Int)<(↑Y.1:Int)→(0:Nat)<(1:Nat)∧(0:Int)≤(↑z:Int)∧(↑z:Int)<(↑Y.1:Int)∧(0 :
Nat)<(1:Nat)∧(0:Int)≤(↑z:Int)∧(↑z:Int)<(↑Y.1:Int)∧True∧(∀ (i:Nat),i<(1:Nat)→rE true)∧rE (0:Nat)∧z=z∧(∀ (i:Nat),rE true)∧(z+(1:Nat))*(16:Nat)≤(140737488355328:Nat)∧z+(1:Nat)≤(4611686018427387904:Nat)∧rI ((↑z:Int)+(1:Int))∧∃ (z_1:Nat),z_1≤Y.1∧Y.1 - z_1<Y.1 - z∧Y.3=Y.3∧(∀ (i:Nat),i<Y.3→rE ((i6 (p i)).den)∧True)∧rE (0:Nat)∧rE (0:Nat)∧rE (0:Nat)∧z+(1:Nat)=z_1∧(↑z:Int)+(1:Int)=(↑z_1:Int)∧Y.1=Y.1∧(∀ (i:Nat),i<Y.1→rE ((i6 (Y.st i)).den)∧True)∧Y.3=Y.3∧(lrG0 Y)∧Y.5=Y.5∧(lrG1 Y)∧Y.1=Y.1∧(∀ (i:Nat),i<Y.1→rE ((i6 (Y.st i)).den)∧True)∧Y.3=Y.3∧(lrG0 Y)∧Y.5=Y.5∧(lrG1 Y)∧z_1=z+(1:Nat)∧(∀ (i_2:Nat),i_2<z_1→rE (2:Nat)∧(if i_2<z then Y.2 i_2 else Y.2 (↑z:Int).toNat)=Y.2 i_2∧(if i_2<z then
Y.2 i_2 else Y.2 (↑z:Int).toNat)=Y.2 i_2∧True)∧True)∧(¬(↑z:Int)<(↑Y.1:Int)→(∃ (z_1:Nat),(z_1≤Y.3∧canL Y p z_1)∧Y.3=Y.3∧(∀ (i:Nat),i<Y.3→rE ((i6 (p i)).den)∧True)∧rE (0:Nat)∧rE (0:Nat)∧rE (0:Nat)∧z=Y.1∧(0:Int)=(↑z_1:Int)∧Y.1=Y.1∧(∀ (i:Nat),i<Y.1→rE ((i6 (Y.st i)).den)∧True)∧Y.3=Y.3∧(lrG0 Y)∧Y.5=Y.5∧(lrG1 Y)∧Y.1=Y.1∧(∀ (i:Nat),i<Y.1→rE ((i6 (Y.st i)).den)∧True)∧Y.3=Y.3∧(lrG0 Y)∧Y.5=Y.5∧(lrG1 Y)∧Y.1=z∧(∀ (i_2:Nat),i_2<Y.1→rE (2:Nat)∧Y.2 i_2=((plX Y p z_1).l i_2).1∧Y.2 i_2=((plX Y p z_1).l i_2).2∧True)∧True)∧∀ (z:Nat),z≤Y.3∧canL Y p z→((↑z:Int)<(↑Y.3:Int)→(0:Nat)<(1:Nat)∧(0:Int)≤(↑z:Int)∧(↑z:Int)<(↑Y.3:Int)∧((lfA Y p ((↑z:Int).toNat,Int.toNat (0:Int))∧z=(↑z:Int).toNat)∧Y.3=Y.3∧(∀ (i :
Nat),i<Y.3→rE ((i6 (p i)).den)∧True)∧rE (0:Nat)∧rE (0:Nat)∧rE (0:Nat)∧Y.1=Y.1∧rE (↑z:Int)∧rE (0:Nat)∧rE (0:Nat)∧(0:Int)=(↑(0:Nat):Int)∧Y.1=Y.1∧(∀ (i:Nat),i<Y.1→rE ((i6 (Y.st i)).den)∧True)∧Y.3=Y.3∧(lrG0 Y)∧Y.5=Y.5∧(lrG1 Y)∧Y.1=Y.1∧(∀ (i:Nat),i<Y.1→rE ((i6 (Y.st i)).den)∧True)∧Y.3=Y.3∧(lrG0 Y)∧Y.5=Y.5∧(lrG1 Y)∧Y.1=Y.1∧(∀ (i_1:Nat),i_1<Y.1→rE (2:Nat)∧((plX Y p z).l i_1).1=((plX Y p (↑z:Int).toNat).l i_1).1+(↑(0:Nat):Int)*(((Y.sti (↑z:Int).toNat).out i_1).1 - tkI (Y.sti (↑z:Int).toNat) i_1)∧((plX Y p z).l i_1).2=((plX Y p (↑z:Int).toNat).l i_1).2+(↑(0:Nat):Int)*(((Y.sti (↑z:Int).toNat).out i_1).2 - tkI (Y.sti (↑z:Int).toNat) i_1)∧True)∧rE ((Y.sti (↑z:Int).toNat).1)∧rE ((Y.sti (↑z:Int).toNat).2)∧rE ((Y.sti (↑z:Int).toNat).3)∧(∀
(i_1:Nat),i_1<(Y.sti (↑z:Int).toNat).3→rE (((Y.sti (↑z:Int).toNat).out i_1).sv.den)∧True∧True∧True)∧rE ((Y.sti (↑z:Int).toNat).5)∧rE ((Y.sti (↑z:Int).toNat).6)∧True)∧∀ (zp1_1:Nat × Nat),lfA Y p zp1_1∧zp1_1.1=(↑z:Int).toNat→(0:Int)≤(↑zp1_1.1:Int)∧(↑zp1_1.1:Int)<(↑Y.3:Int)∧((↑zp1_1.2:Int)<p (↑zp1_1.1:Int).toNat→(0:Nat)<(1:Nat)∧(0:Int)≤(Y.sti zp1_1.fst).1∧(Y.sti zp1_1.fst).1<(↑Y.1:Int)∧(0:Nat)+(Y.sti zp1_1.fst).1.toNat<Y.1∧(0:Nat)<(1:Nat)∧(((plX Y p zp1_1.fst).l ((0:Nat)+(Y.sti zp1_1.fst).inn.toNat)).1+(↑zp1_1.2:Int)*(((Y.sti zp1_1.fst).out ((0:Nat)+(Y.sti zp1_1.fst).inn.toNat)).1 - tkI (Y.sti zp1_1.fst) ((0:Nat)+(Y.sti zp1_1.fst).1.toNat))<(Y.sti zp1_1.fst).2→(0:Nat)=lfN Y n p∧(10:Int)=erP Y n p∧True)∧(¬((plX Y p zp1_1.fst).l ((0:Nat)+(Y.sti
zp1_1.fst).inn.toNat)).1+(↑zp1_1.2:Int)*(((Y.sti zp1_1.fst).out ((0:Nat)+(Y.sti zp1_1.fst).inn.toNat)).1 - tkI (Y.sti zp1_1.fst) ((0:Nat)+(Y.sti zp1_1.fst).1.toNat))<(Y.sti zp1_1.fst).2→(0:Nat)<(1:Nat)∧(0:Nat)<(1:Nat)∧(0:Int)≤(Y.sti zp1_1.fst).1∧(Y.sti zp1_1.fst).1<(↑Y.1:Int)∧(0:Nat)+(Y.sti zp1_1.fst).1.toNat<Y.1∧(0:Nat)<(1:Nat)∧rI (((plX Y p zp1_1.fst).l ((0:Nat)+(Y.sti zp1_1.fst).inn.toNat)).1+(↑zp1_1.2:Int)*(((Y.sti zp1_1.fst).out ((0:Nat)+(Y.sti zp1_1.fst).inn.toNat)).1 - tkI (Y.sti zp1_1.fst) ((0:Nat)+(Y.sti zp1_1.fst).1.toNat)) - (Y.sti zp1_1.fst).2)∧(0:Nat)<(1:Nat)∧(0:Int)≤(Y.sti zp1_1.fst).1∧(Y.sti zp1_1.fst).1<(↑Y.1:Int)∧(0:Nat)+(Y.sti zp1_1.fst).1.toNat<Y.1∧(0:Nat)<(1:Nat)∧rI (((plX Y p zp1_1.fst).l ((0:Nat)+(Y.sti zp1_1.fst).inn.toNat)).2+(↑zp1_1.2 :
Int)*(((Y.sti zp1_1.fst).out ((0:Nat)+(Y.sti zp1_1.fst).inn.toNat)).2 - tkI (Y.sti zp1_1.fst) ((0:Nat)+(Y.sti zp1_1.fst).1.toNat)) - (Y.sti zp1_1.fst).2)∧(0:Int)≤(Y.sti zp1_1.fst).1∧(Y.sti zp1_1.fst).1<(↑Y.1:Int)∧(0:Nat)+(2:Nat)≤(2:Nat)∧(0:Nat)+(Y.sti zp1_1.fst).1.toNat<Y.1∧(∀ (i':Nat),rE true)∧((lfB Y p ((↑zp1_1.fst:Int).toNat,(↑zp1_1.snd:Int).toNat,Int.toNat (0:Int))∧rE ((↑zp1_1.1:Int).toNat*(64:Nat)+(↑zp1_1.2:Int).toNat))∧Y.3=Y.3∧(∀ (i:Nat),i<Y.3→rE ((i6 (p i)).den)∧True)∧rE (0:Nat)∧rE (0:Nat)∧rE (0:Nat)∧Y.1=Y.1∧(↑zp1_1.1:Int)=(↑(↑zp1_1.1:Int).toNat:Int)∧rE (0:Nat)∧rE (0:Nat)∧(↑zp1_1.2:Int)=(↑(↑zp1_1.2:Int).toNat:Int)∧(0:Int)=(↑(0:Nat):Int)∧Y.1=Y.1∧(∀ (i:Nat),i<Y.1→rE ((i6 (Y.st i)).den)∧True)∧Y.3=Y.3∧(lrG0 Y)∧Y.5=Y.5 ∧
(lrG1 Y)∧Y.1=Y.1∧(∀ (i:Nat),i<Y.1→rE ((i6 (Y.st i)).den)∧True)∧Y.3=Y.3∧(lrG0 Y)∧Y.5=Y.5∧(lrG1 Y)∧Y.1=Y.1∧(∀ (i_2:Nat),i_2<Y.1→rE (2:Nat)∧(if i_2=(0:Nat)+(Y.sti zp1_1.fst).1.toNat then ((plX Y p zp1_1.fst).l ((0:Nat)+(Y.sti zp1_1.fst).inn.toNat)).1+(↑zp1_1.2:Int)*(((Y.sti zp1_1.fst).out ((0:Nat)+(Y.sti zp1_1.fst).inn.toNat)).1 - tkI (Y.sti zp1_1.fst) ((0:Nat)+(Y.sti zp1_1.fst).1.toNat)) - (Y.sti zp1_1.fst).2 else ((plX Y p zp1_1.fst).l i_2).1+(↑zp1_1.2:Int)*(((Y.sti zp1_1.fst).out i_2).1 - tkI (Y.sti zp1_1.fst) i_2))=((plX Y p (↑zp1_1.fst:Int).toNat).l i_2).1+(↑(↑zp1_1.2:Int).toNat:Int)*(((Y.sti (↑zp1_1.fst:Int).toNat).out i_2).1 - tkI (Y.sti (↑zp1_1.fst:Int).toNat) i_2) - tkI (Y.sti (↑zp1_1.fst:Int).toNat) i_2∧(if i_2=(0:Nat)+(Y.sti zp1_1.fst).1.toNat then ((plX Y p zp1_1.fst).l ((0 :
Nat)+(Y.sti zp1_1.fst).inn.toNat)).2+(↑zp1_1.2:Int)*(((Y.sti zp1_1.fst).out ((0:Nat)+(Y.sti zp1_1.fst).inn.toNat)).2 - tkI (Y.sti zp1_1.fst) ((0:Nat)+(Y.sti zp1_1.fst).1.toNat)) - (Y.sti zp1_1.fst).2 else ((plX Y p zp1_1.fst).l i_2).2+(↑zp1_1.2:Int)*(((Y.sti zp1_1.fst).out i_2).2 - tkI (Y.sti zp1_1.fst) i_2))=((plX Y p (↑zp1_1.fst:Int).toNat).l i_2).2+(↑(↑zp1_1.2:Int).toNat:Int)*(((Y.sti (↑zp1_1.fst:Int).toNat).out i_2).2 - tkI (Y.sti (↑zp1_1.fst:Int).toNat) i_2) - tkI (Y.sti (↑zp1_1.fst:Int).toNat) i_2∧True)∧(Y.sti zp1_1.fst).1=(Y.sti (↑zp1_1.fst:Int).toNat).1∧(Y.sti zp1_1.fst).2=(Y.sti (↑zp1_1.fst:Int).toNat).2∧(Y.sti zp1_1.fst).3=(Y.sti (↑zp1_1.fst:Int).toNat).3∧(∀ (i_2:Nat),i_2<(Y.sti (↑zp1_1.fst:Int).toNat).3→((Y.sti zp1_1.fst).out i_2).sv.den=((Y.sti (↑zp1_1.fst:Int).toNat).out i_2).sv.den∧True∧True ∧
True)∧(Y.sti zp1_1.fst).5=(Y.sti (↑zp1_1.fst:Int).toNat).5∧(Y.sti zp1_1.fst).6=(Y.sti (↑zp1_1.fst:Int).toNat).6∧True)∧∀ (zp2_2:Nat × Nat × Nat),lfB Y p zp2_2∧zp2_2.1*(64:Nat)+zp2_2.snd.1=(↑zp1_1.1:Int).toNat*(64:Nat)+(↑zp1_1.2:Int).toNat→((↑zp2_2.snd.2:Int)<(↑Y.1:Int)→(0:Int)≤(↑zp2_2.snd.2:Int)∧(↑zp2_2.snd.2:Int)<(↑Y.1:Int)∧(0:Nat)+(↑zp2_2.snd.2:Int).toNat<Y.1∧(0:Nat)<(1:Nat)∧(0:Int)≤(↑zp2_2.snd.2:Int)∧(↑zp2_2.snd.2:Int)<(↑(Y.sti zp2_2.fst).3:Int)∧rI ((bmF (plX Y p zp2_2.fst).l (Y.sti zp2_2.fst) zp2_2.snd.fst zp2_2.snd.snd ((0:Nat)+(↑zp2_2.snd.snd:Int).toNat)).1+((Y.sti zp2_2.fst).out (↑zp2_2.snd.snd:Int).toNat).1)∧(0:Int)≤(↑zp2_2.snd.2:Int)∧(↑zp2_2.snd.2:Int)<(↑Y.1:Int)∧(0:Nat)+(↑zp2_2.snd.2:Int).toNat<Y.1∧(0:Nat)<(1:Nat)∧(0:Int) ≤
(↑zp2_2.snd.2:Int)∧(↑zp2_2.snd.2:Int)<(↑(Y.sti zp2_2.fst).3:Int)∧rI ((bmF (plX Y p zp2_2.fst).l (Y.sti zp2_2.fst) zp2_2.snd.fst zp2_2.snd.snd ((0:Nat)+(↑zp2_2.snd.snd:Int).toNat)).2+((Y.sti zp2_2.fst).out (↑zp2_2.snd.snd:Int).toNat).2)∧(0:Int)≤(↑zp2_2.snd.2:Int)∧(↑zp2_2.snd.2:Int)<(↑Y.1:Int)∧(0:Nat)+(2:Nat)≤(2:Nat)∧(0:Nat)+(↑zp2_2.snd.2:Int).toNat<Y.1∧(∀ (i':Nat),rE true)∧rI ((↑zp2_2.snd.2:Int)+(1:Int))∧(lfB Y p ((↑zp2_2.fst:Int).toNat,(↑zp2_2.snd.fst:Int).toNat,((↑zp2_2.snd.snd:Int)+(1:Int)).toNat)∧(↑zp2_2.1:Int).toNat*(64:Nat)+(↑zp2_2.snd.1:Int).toNat=(↑zp1_1.1:Int).toNat*(64:Nat)+(↑zp1_1.2:Int).toNat)∧Y.1 - ((↑zp2_2.snd.2:Int)+(1:Int)).toNat<Y.1 - zp2_2.snd.2∧Y.3=Y.3∧(∀ (i:Nat),i<Y.3→rE ((i6 (p i)).den)∧True)∧rE (0:Nat)∧rE (0:Nat)∧rE (0 :
Nat)∧Y.1=Y.1∧(↑zp2_2.1:Int)=(↑(↑zp2_2.1:Int).toNat:Int)∧rE (0:Nat)∧rE (0:Nat)∧(↑zp2_2.snd.1:Int)=(↑(↑zp2_2.snd.1:Int).toNat:Int)∧(↑zp2_2.snd.2:Int)+(1:Int)=(↑((↑zp2_2.snd.2:Int)+(1:Int)).toNat:Int)∧Y.1=Y.1∧(∀ (i:Nat),i<Y.1→rE ((i6 (Y.st i)).den)∧True)∧Y.3=Y.3∧(lrG0 Y)∧Y.5=Y.5∧(lrG1 Y)∧Y.1=Y.1∧(∀ (i:Nat),i<Y.1→rE ((i6 (Y.st i)).den)∧True)∧Y.3=Y.3∧(lrG0 Y)∧Y.5=Y.5∧(lrG1 Y)∧Y.1=Y.1∧(∀ (i_3:Nat),i_3<Y.1→rE (2:Nat)∧(if i_3=(0:Nat)+(↑zp2_2.snd.2:Int).toNat then (bmF (plX Y p zp2_2.fst).l (Y.sti zp2_2.fst) zp2_2.snd.fst zp2_2.snd.snd ((0:Nat)+(↑zp2_2.snd.snd:Int).toNat)).1+((Y.sti zp2_2.fst).out (↑zp2_2.snd.snd:Int).toNat).1 else (bmF (plX Y p zp2_2.fst).l (Y.sti zp2_2.fst) zp2_2.snd.fst zp2_2.snd.snd i_3).1)=(bmF (plX Y p (↑zp2_2.fst:Int).toNat).l
(Y.sti (↑zp2_2.fst:Int).toNat) (↑zp2_2.snd.fst:Int).toNat ((↑zp2_2.snd.snd:Int)+(1:Int)).toNat i_3).1∧(if i_3=(0:Nat)+(↑zp2_2.snd.2:Int).toNat then (bmF (plX Y p zp2_2.fst).l (Y.sti zp2_2.fst) zp2_2.snd.fst zp2_2.snd.snd ((0:Nat)+(↑zp2_2.snd.snd:Int).toNat)).2+((Y.sti zp2_2.fst).out (↑zp2_2.snd.snd:Int).toNat).2 else (bmF (plX Y p zp2_2.fst).l (Y.sti zp2_2.fst) zp2_2.snd.fst zp2_2.snd.snd i_3).2)=(bmF (plX Y p (↑zp2_2.fst:Int).toNat).l (Y.sti (↑zp2_2.fst:Int).toNat) (↑zp2_2.snd.fst:Int).toNat ((↑zp2_2.snd.snd:Int)+(1:Int)).toNat i_3).2∧True)∧(Y.sti zp2_2.fst).1=(Y.sti (↑zp2_2.fst:Int).toNat).1∧(Y.sti zp2_2.fst).2=(Y.sti (↑zp2_2.fst:Int).toNat).2∧(Y.sti zp2_2.fst).3=(Y.sti (↑zp2_2.fst:Int).toNat).3∧(∀ (i_3:Nat),i_3<(Y.sti (↑zp2_2.fst:Int).toNat).3→((Y.sti zp2_2.fst).out i_3).sv.den=((Y.sti (↑zp2_2.fst :
Int).toNat).out i_3).sv.den∧True∧True∧True)∧(Y.sti zp2_2.fst).5=(Y.sti (↑zp2_2.fst:Int).toNat).5∧(Y.sti zp2_2.fst).6=(Y.sti (↑zp2_2.fst:Int).toNat).6∧True)∧(¬(↑zp2_2.snd.2:Int)<(↑Y.1:Int)→rI ((↑zp2_2.snd.1:Int)+(1:Int))∧(lfA Y p ((↑zp2_2.fst:Int).toNat,((↑zp2_2.snd.fst:Int)+(1:Int)).toNat)∧(↑zp2_2.1:Int).toNat=(↑z:Int).toNat)∧(p (↑zp2_2.1:Int).toNat).toNat - ((↑zp2_2.snd.1:Int)+(1:Int)).toNat<(p zp1_1.1).toNat - zp1_1.2∧Y.3=Y.3∧(∀ (i:Nat),i<Y.3→rE ((i6 (p i)).den)∧True)∧rE (0:Nat)∧rE (0:Nat)∧rE (0:Nat)∧Y.1=Y.1∧(↑zp2_2.1:Int)=(↑(↑zp2_2.1:Int).toNat:Int)∧rE (0:Nat)∧rE (0:Nat)∧(↑zp2_2.snd.1:Int)+(1:Int)=(↑((↑zp2_2.snd.1:Int)+(1:Int)).toNat:Int)∧Y.1=Y.1∧(∀ (i:Nat),i<Y.1→rE ((i6 (Y.st i)).den)∧True)∧Y.3=Y.3∧(lrG0 Y)∧Y.5=Y.5∧(lrG1 Y)
∧ Y.1=Y.1∧(∀ (i:Nat),i<Y.1→rE ((i6 (Y.st i)).den)∧True)∧Y.3=Y.3∧(lrG0 Y)∧Y.5=Y.5∧(lrG1 Y)∧Y.1=Y.1∧(∀ (i_3:Nat),i_3<Y.1→rE (2:Nat)∧(bmF (plX Y p zp2_2.fst).l (Y.sti zp2_2.fst) zp2_2.snd.fst zp2_2.snd.snd i_3).1=((plX Y p (↑zp2_2.fst:Int).toNat).l i_3).1+(↑((↑zp2_2.snd.1:Int)+(1:Int)).toNat:Int)*(((Y.sti (↑zp2_2.fst:Int).toNat).out i_3).1 - tkI (Y.sti (↑zp2_2.fst:Int).toNat) i_3)∧(bmF (plX Y p zp2_2.fst).l (Y.sti zp2_2.fst) zp2_2.snd.fst zp2_2.snd.snd i_3).2=((plX Y p (↑zp2_2.fst:Int).toNat).l i_3).2+(↑((↑zp2_2.snd.1:Int)+(1:Int)).toNat:Int)*(((Y.sti (↑zp2_2.fst:Int).toNat).out i_3).2 - tkI (Y.sti (↑zp2_2.fst:Int).toNat) i_3)∧True)∧(Y.sti zp2_2.fst).1=(Y.sti (↑zp2_2.fst:Int).toNat).1∧(Y.sti zp2_2.fst).2=(Y.sti (↑zp2_2.fst:Int).toNat).2∧(Y.sti zp2_2.fst).3=(Y.sti (↑zp2_2.fst :
Int).toNat).3∧(∀ (i_3:Nat),i_3<(Y.sti (↑zp2_2.fst:Int).toNat).3→((Y.sti zp2_2.fst).out i_3).sv.den=((Y.sti (↑zp2_2.fst:Int).toNat).out i_3).sv.den∧True∧True∧True)∧(Y.sti zp2_2.fst).5=(Y.sti (↑zp2_2.fst:Int).toNat).5∧(Y.sti zp2_2.fst).6=(Y.sti (↑zp2_2.fst:Int).toNat).6∧True)))∧(¬(↑zp1_1.2:Int)<p (↑zp1_1.1:Int).toNat→rI ((↑zp1_1.1:Int)+(1:Int))∧∃ (z_2:Nat),(z_2≤Y.3∧canL Y p z_2)∧Y.3 - z_2<Y.3 - z∧Y.3=Y.3∧(∀ (i:Nat),i<Y.3→rE ((i6 (p i)).den)∧True)∧rE (0:Nat)∧rE (0:Nat)∧rE (0:Nat)∧Y.1=Y.1∧(↑zp1_1.1:Int)+(1:Int)=(↑z_2:Int)∧Y.1=Y.1∧(∀ (i:Nat),i<Y.1→rE ((i6 (Y.st i)).den)∧True)∧Y.3=Y.3∧(lrG0 Y)∧Y.5=Y.5∧(lrG1 Y)∧Y.1=Y.1∧(∀ (i:Nat),i<Y.1→rE ((i6 (Y.st i)).den)∧True)∧Y.3=Y.3∧(lrG0 Y)∧Y.5=Y.5∧(lrG1 Y)∧Y.1=Y.1∧(∀ (i_3:Nat),i_3 <
Y.1→rE (2:Nat)∧((plX Y p zp1_1.fst).l i_3).1+(↑zp1_1.2:Int)*(((Y.sti zp1_1.fst).out i_3).1 - tkI (Y.sti zp1_1.fst) i_3)=((plX Y p z_2).l i_3).1∧((plX Y p zp1_1.fst).l i_3).2+(↑zp1_1.2:Int)*(((Y.sti zp1_1.fst).out i_3).2 - tkI (Y.sti zp1_1.fst) i_3)=((plX Y p z_2).l i_3).2∧True)∧True))∧(¬(↑z:Int)<(↑Y.3:Int)→Y.1=lfN Y n p∧(0:Nat)+lfN Y n p≤Y.1∧(∀ (i_1:Nat),i_1<lfN Y n p→rE (2:Nat)∧rE (2:Nat)∧((plX Y p z).l (i_1+(0:Nat))).1=((plX Y p Y.m).l i_1).1∧((plX Y p z).l (i_1+(0:Nat))).2=((plX Y p Y.m).l i_1).2∧True)∧(0:Int)=erP Y n p∧True)))))):=by kernel_rfl
end Go.Proofs.Ytifjghgejnkdoaa

set_option maxRecDepth 100000
namespace Go.Proofs.Ytifjghgejnkdoaa
open Go Go.Lg
attribute [local irreducible] funS bodyH
theorem is_true {n:Nat} {f:Nat→Int} {m:Nat} {g:Nat→Int} (hn:n≤1000):isG n f m g:=by
 rw [isG_vc]
 simp only [rI,rE,tt3,tt4,tt5,tt13,tt14,rI,rE,tt3,tt4,tt5,tt13,tt14,and_true,true_and,Nat.zero_lt_one,and_self,implies_true,Int.toNat_natCast,Nat.zero_add,Nat.add_zero,Nat.one_mul,Nat.mul_one,Classical.not_not,iff_self,Bool.false_eq_true,imp_false,and_imp,true_implies,forall_const]
 refine ⟨fun h=>⟨fun x=>x.elim,fun x=>h (by rw [x.1])⟩,fun h=>⟨⟨0,⟨by omega,by omega,fun i hi=>by omega⟩,rfl⟩,fun z hz e hi=>⟨fun hl=>⟨by omega,hl,by omega,by omega,fun hne=>⟨fun x=>x.elim,fun x=>hne (x.2 z (by omega))⟩,fun he=>⟨by omega,z+1,⟨by omega,e,fun i hh=>?_⟩,by omega,by omega⟩⟩,fun hl=>⟨fun _=>⟨e,fun i hh=>hi i (by omega)⟩,fun _=>trivial⟩⟩⟩⟩
 by_cases ez:i=z
 ·subst ez; exact he
 ·exact hi i (by omega)
theorem is_ok:isC.Ok Try.prog:=by
 refine ⟨by kernel_rfl,fun x k hk=>?_⟩
 simp only [isC] at hk
 split at hk
 ·rename_i n f m g
  obtain ⟨hf,hg,hn,hk⟩:=hk
  have hh:=is_true (f:=iOf f) (m:=m) (g:=iOf g) hn
  unfold isG at hh
  rw [← hf,← hg] at hh
  exact ⟨_,Does.plain (funH_does nilS_cs nilS_x nilS_ic mixed hh) trivial,hk⟩
 ·exact hk.elim
theorem ssq_true {n:Nat} {f:Nat→Tw} {m:Nat} {g:Nat→Tw} (hn:n≤1000):ssqG n f m g:=by
 rw [ssqG_vc]
 simp only [rI,rE,tt3,tt4,tt5,tt13,tt14,rI,rE,tt3,tt4,tt5,tt13,tt14,and_true,true_and,Nat.zero_lt_one,and_self,implies_true,Int.toNat_natCast,Nat.zero_add,Nat.add_zero,Nat.one_mul,Nat.mul_one,Classical.not_not,iff_self,Bool.false_eq_true,imp_false,and_imp,true_implies,forall_const]
 refine ⟨fun h=>⟨fun x=>x.elim,fun x=>h (by rw [x.1])⟩,fun h=>⟨⟨0,⟨by omega,by omega,fun i hi=>by omega⟩,rfl⟩,fun z hz e hi=>⟨fun hl=>⟨by omega,hl,by omega,by omega,fun hne=>⟨fun x=>x.elim,fun x=>hne (x.2 z (by omega))⟩,fun he he2=>⟨by omega,z+1,⟨by omega,e,fun i hh=>?_⟩,by omega,by omega⟩⟩,fun hl=>⟨fun _=>⟨e,fun i hh=>hi i (by omega)⟩,fun _=>trivial⟩⟩⟩⟩
 by_cases ez:i=z
 ·subst ez; exact ⟨he,he2⟩
 ·exact hi i (by omega)
theorem ssq_ok:ssqC.Ok Try.prog:=by
 refine ⟨by kernel_rfl,fun x k hk=>?_⟩
 simp only [ssqC] at hk
 split at hk
 ·rename_i n f m g
  obtain ⟨hf,hg,hn,hk⟩:=hk
  have hh:=ssq_true (f:=ftOf f) (m:=m) (g:=ftOf g) hn
  unfold ssqG at hh
  rw [← hf,← hg] at hh
  exact ⟨_,Does.plain (funH_does nilS_cs nilS_x nilS_ic mixed hh) trivial,hk⟩
 ·exact hk.elim
theorem ld_sum {W:Wl} (h:∀ i,i<W.n→okW (W.f i)):∀ z,z≤W.n→(0≤sumJ (fun i=>(ldL W i).lo) z∧sumJ (fun i=>(ldL W i).lo) z≤100000000*z)∧(0≤sumJ (fun i=>(ldL W i).hi) z∧sumJ (fun i=>(ldL W i).hi) z≤100000000*z)
 | 0,_=>⟨⟨Int.le_refl 0,Int.le_refl 0⟩,Int.le_refl 0,Int.le_refl 0⟩
 | z+1,hz=>by
  have ih:=ld_sum h z (by omega)
  have b:bdT (ldL W z):=ld_bd (h z (by omega))
  unfold bdT at b
  show (0≤sumJ _ z+(ldL W z).lo∧sumJ _ z+(ldL W z).lo≤_)∧(0≤sumJ _ z+(ldL W z).hi∧sumJ _ z+(ldL W z).hi≤_)
  push_cast
  omega
theorem rc_true (W:Wl):rcG W:=by
 rw [rcG_vc]
 simp only [rI,rE,tt3,tt4,tt5,tt13,tt14,rI,rE,tt3,tt4,tt5,tt13,tt14,and_true,true_and,Nat.zero_lt_one,and_self,implies_true,Int.toNat_natCast,Nat.zero_add,Nat.add_zero,Nat.one_mul,Nat.mul_one,Classical.not_not,iff_self,Bool.false_eq_true,imp_false,and_imp,true_implies,forall_const,wg_fold]
 refine ⟨fun h=>?_,fun h=>⟨⟨0,⟨by omega,by omega,fun i hi=>by omega⟩,rfl⟩,fun z hz h32 hi=>⟨fun hl=>⟨by omega,hl,fun hne=>?_,fun he=>⟨by omega,z+1,⟨by omega,h32,fun i hh=>?_⟩,by omega,by omega⟩⟩,fun hl=>⟨⟨0,by omega,rfl,rfl,rfl,rfl,rfl⟩,fun x hx=>⟨fun hxl=>?_,fun hxl=>?_⟩⟩⟩⟩⟩
 ·have e:erC W=3:=by rw [erC,if_pos (by omega)]
  obtain ⟨e1,e2⟩:=erC_no (W:=W) (by omega)
  rw [e1,e2]; exact ⟨rfl,rfl,rfl,e.symm⟩
 ·have e:erC W=1:=by rw [erC,if_neg (by omega),if_neg fun x=>hne (x z (by omega))]
  obtain ⟨e1,e2⟩:=erC_no (W:=W) (by omega)
  rw [e1,e2]; exact ⟨rfl,rfl,rfl,e.symm⟩
 ·by_cases ez:i=z
  ·subst ez; exact he
  ·exact hi i (by omega)
 ·have hw:=hi x (by omega)
  have b:=ld_bd hw
  have s:=ld_sum (W:=W) (fun i h=>hi i (by omega)) x (by omega)
  have h1:=hw.e.a
  have h2:=hw.e.b
  have h3:=hw.e.c
  have h4:=hw.f.a
  have h5:=hw.f.b
  have h6:=hw.f.c
  refine ⟨by omega,hxl,by omega,hxl,by omega,by omega,hxl,by omega,hxl,by omega,by omega,by omega,by omega,by omega,by omega,x+1,by omega,by omega,rfl,by omega,rfl,rfl,rfl,fun i hh=>?_⟩
  by_cases e:i<x
  ·simp only [if_pos e,and_self]
  ·have:i=x:=by omega
   subst this; simp only [if_neg e,and_self]
 ·obtain ⟨e0,e1,e2⟩:=erC_yes h fun i hh=>hi i (by omega)
  have:x=W.n:=by omega
  subst this
  rw [e0,e1,e2]
  exact ⟨rfl,Nat.le_refl _,rfl,rfl,rfl⟩
theorem rc_ok:rcC.Ok Try.prog:=by
 refine ⟨by kernel_rfl,fun x k hk=>?_⟩
 simp only [rcC,caC] at hk
 split at hk
 ·rename_i n f
  obtain ⟨hf,hn,hk⟩:=hk
  have hh:=rc_true (wlOf n f)
  unfold rcG at hh
  rw [← hf] at hh
  exact ⟨_,newD (one_cs rw_ok) nilS_x nilS_ic hh (by simp [flatS,flatSL,scS,SV.cells,twL,Tw.sv,caR]),hk⟩
 ·exact hk.elim
end Go.Proofs.Ytifjghgejnkdoaa

set_option maxRecDepth 100000
namespace Go.Proofs.Ytifjghgejnkdoaa
open Go Go.Lg
attribute [local irreducible] funS bodyH
theorem n10:((1:Int)=0)=False:=eq_false (by decide)
theorem n20:((2:Int)=0)=False:=eq_false (by decide)
theorem n100:((10:Int)=0)=False:=eq_false (by decide)
theorem n00:((0:Int)=0)=True:=eq_true rfl
theorem er1 {Y:Yd} {n:Nat} {p:Nat→Int} (h:¬ okYd Y):0=lfN Y n p∧1=erP Y n p:=by
 have e:erP Y n p=1:=by rw [erP,if_neg h]
 exact ⟨by rw [lfN,if_neg (by omega)],e.symm⟩
theorem er2 {Y:Yd} {n:Nat} {p:Nat→Int} (h:okYd Y) (hp:¬ okPl Y.m Y.sti n p):0=lfN Y n p∧2=erP Y n p:=by
 have e:erP Y n p=2:=by rw [erP,if_pos h,if_neg hp]
 exact ⟨by rw [lfN,if_neg (by omega)],e.symm⟩
theorem er3 {Y:Yd} {n:Nat} {p:Nat→Int} (h:okYd Y) (hp:okPl Y.m Y.sti n p) (hc:¬ canL Y p Y.m):0=lfN Y n p∧10=erP Y n p:=by
 have e:erP Y n p=10:=by rw [erP,if_pos h,if_pos hp,if_neg hc]
 exact ⟨by rw [lfN,if_neg (by omega)],e.symm⟩
theorem er0 {Y:Yd} {n:Nat} {p:Nat→Int} (h:okYd Y) (hp:okPl Y.m Y.sti n p) (hc:canL Y p Y.m):Y.g=lfN Y n p∧0=erP Y n p:=by
 have e:erP Y n p=0:=by rw [erP,if_pos h,if_pos hp,if_pos hc]
 exact ⟨by rw [lfN,if_pos e],e.symm⟩
section
variable {Y:Yd} (h:okYd Y) {p:Nat→Int} (hp:okPl Y.m Y.sti Y.m p)
include h hp
theorem no_can {i k:Nat} (hi:i<Y.m) (hk:(k:Int)<p i) (hl:(btF (plX Y p i).l (Y.sti i) k (Y.sti i).inn.toNat).lo<(Y.sti i).takes):¬ canL Y p Y.m:=fun hc=>by
 rw [bt_inn h hp hi] at hl
 have s:=(h.s.b i hi).2
 have:=can_mono (t:=(k:Int)+1) (by have:=s.t0; omega) (hc i hi) (by omega)
 unfold canP at this
 rw [Int.add_mul,Int.one_mul] at this
 omega
theorem can_next {i k:Nat} (hi:i<Y.m) (hl:¬ (btF (plX Y p i).l (Y.sti i) k (Y.sti i).inn.toNat).lo<(Y.sti i).takes):((k:Int)+1)*(Y.sti i).takes≤((plX Y p i).l (Y.sti i).inn.toNat).lo:=by
 rw [bt_inn h hp hi] at hl
 rw [Int.add_mul,Int.one_mul]
 omega
theorem bm_bd {i k j:Nat} (hi:i<Y.m) (hk:k≤9) (hj:j<Y.g):(-700000000≤(bmF (plX Y p i).l (Y.sti i) k j j).lo+((Y.sti i).out j).lo∧(bmF (plX Y p i).l (Y.sti i) k j j).lo+((Y.sti i).out j).lo≤700000000)∧(-700000000≤(bmF (plX Y p i).l (Y.sti i) k j j).hi+((Y.sti i).out j).hi∧(bmF (plX Y p i).l (Y.sti i) k j j).hi+((Y.sti i).out j).hi≤700000000):=by
 have b:=bt_bd h hp hi hk hj
 have s:=(h.s.b i hi).2
 obtain ⟨o1,o2,o3⟩:=(s.o j (by have:=s.n; omega)).2
 have t0:=s.t0
 have t1:=s.t1
 have tk:0≤tkI (Y.sti i) j∧tkI (Y.sti i) j≤1048576:=by unfold tkI; split <;> omega
 simp only [bmF,Nat.lt_irrefl,if_false]
 omega
omit hp in
theorem bm_in {i k j:Nat} (hi:i<Y.m):(if j=(Y.sti i).inn.toNat then (btF (plX Y p i).l (Y.sti i) k (Y.sti i).inn.toNat).lo - (Y.sti i).takes else (btF (plX Y p i).l (Y.sti i) k j).lo)=(btF (plX Y p i).l (Y.sti i) k j).lo - tkI (Y.sti i) j∧(if j=(Y.sti i).inn.toNat then (btF (plX Y p i).l (Y.sti i) k (Y.sti i).inn.toNat).hi - (Y.sti i).takes else (btF (plX Y p i).l (Y.sti i) k j).hi)=(btF (plX Y p i).l (Y.sti i) k j).hi - tkI (Y.sti i) j:=by
 have s:=(h.s.b i hi).2
 have i0:=s.i0
 by_cases e:j=(Y.sti i).inn.toNat
 ·rw [if_pos e,if_pos e,tkI,if_pos (by omega),← e]
  exact ⟨rfl,rfl⟩
 ·rw [if_neg e,if_neg e,tkI,if_neg (by omega)]
  exact ⟨by omega,by omega⟩
end
theorem bm_st (c:Nat→Tw) (s:Sti) (n k i:Nat):(if i=k then (bmF c s n k k).lo+(s.out k).lo else (bmF c s n k i).lo)=(bmF c s n (k+1) i).lo∧(if i=k then (bmF c s n k k).hi+(s.out k).hi else (bmF c s n k i).hi)=(bmF c s n (k+1) i).hi:=by
 rw [bmF_step]
 by_cases e:i=k
 ·subst e; simp only [if_true,and_self]
 ·simp only [if_neg e,and_self]
theorem lr_true (Y:Yd) (n:Nat) (p:Nat→Int):lrG Y n p:=by
 rw [lrG_vc]
 simp only [lrG0,lrG1,rI,rE,tt3,tt4,tt5,tt13,tt14,rI,rE,tt3,tt4,tt5,tt13,tt14,and_true,true_and,Nat.zero_lt_one,and_self,implies_true,Int.toNat_natCast,Nat.zero_add,Nat.add_zero,Nat.one_mul,Nat.mul_one,Classical.not_not,iff_self,Bool.false_eq_true,imp_false,and_imp,true_implies,forall_const,ft_fold,sti_fold,sal_fold,yd_fold,iOf_fold,stiOf_fold,salOf_fold,yv_fold]
 refine (Classical.em (okYd Y)).elim (fun h=>?_) fun h=>⟨fun _=>er1 h,fun x=>absurd x h⟩
 refine ⟨fun x=>absurd h x,fun _=>⟨fun hne=>er2 h fun x=>hne (by rw [x.e]),fun hmm=>⟨⟨0,⟨by omega,by omega,fun i hi=>by omega⟩,rfl⟩,fun z hz hn hb=>⟨fun hl=>⟨by omega,hl,by omega,by omega,fun hno=>er2 h fun x=>hno (x.h z (by omega)),fun h0 h1=>⟨by have:=h.s.a; omega,z+1,⟨by omega,hn,fun i hi=>?_⟩,by omega,by omega⟩⟩,fun hl=>?_⟩⟩⟩⟩
 ·by_cases e:i=z
  ·subst e; exact ⟨h0,h1⟩
  ·exact hb i (by omega)
 subst hn
 have hp:okPl Y.m Y.sti Y.m p:=⟨rfl,fun i hi=>hb i (by omega)⟩
 have g6:=h.g.b
 have m4:=h.s.a
 refine ⟨⟨0,by omega,rfl,rfl,rfl,rfl⟩,fun z1 hz1=>⟨fun hl=>⟨by omega,hl,by omega,hl,by omega,by omega,by omega,z1+1,by omega,by omega,rfl,by omega,rfl,fun i hi=>?_⟩,fun hl=>⟨⟨0,⟨by omega,fun i hi=>by omega⟩,by omega,rfl,by omega,fun i hi=>?_⟩,fun i hi hc=>⟨fun hl=>?_,fun hl=>?_⟩⟩⟩⟩
 ·by_cases e:i<z1
  ·rw [if_pos e]
  ·have:i=z1:=by omega
   subst this; rw [if_neg e]
 ·show Y.st i=(if i<Y.g then (⟨Y.st i,Y.st i⟩:Tw) else ⟨0,0⟩).lo∧Y.st i=(if i<Y.g then (⟨Y.st i,Y.st i⟩:Tw) else ⟨0,0⟩).hi
  rw [if_pos hi]; exact ⟨rfl,rfl⟩
 ·have him:i<Y.m:=by omega
  have s:=(h.s.b i him).2
  have b:=hp.h i him
  unfold okNb at b
  have i0:=s.i0
  have i1:=s.i1
  have t0:=s.t0
  have t1:=s.t1
  have m1:=s.m1
  refine ⟨by omega,hl,⟨⟨him,by show (((0:Int).toNat:Nat):Int)≤p i; omega,?_⟩,rfl,fun j hj=>⟨by simp,by simp⟩⟩,?_⟩
  ·show (((0:Int).toNat:Nat):Int)*_≤_
   have:=pl_nn h hp i hi hc (Y.sti i).inn.toNat (by omega)
   simpa using this
  rintro ⟨i',k⟩ ha e
  simp only at e
  subst e
  have ak:=ha.b
  have ac:=ha.c
  simp only at ak ac ⊢
  refine ⟨by omega,by omega,fun hk=>⟨i0,by omega,by omega,fun hlt=>er3 h hp (no_can h hp him hk hlt),fun hge=>?_⟩,fun hk=>⟨by omega,i'+1,⟨by omega,(canL_succ h hp).2 ⟨hc,?_⟩⟩,by omega,by omega,fun j hj=>?_⟩⟩
  ·have B:_:=bt_bd h hp him (k:=k) (by omega) (j:=(Y.sti i').inn.toNat) (by omega)
   simp only [btF] at B
   refine ⟨i0,by omega,by omega,by omega,i0,by omega,by omega,by omega,i0,by omega,by omega,by omega,⟨⟨him,hk,can_next h hp him hge,Nat.zero_le _⟩,rfl,fun j hj=>?_⟩,?_⟩
   ·exact bm_in h (k:=k) him
   rintro ⟨i2,k2,j⟩ hb2 e2
   have ba:=hb2.a
   have bb:=hb2.b
   have bc:=hb2.c
   have bd:=hb2.d
   simp only at e2 ba bb bc bd ⊢
   have b2:=hp.h i2 ba
   unfold okNb at b2
   have m2:=(h.s.b i2 ba).2.m1
   obtain ⟨rfl,rfl⟩:i2=i'∧k2=k:=by omega
   refine ⟨fun hj=>?_,fun hj=>⟨by omega,⟨⟨him,?_,?_⟩,rfl⟩,?_,by omega,fun j1 hj1=>?_⟩⟩
   ·have C:=bm_bd h hp him (k:=k2) (by omega) (j:=j) (by omega)
    have on:=s.n
    have e1:((j:Int)+1).toNat=j+1:=by omega
    rw [e1]
    exact ⟨by omega,hj,by omega,by omega,by omega,by omega,by omega,hj,by omega,by omega,by omega,by omega,by omega,hj,by omega,by omega,by omega,⟨⟨him,bb,bc,by show j+1≤Y.g; omega⟩,rfl⟩,by omega,by omega,fun i hi=>bm_st _ _ _ _ _⟩
   ·show ((((k2:Int)+1).toNat:Nat):Int)≤p i2
    omega
   ·show ((((k2:Int)+1).toNat:Nat):Int)*_≤_
    rw [show ((((k2:Int)+1).toNat:Nat):Int)=k2+1 by omega]
    exact bc
   ·omega
   ·have e1:((k2:Int)+1).toNat=k2+1:=by omega
    rw [e1,bmF_last (by omega)]
    exact ⟨rfl,rfl⟩
  ·unfold canP
   have:p i'=k:=by omega
   rw [this]; exact ac
  ·have e1:=pl_succ h hp him hj
   rw [show (p i').toNat=k by omega] at e1
   rw [← e1]
   exact ⟨rfl,rfl⟩
 ·have:i=Y.m:=by omega
  subst this
  obtain ⟨e1,e2⟩:=er0 h hp hc
  exact ⟨e1,by omega,fun j hj=>⟨rfl,rfl⟩,e2⟩
end Go.Proofs.Ytifjghgejnkdoaa
