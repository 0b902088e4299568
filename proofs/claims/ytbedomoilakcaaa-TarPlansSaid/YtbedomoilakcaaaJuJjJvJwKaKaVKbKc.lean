import Derived.Test.YtbedomoilakcaaaJhJhVJitJi
import Derived.Test.YtbedomoilakcaaaJkJkVJktJlJmJmVJntJnJo
import Derived.Test.YtbedomoilakcaaaIaIaVIbIcIcVIdIeIeVIf
import Derived.Test.YtbedomoilakcaaaJaJaVJbTJbJdJdVJetJe
set_option linter.unusedVariables false
set_option linter.unusedSimpArgs false
namespace Go.Proofs.Ytbedomoilakcaaa
open Go Go.Lg
theorem sumJ_congr2 {f g:Nat→Int}:∀ {m:Nat},(∀ i,i<m→f i=g i)→sumJ f m=sumJ g m
 | 0,_=>rfl
 | m+1,h=>by
  show sumJ f m+f m=sumJ g m+g m
  rw [sumJ_congr2 (m:=m) fun i hi=>h i (by omega),h m (by omega)]
theorem sumJ_swap {u v:Nat→Int} {i:Nat} (h1:u i=v (i+1)) (h2:u (i+1)=v i) (h3:∀ k,k≠i→k≠i+1→u k=v k):∀ d,sumJ u (i+2+d)=sumJ v (i+2+d)
 | 0=>by
  have:=sumJ_congr2 (f:=u) (g:=v) (m:=i) fun k hk=>h3 k (by omega) (by omega)
  show sumJ u i+u i+u (i+1)=sumJ v i+v i+v (i+1)
  omega
 | d+1=>by
  show sumJ u (i+2+d)+u (i+2+d)=sumJ v (i+2+d)+v (i+2+d)
  rw [sumJ_swap h1 h2 h3 d,h3 _ (by omega) (by omega)]
theorem swp_sum {f:Nat→Int} {h:Int→Int} {j q:Nat} (hj:j+1<q):sumJ (fun k=>h (swp f (j+1) k)) q=sumJ (fun k=>h (f k)) q:=by
 obtain ⟨d,rfl⟩:∃ d,q=j+2+d:=⟨q - (j+2),by omega⟩
 refine sumJ_swap (i:=j) ?_ ?_ (fun k h1 h2=>?_) d
 ·simp [swp]
 ·simp [swp]
 ·simp only [swp]
  rw [if_neg (by omega),if_neg h2]
theorem inF_sum {sal:Nat→Sal} {h:Int→Int} {q:Nat}:∀ {j:Nat} {f:Nat→Int},j<q→sumJ (fun k=>h (inF sal f j k)) q=sumJ (fun k=>h (f k)) q
 | 0,f,_=>rfl
 | j+1,f,hj=>by
  simp only [inF]
  split
  ·rw [inF_sum (by omega),swp_sum hj]
  ·rfl
theorem stF_sum {sal:Nat→Sal} {h:Int→Int} {q:Nat}:∀ i,i≤q→sumJ (fun k=>h (stF sal i k)) q=sumJ (fun k=>h (k:Int)) q
 | 0,_=>rfl
 | i+1,hi=>by
  simp only [stF]
  rw [inF_sum (by omega),stF_sum i (by omega)]
def bef (sal:Nat→Sal) (a b:Int):Prop:=prS sal b<prS sal a∨(prS sal b=prS sal a∧a<b)
theorem bef_trans {sal:Nat→Sal} {a b c:Int} (h:bef sal a b) (k:bef sal b c):bef sal a c:=by
 unfold bef at *
 omega
theorem inF_above {sal:Nat→Sal}:∀ {j:Nat} {f:Nat→Int} {k:Nat},j<k→inF sal f j k=f k
 | 0,f,k,_=>rfl
 | j+1,f,k,h=>by
  simp only [inF]
  split
  ·rw [inF_above (by omega)]
   simp only [swp]
   rw [if_neg (by omega),if_neg (by omega)]
  ·rfl
theorem ins {sal:Nat→Sal} {i:Nat} {x:Int}:∀ (j:Nat) (f:Nat→Int),j≤i→f j=x→(∀ k,k+1<j→bef sal (f k) (f (k+1)))→(∀ k,j<k→k+1≤i→bef sal (f k) (f (k+1)))→(1≤j→j+1≤i→bef sal (f (j - 1)) (f (j+1)))→(j+1≤i→bef sal x (f (j+1)))→(∀ k,k≤i→k≠j→f k<x)→∀ k,k+1≤i→bef sal (inF sal f j k) (inF sal f j (k+1))
 | 0,f,hj,hx,A,B,C,D,E,k,hk=>by
  simp only [inF]
  by_cases e:k=0
  ·subst e; rw [hx]; exact D hk
  ·exact B k (by omega) hk
 | j+1,f,hj,hx,A,B,C,D,E,k,hk=>by
  simp only [inF]
  split
  ·rename_i hlt
   have g0:swp f (j+1) j=x:=by simp [swp,hx]
   have g1:swp f (j+1) (j+1)=f j:=by simp [swp]
   have g2:∀ k,k≠j→k≠j+1→swp f (j+1) k=f k:=fun k h1 h2=>by simp only [swp]; rw [if_neg (by omega),if_neg h2]
   refine ins j (swp f (j+1)) (by omega) g0 (fun k hk=>?_) (fun k h1 h2=>?_) (fun h1 h2=>?_) (fun h1=>?_) (fun k h1 h2=>?_) k hk
   ·rw [g2 k (by omega) (by omega),g2 (k+1) (by omega) (by omega)]; exact A k (by omega)
   ·by_cases e:k=j+1
    ·subst e; rw [g1,g2 _ (by omega) (by omega)]; exact C (by omega) h2
    ·rw [g2 k (by omega) e,g2 (k+1) (by omega) (by omega)]; exact B k (by omega) h2
   ·rw [g1,g2 _ (by omega) (by omega)]
    have:=A (j - 1) (by omega)
    rw [show j - 1+1=j by omega] at this
    exact this
   ·rw [g1]
    rw [hx] at hlt
    exact .inl hlt
   ·by_cases e:k=j+1
    ·subst e; rw [g1]; exact E j (by omega) (by omega)
    ·rw [g2 k h2 e]; exact E k h1 e
  ·rename_i hlt
   rw [hx] at hlt
   by_cases e:k<j
   ·exact A k (by omega)
   ·by_cases e2:k=j
    ·subst e2
     rw [hx]
     have:=E k (by omega) (by omega)
     unfold ltS at hlt
     unfold bef
     omega
    ·by_cases e3:k=j+1
     ·subst e3; rw [hx]; exact D hk
     ·exact B k (by omega) hk
theorem stF_sorted (sal:Nat→Sal):∀ i,(∀ k,k+1<i→bef sal (stF sal i k) (stF sal i (k+1)))∧(∀ k,k<i→0≤stF sal i k∧stF sal i k<i)∧∀ k,i≤k→stF sal i k=k
 | 0=>⟨fun k h=>by omega,fun k h=>by omega,fun k _=>rfl⟩
 | i+1=>by
  obtain ⟨h1,h2,h3⟩:=stF_sorted sal i
  refine ⟨fun k hk=>?_,fun k hk=>?_,fun k hk=>?_⟩
  ·simp only [stF]
   refine ins (i:=i) (x:=(i:Int)) i _ (Nat.le_refl _) (h3 i (Nat.le_refl _)) h1 (fun k a b=>by omega) (fun a b=>by omega) (fun a=>by omega) (fun k a b=>?_) k (by omega)
   exact (h2 k (by omega)).2
  ·simp only [stF]
   have:=inF_bd (P:=fun x=>0≤x∧x<((i+1:Nat):Int)) (sal:=sal) (q:=i+1) (j:=i) (f:=stF sal i) (fun k hk=>by
    by_cases e:k=i
    ·subst e; rw [h3 k (Nat.le_refl _)]; omega
    ·have:=h2 k (by omega); omega) (by omega) k hk
   exact this
  ·simp only [stF]
   rw [inF_above (by omega),h3 k (by omega)]
theorem ord_bef (sal:Nat→Sal) (q:Nat) {a:Nat}:∀ {d:Nat},a+1+d<q→bef sal (stF sal q a) (stF sal q (a+1+d))
 | 0,h=>(stF_sorted sal q).1 a h
 | d+1,h=>bef_trans (ord_bef sal q (by omega:a+1+d<q)) ((stF_sorted sal q).1 (a+1+d) h)
theorem ord_lt (sal:Nat→Sal) {q a b:Nat} (h:a<b) (hb:b<q):bef sal (stF sal q a) (stF sal q b):=by
 have:=ord_bef sal q (a:=a) (d:=b - (a+1)) (by omega)
 rwa [show a+1+(b - (a+1))=b by omega] at this
theorem ord_inj (sal:Nat→Sal) {q a b:Nat} (ha:a<q) (hb:b<q) (h:stF sal q a=stF sal q b):a=b:=by
 rcases Nat.lt_trichotomy a b with e | e | e
 ·have:=ord_lt sal e hb
  rw [h] at this
  unfold bef at this
  omega
 ·exact e
 ·have:=ord_lt sal e ha
  rw [h] at this
  unfold bef at this
  omega
theorem sumJ_zero {f:Nat→Int}:∀ {m:Nat},(∀ i,i<m→f i=0)→sumJ f m=0
 | 0,_=>rfl
 | m+1,h=>by
  show sumJ f m+f m=0
  rw [sumJ_zero (m:=m) fun i hi=>h i (by omega),h m (by omega)]
  rfl
theorem sumJ_one {f:Nat→Int} {j:Nat}:∀ {m:Nat},j<m→(∀ i,i<m→i≠j→f i=0)→sumJ f m=f j
 | 0,h,_=>by omega
 | m+1,h,h2=>by
  show sumJ f m+f m=f j
  by_cases e:j=m
  ·subst e
   rw [sumJ_zero fun i hi=>h2 i (by omega) (by omega)]
   omega
  ·rw [sumJ_one (by omega:j<m) fun i hi hj=>h2 i (by omega) hj,h2 m (by omega) (by omega)]
   omega
theorem ord_sur (sal:Nat→Sal) {q j:Nat} (hj:j<q):∃ a,a<q∧stF sal q a=j:=by
 refine Classical.byContradiction fun hn=>?_
 have h:=stF_sum (sal:=sal) (h:=fun x=>if x=j then 1 else 0) q (Nat.le_refl _)
 rw [sumJ_zero (m:=q) fun i hi=>if_neg fun e=>hn ⟨i,hi,e⟩] at h
 rw [sumJ_one hj fun i hi hne=>if_neg (by omega),if_pos rfl] at h
 omega
end Go.Proofs.Ytbedomoilakcaaa

namespace Go.Proofs.Ytbedomoilakcaaa
open Go Go.Lg
attribute [local irreducible] bodyH funS
open Classical in
noncomputable def tkI (s:Sti) (k:Nat):Int:=if (k:Int)=s.inn then s.takes else 0
noncomputable def btF (c:Nat→Tw) (s:Sti) (n:Nat):Nat→Tw:=fun k=>⟨(c k).lo+n*((s.out k).lo - tkI s k),(c k).hi+n*((s.out k).hi - tkI s k)⟩
noncomputable def bmF (c:Nat→Tw) (s:Sti) (n k:Nat):Nat→Tw:=fun j=>if j<k then btF c s (n+1) j else ⟨(btF c s n j).lo - tkI s j,(btF c s n j).hi - tkI s j⟩
theorem rd3 (n s1 s2 s3:Nat) (t:FS) (X:XS) (k:Nat × Nat × Nat→Prop) (h:(match sget n t s1,sget n t s2,sget n t s3 with
  | .int _ a,.int _ b,.int _ c=>k (a.toNat,b.toNat,c.toNat)
  | _,_,_=>False)):∃ s,k s:=by
 split at h
 ·exact ⟨_,h⟩
 ·exact h.elim
theorem rdP (n s1 s2:Nat) (t:FS) (X:XS) (k:Nat→Prop) (h:(match sget n t s1,sget n t s2 with
  | .int _ a,.int _ b=>k (a.toNat*64+b.toNat)
  | _,_=>False)):∃ s,k s:=by
 split at h
 ·exact ⟨_,h⟩
 ·exact h.elim
noncomputable def thH (n s1 s2 s3 nr:Nat) (inv:Nat × Nat × Nat→Prop) (μ:Nat × Nat × Nat→Nat) (t:Nat × Nat × Nat→FS) (X:Nat × Nat × Nat→XS):HSpec :=
 { toLSpec:={ σ:=Nat × Nat × Nat,inv:=inv,μ:=μ,nr:=nr,ms:=fun _ _=>[],t:=t,X:=X,rd:=fun t X k=>(match sget n t s1,sget n t s2,sget n t s3 with
  | .int _ a,.int _ b,.int _ c=>k (a.toNat,b.toNat,c.toNat)
  | _,_,_=>False),rdOK:=rd3 n s1 s2 s3 },par:=some ⟨fun t _ k=>match sget n t s1,sget n t s2 with
  | .int _ a,.int _ b=>k (a.toNat*64+b.toNat)
  | _,_=>False,rdP n s1 s2⟩,kinv:=fun y s=>s.1*64+s.2.1=y }
structure lfA (Y:Yd) (p:Nat→Int) (x:Nat × Nat):Prop where
 a:x.1<Y.m
 b:(x.2:Int)≤p x.1
 c:x.2*(Y.sti x.1).takes≤((plX Y p x.1).l (Y.sti x.1).inn.toNat).lo
structure lfB (Y:Yd) (p:Nat→Int) (x:Nat × Nat × Nat):Prop where
 a:x.1<Y.m
 b:(x.2.1:Int)<p x.1
 c:(x.2.1+1)*(Y.sti x.1).takes≤((plX Y p x.1).l (Y.sti x.1).inn.toNat).lo
 d:x.2.2≤Y.g
noncomputable def reL (Y:Yd) (p:Nat→Int) (pre:List (Option SRow)) (b:Nat):Nat→Option HSpec :=
 twoL 0 (appN 119 6 (fun k=>k≤Y.g) (fun k=>Y.g - k) (b+1) (fun k=>mkF 119 [(1,iL Y.m p),(2,.ptr b 0 0),(6,.sl (b+1) 0 k),(7,i6 k)]) fun k=>mkX (pre ++ [vr 3 Y.sv,rw' 2 k fun i=>.agg [i6 (Y.st i),i6 (Y.st i)]])) <|
 twoL 2 (natH (fun i=>i≤Y.m∧canL Y p i) (fun i=>Y.m - i) (b+2) (fun i=>mkF 119 [(1,iL Y.m p),(2,.ptr b 0 0),(6,.sl (b+1) 0 Y.g),(8,i6 i)]) (fun i=>mkX (pre ++ [vr 3 Y.sv,rw' 2 Y.g fun j=>((plX Y p i).l j).sv])) fun _=>none) <|
 twoL 4 (twH 119 8 10 (b+3) (lfA Y p) (fun x=>(p x.1).toNat - x.2) (fun x=>mkF 119 [(1,iL Y.m p),(2,.ptr b 0 0),(6,.sl (b+1) 0 Y.g),(8,i6 x.1),(9,.ptr (b+2) 0 0),(10,i6 x.2)]) (fun x=>mkX (pre ++ [vr 3 Y.sv,rw' 2 Y.g fun j=>(btF (plX Y p x.1).l (Y.sti x.1) x.2 j).sv,vr 5 (Y.sti x.1).sv]))) <|
 oneL 6 (thH 119 8 10 11 (b+3) (lfB Y p) (fun x=>Y.g - x.2.2) (fun x=>mkF 119 [(1,iL Y.m p),(2,.ptr b 0 0),(6,.sl (b+1) 0 Y.g),(8,i6 x.1),(9,.ptr (b+2) 0 0),(10,i6 x.2.1),(11,i6 x.2.2)]) (fun x=>mkX (pre ++ [vr 3 Y.sv,rw' 2 Y.g fun j=>(bmF (plX Y p x.1).l (Y.sti x.1) x.2.1 x.2.2 j).sv,vr 5 (Y.sti x.1).sv])))
end Go.Proofs.Ytbedomoilakcaaa

namespace Go.Proofs.Ytbedomoilakcaaa
open Go Go.Lg
attribute [local irreducible] bodyH funS
structure Tx where
 i:Nat
 k:Nat
 j:Nat
 f:Nat→Int
 z:Nat
 L:Prop
def shT (Y:Yd) (p:Nat→Int) (i k:Nat):Prop:=¬ (canL Y p i∧(k:Int)*(Y.sti i).takes≤((plX Y p i).l (Y.sti i).inn.toNat).lo)
def wiB (g:Nat) (c:Nat→Tw) (f:Nat→Int):Prop:=∀ j,j<g→(c j).lo≤f j∧f j≤(c j).hi
structure iv0 (Y:Yd) (p:Nat→Int) (x:Tx):Prop where
 a:x.i≤Y.m
 b:wiB Y.g (plX Y p x.i).l x.f
 c:x.z≤48*x.i
 d:x.L→¬ canL Y p x.i
structure iv2 (Y:Yd) (p:Nat→Int) (x:Tx):Prop where
 a:x.i<Y.m
 k:(x.k:Int)≤p x.i
 b:wiB Y.g (btF (plX Y p x.i).l (Y.sti x.i) x.k) x.f
 c:x.z≤48*x.i+6*x.k
 d:x.L→shT Y p x.i x.k
structure iv4 (Y:Yd) (p:Nat→Int) (x:Tx):Prop where
 a:x.i<Y.m
 k:(x.k:Int)<p x.i
 j:x.j≤Y.g
 b:wiB Y.g (bmF (plX Y p x.i).l (Y.sti x.i) x.k x.j) x.f
 c:x.z≤48*x.i+6*x.k+x.j
 d:x.L→shT Y p x.i (x.k+1)
noncomputable def lsF (Y:Yd) (p:Nat→Int) (i j:Nat):Int:=((plX Y p Y.m).l j).lo - sumJ (fun k=>if (Y.sal k).good.toNat=j then (inS Y p).s k else 0) i
noncomputable def lhF (Y:Yd) (p:Nat→Int) (i j:Nat):Tw:=⟨lsF Y p i j,((plX Y p Y.m).l j).hi - sumJ (fun k=>if (Y.sal k).good.toNat=j then (inS Y p).s k else 0) i⟩
structure ivS (Y:Yd) (p:Nat→Int) (q:Nat) (i:Nat) (x:Nat × (Nat→Int)):Prop where
 a:x.1≤q
 b:wiB Y.g (lhF Y p i) x.2
end Go.Proofs.Ytbedomoilakcaaa

set_option linter.unusedSectionVars false
namespace Go.Proofs.Ytbedomoilakcaaa
open Go Go.Lg
theorem bmF_last {c:Nat→Tw} {s:Sti} {n k j:Nat} (h:j<k):bmF c s n k j=btF c s (n+1) j:=by simp [bmF,h]
theorem btF_succ (c:Nat→Tw) (s:Sti) (n j:Nat):btF c s (n+1) j=⟨(btF c s n j).lo - tkI s j+(s.out j).lo,(btF c s n j).hi - tkI s j+(s.out j).hi⟩:=by
 simp only [btF]
 have e:((n+1:Nat):Int)=n+1:=by omega
 rw [e,Int.add_mul,Int.add_mul,Int.one_mul,Int.one_mul]
 congr 1 <;> omega
theorem bmF_step (c:Nat→Tw) (s:Sti) (n k j:Nat):bmF c s n (k+1) j=if j=k then ⟨(bmF c s n k j).lo+(s.out j).lo,(bmF c s n k j).hi+(s.out j).hi⟩ else bmF c s n k j:=by
 by_cases e:j=k
 ·subst e
  rw [if_pos rfl,bmF_last (by omega),btF_succ]
  simp [bmF]
 ·rw [if_neg e]
  by_cases h:j<k
  ·rw [bmF_last h,bmF_last (by omega)]
  ·simp only [bmF]
   rw [if_neg h,if_neg (by omega)]
section
variable {Y:Yd} (h:okYd Y) {p:Nat→Int} (hp:okPl Y.m Y.sti Y.m p)
include h hp
theorem pl_succ {i j:Nat} (hi:i<Y.m) (hj:j<Y.g):btF (plX Y p i).l (Y.sti i) (p i).toNat j=(plX Y p (i+1)).l j:=by
 have s:=(h.s.b i hi).2
 have b:=hp.h i hi
 unfold okNb at b
 have on:j<(Y.sti i).on:=by have:=s.n; omega
 have e:(((p i).toNat:Nat):Int)=p i:=by omega
 show _=(⟨0+((plX Y p i).l j).lo+(tkG (Y.sti i) (p i) j).lo+(mdG (Y.sti i) (p i) (Y.sti i).on j).lo,0+((plX Y p i).l j).hi+(tkG (Y.sti i) (p i) j).hi+(mdG (Y.sti i) (p i) (Y.sti i).on j).hi⟩:Tw)
 simp only [btF,tkI,tkG,mdG,if_pos on,e]
 split
 ·simp only [Int.mul_sub,Int.zero_sub,Int.neg_mul]
  congr 1 <;> omega
 ·simp only [Int.sub_zero]
  congr 1 <;> omega
theorem pl_nn:∀ k,k≤Y.m→canL Y p k→∀ i,i<6→0≤((plX Y p k).l i).lo
 | 0,_,_,i,hi=>by
  show 0≤(if i<Y.g then (⟨Y.st i,Y.st i⟩:Tw) else ⟨0,0⟩).lo
  split
  ·rename_i hg; exact (h.g.c i hg).1
  ·exact Int.le_refl 0
 | k+1,hk,hc,i,hi=>by
  have h1:=pl_nn k (by omega) (fun i hi=>hc i (by omega)) i hi
  have c:=hc k (by omega)
  have s:=(h.s.b k (by omega)).2
  have b:=hp.h k (by omega)
  unfold okNb at b
  unfold canP at c
  show 0≤(0+((plX Y p k).l i).lo+(tkG (Y.sti k) (p k) i).lo)+(mdG (Y.sti k) (p k) (Y.sti k).on i).lo
  have hm:0≤(mdG (Y.sti k) (p k) (Y.sti k).on i).lo:=by
   unfold mdG
   split
   ·rename_i hl
    exact Int.mul_nonneg b.1 (s.o i hl).2.1
   ·exact Int.le_refl 0
  unfold tkG
  split
  ·rename_i e
   have e':(Y.sti k).inn.toNat=i:=by omega
   rw [e'] at c
   simp only [Int.zero_sub,Int.neg_mul]
   omega
  ·simp only
   omega
theorem canL_succ {i:Nat}:canL Y p (i+1)↔canL Y p i∧canP (plX Y p i) (Y.sti i) (p i) :=
 ⟨fun hh=>⟨fun k hk=>hh k (by omega),hh i (by omega)⟩,fun ⟨a,b⟩ k hk=>by
  by_cases e:k=i
  ·subst e; exact b
  ·exact a k (by omega)⟩
theorem bt_inn {i k:Nat} (hi:i<Y.m):(btF (plX Y p i).l (Y.sti i) k (Y.sti i).inn.toNat).lo=((plX Y p i).l (Y.sti i).inn.toNat).lo - k*(Y.sti i).takes:=by
 have s:=(h.s.b i hi).2
 have i0:=s.i0
 have i1:=s.i1
 have n:=s.n
 have o:=(s.o (Y.sti i).inn.toNat (by omega)).1 (by omega)
 simp only [btF,tkI]
 rw [if_pos (by omega),o.1,Int.zero_sub,Int.mul_neg]
 omega
theorem bt_bd {i k j:Nat} (hi:i<Y.m) (hk:k≤9) (hj:j<Y.g):(-600000000≤(btF (plX Y p i).l (Y.sti i) k j).lo∧(btF (plX Y p i).l (Y.sti i) k j).lo≤600000000)∧(-600000000≤(btF (plX Y p i).l (Y.sti i) k j).hi∧(btF (plX Y p i).l (Y.sti i) k j).hi≤600000000):=by
 have b:=(pl_bd h hp i (by omega)).1 j (by have:=h.g.b; omega)
 have m4:=h.s.a
 have s:=(h.s.b i hi).2
 have o:=(s.o j (by have:=s.n; omega)).2
 obtain ⟨o1,o2,o3⟩:=o
 have t0:=s.t0
 have t1:=s.t1
 have tk:0≤tkI (Y.sti i) j∧tkI (Y.sti i) j≤1048576:=by unfold tkI; split <;> omega
 simp only [btF]
 generalize tkI (Y.sti i) j=w at *
 have:k=0∨k=1∨k=2∨k=3∨k=4∨k=5∨k=6∨k=7∨k=8∨k=9:=by omega
 rcases this with rfl | rfl | rfl | rfl | rfl | rfl | rfl | rfl | rfl | rfl <;> refine ⟨⟨?_,?_⟩,?_,?_⟩ <;> omega
end
section
variable {sal:Nat→Sal} {o:Nat→Int} {L:Nat→Tw} {q:Nat} (ho:okOr q sal o)
include ho
end
section
variable {Y:Yd} (h:okYd Y) {p:Nat→Int} (hp:okPl Y.m Y.sti Y.m p) (hc:canL Y p Y.m)
include h hp hc
noncomputable def sS (Y:Yd) (p:Nat→Int) (k:Nat):Ss:=seS Y.sal (stF Y.sal Y.q) (plX Y p Y.m).l k
theorem sS_nn {k g:Nat} (hk:k≤Y.q) (hg:g<6):0≤((sS Y p k).l g).lo:=(se_nonneg (or_of h) (fun i hi=>pl_nn h hp Y.m (Nat.le_refl _) hc i hi) k hk).1 g hg
theorem gd_lt {i:Nat} (hi:i<Y.q):(Y.sal i).good.toNat<Y.g:=by
 have s:=h.l.b i hi
 have:=s.g0
 have:=s.g1
 have:=h.g.a
 omega
theorem ssA_bd {i k:Nat} (hi:i<Y.q) (hk:k≤Y.q):0≤ssA Y.sal (sS Y p k) i∧ssA Y.sal (sS Y p k) i≤(Y.sal i).most∧ssA Y.sal (sS Y p k) i≤((sS Y p k).l (Y.sal i).good.toNat).lo:=by
 have s:=h.l.b i hi
 have m0:=s.m0
 have:=sS_nn h hp hc hk (g:=(Y.sal i).good.toNat) (by have:=gd_lt h hp hc hi; have:=h.g.b; omega)
 unfold ssA
 simp only [Int.toNat_natCast]
 omega
end
end Go.Proofs.Ytbedomoilakcaaa

namespace Go.Proofs.Ytbedomoilakcaaa
open Go Go.Lg
attribute [local irreducible] bodyH funS
def eqN (n:Nat) (f:Nat→Int) (m:Nat) (g:Nat→Int):Prop:=n=m∧∀ i,i<n→f i=g i
def eqTw (n:Nat) (f:Nat→Tw) (m:Nat) (g:Nat→Tw):Prop:=n=m∧∀ i,i<n→(f i).lo=(g i).lo∧(f i).hi=(g i).hi
noncomputable def isG (n:Nat) (f:Nat→Int) (m:Nat) (g:Nat→Int):Prop:=funH Try.prog (ctrs []) noX (ictrs []) (oneL 0 (natH (fun k=>k≤n∧n=m∧∀ i,i<k→f i=g i) (fun k=>n - k) 0 (fun k=>mkF 26 [(0,iL n f),(1,iL m g),(5,i6 k)]) (fun _=>mkX []) fun _=>none)) noL 13 [iL n f,iL m g] (.dec (eqN n f m g) (Classical.propDecidable _))
noncomputable def isC:Ctr:=⟨13,fun args k=>match args with
 | [.lst 1 n f,.lst 1 m g]=>SV.lst 1 n f=iL n (iOf f)∧SV.lst 1 m g=iL m (iOf g)∧n≤1000∧k (.dec (eqN n (iOf f) m (iOf g)) (Classical.propDecidable _))
 | _=>False⟩
noncomputable def ssqG (n:Nat) (f:Nat→Tw) (m:Nat) (g:Nat→Tw):Prop:=funH Try.prog (ctrs []) noX (ictrs []) (oneL 0 (natH (fun k=>k≤n∧n=m∧∀ i,i<k→(f i).lo=(g i).lo∧(f i).hi=(g i).hi) (fun k=>n - k) 0 (fun k=>mkF 26 [(0,twL n f),(1,twL m g),(5,i6 k)]) (fun _=>mkX []) fun _=>none)) noL 20 [twL n f,twL m g] (.dec (eqTw n f m g) (Classical.propDecidable _))
noncomputable def ssqC:Ctr:=⟨20,fun args k=>match args with
 | [.lst 2 n f,.lst 2 m g]=>SV.lst 2 n f=twL n (ftOf f)∧SV.lst 2 m g=twL m (ftOf g)∧n≤1000∧k (.dec (eqTw n (ftOf f) m (ftOf g)) (Classical.propDecidable _))
 | _=>False⟩
noncomputable def lrL (Y:Yd) (n:Nat) (p:Nat→Int) (pre:List (Option SRow)) (b:Nat):Nat→Option HSpec :=
 oneL 0 (natH (fun k=>k≤n∧n=Y.m∧∀ i,i<k→okNb (Y.sti i).most (p i)) (fun k=>n - k) (b+1) (fun k=>mkF 45 [(1,iL n p),(2,.ptr b 0 0),(6,i6 k)]) (fun _=>mkX (pre ++ [vr 3 Y.sv])) fun _=>none)
noncomputable def lrX (Y:Yd) (p:Nat→Int) (pre:List (Option SRow)) (b:Nat):CX:=inl Try.prog (ctrs []) none (ictrs []) 34 (reL Y p pre b) noL noX
end Go.Proofs.Ytbedomoilakcaaa

set_option maxRecDepth 100000
namespace Go.Proofs.Ytbedomoilakcaaa
open Go Go.Lg
theorem isG_vc (n:Nat) (f:Nat→Int) (m:Nat) (g:Nat→Int):isG n f m g =
((¬(↑n:Int)=(↑m:Int)→(false=true↔eqN n f m g)∧True)∧(¬¬(↑n:Int)=(↑m:Int)→(∃ (z:Nat),(z≤n∧n=m∧∀ (i:Nat),i<z→f i=g i)∧n=n∧(∀ (i:Nat),i<n→rE ((i6 (f i)).den)∧True)∧m=m∧(∀ (i:Nat),i<m→rE ((i6 (g i)).den)∧True)∧(0:Int)=(↑z:Int)∧True)∧∀ (z:Nat),(z≤n∧n=m∧∀ (i:Nat),i<z→f i=g i)→((↑z:Int)<(↑n:Int)→(0:Int)≤(↑z:Int)∧(↑z:Int)<(↑n:Int)∧(0:Int)≤(↑z:Int)∧(↑z:Int)<(↑m:Int)∧(¬f (↑z:Int).toNat=g (↑z:Int).toNat→(false=true↔eqN n f m g)∧True)∧(¬¬f (↑z:Int).toNat=g (↑z:Int).toNat→rI ((↑z:Int)+(1:Int))∧∃ (z_1:Nat),(z_1≤n∧n=m∧∀ (i:Nat),i<z_1→f i=g i)∧n - z_1<n - z∧n=n∧(∀ (i:Nat),i<n→rE ((i6 (f i)).den)∧True)∧m=m∧(∀ (i:Nat),i<m→rE ((i6 (g i)).den)∧True)∧(↑z:Int)+(1:Int) =
(↑z_1:Int)∧True))∧(¬(↑z:Int)<(↑n:Int)→(rE true↔eqN n f m g)∧True))):=by kernel_rfl
theorem ssqG_vc (n:Nat) (f:Nat→Tw) (m:Nat) (g:Nat→Tw):ssqG n f m g =
((¬(↑n:Int)=(↑m:Int)→(false=true↔eqTw n f m g)∧True)∧(¬¬(↑n:Int)=(↑m:Int)→(∃ (z:Nat),(z≤n∧n=m∧∀ (i:Nat),i<z→(f i).1=(g i).1∧(f i).2=(g i).2)∧n=n∧(∀ (i:Nat),i<n→rE ((f i).sv.den)∧True∧True∧True)∧m=m∧(∀ (i:Nat),i<m→rE ((g i).sv.den)∧True∧True∧True)∧(0:Int)=(↑z:Int)∧True)∧∀ (z:Nat),(z≤n∧n=m∧∀ (i:Nat),i<z→(f i).1=(g i).1∧(f i).2=(g i).2)→((↑z:Int)<(↑n:Int)→(0:Int)≤(↑z:Int)∧(↑z:Int)<(↑n:Int)∧(0:Int)≤(↑z:Int)∧(↑z:Int)<(↑m:Int)∧(¬((f (↑z:Int).toNat).1=(g (↑z:Int).toNat).1∧(f (↑z:Int).toNat).2=(g (↑z:Int).toNat).2)→(false=true↔eqTw n f m g)∧True)∧(¬¬((f (↑z:Int).toNat).1=(g (↑z:Int).toNat).1∧(f (↑z:Int).toNat).2=(g (↑z:Int).toNat).2)→rI ((↑z:Int)+(1:Int))∧∃ (z_1:Nat),(z_1≤n∧n=m
∧ ∀ (i:Nat),i<z_1→(f i).1=(g i).1∧(f i).2=(g i).2)∧n - z_1<n - z∧n=n∧(∀ (i:Nat),i<n→rE ((f i).sv.den)∧True∧True∧True)∧m=m∧(∀ (i:Nat),i<m→rE ((g i).sv.den)∧True∧True∧True)∧(↑z:Int)+(1:Int)=(↑z_1:Int)∧True))∧(¬(↑z:Int)<(↑n:Int)→(rE true↔eqTw n f m g)∧True))):=by kernel_rfl
end Go.Proofs.Ytbedomoilakcaaa

set_option maxRecDepth 100000
namespace Go.Proofs.Ytbedomoilakcaaa
open Go Go.Lg
attribute [local irreducible] funS bodyH
theorem is_true {n:Nat} {f:Nat→Int} {m:Nat} {g:Nat→Int} (hn:n≤1000):isG n f m g:=by
 rw [isG_vc]
 simp only [rI,rE,tt3,tt4,tt5,tt13,tt14,rI,rE,tt3,tt4,tt5,tt13,tt14,and_true,true_and,Nat.zero_lt_one,and_self,implies_true,Int.toNat_natCast,Nat.zero_add,Nat.add_zero,Nat.one_mul,Nat.mul_one,Classical.not_not,iff_self,Bool.false_eq_true,imp_false,and_imp,true_implies,forall_const]
 refine ⟨fun h=>⟨fun x=>x.elim,fun x=>h (by rw [x.1])⟩,fun h=>⟨⟨0,⟨by omega,by omega,fun i hi=>by omega⟩,rfl⟩,fun z hz e hi=>⟨fun hl=>⟨by omega,hl,by omega,by omega,fun hne=>⟨fun x=>x.elim,fun x=>hne (x.2 z (by omega))⟩,fun he=>⟨by omega,z+1,⟨by omega,e,fun i hh=>?_⟩,by omega,by omega⟩⟩,fun hl=>⟨fun _=>⟨e,fun i hh=>hi i (by omega)⟩,fun _=>trivial⟩⟩⟩⟩
 by_cases ez:i=z
 ·subst ez; exact he
 ·exact hi i (by omega)
theorem is_ok:isC.Ok Try.prog:=by
 refine ⟨by kernel_rfl,fun x k hk=>?_⟩
 simp only [isC] at hk
 split at hk
 ·rename_i n f m g
  obtain ⟨hf,hg,hn,hk⟩:=hk
  have hh:=is_true (f:=iOf f) (m:=m) (g:=iOf g) hn
  unfold isG at hh
  rw [← hf,← hg] at hh
  exact ⟨_,Does.plain (funH_does nilS_cs nilS_x nilS_ic mixed hh) trivial,hk⟩
 ·exact hk.elim
theorem ssq_true {n:Nat} {f:Nat→Tw} {m:Nat} {g:Nat→Tw} (hn:n≤1000):ssqG n f m g:=by
 rw [ssqG_vc]
 simp only [rI,rE,tt3,tt4,tt5,tt13,tt14,rI,rE,tt3,tt4,tt5,tt13,tt14,and_true,true_and,Nat.zero_lt_one,and_self,implies_true,Int.toNat_natCast,Nat.zero_add,Nat.add_zero,Nat.one_mul,Nat.mul_one,Classical.not_not,iff_self,Bool.false_eq_true,imp_false,and_imp,true_implies,forall_const]
 refine ⟨fun h=>⟨fun x=>x.elim,fun x=>h (by rw [x.1])⟩,fun h=>⟨⟨0,⟨by omega,by omega,fun i hi=>by omega⟩,rfl⟩,fun z hz e hi=>⟨fun hl=>⟨by omega,hl,by omega,by omega,fun hne=>⟨fun x=>x.elim,fun x=>hne (x.2 z (by omega))⟩,fun he he2=>⟨by omega,z+1,⟨by omega,e,fun i hh=>?_⟩,by omega,by omega⟩⟩,fun hl=>⟨fun _=>⟨e,fun i hh=>hi i (by omega)⟩,fun _=>trivial⟩⟩⟩⟩
 by_cases ez:i=z
 ·subst ez; exact ⟨he,he2⟩
 ·exact hi i (by omega)
theorem ssq_ok:ssqC.Ok Try.prog:=by
 refine ⟨by kernel_rfl,fun x k hk=>?_⟩
 simp only [ssqC] at hk
 split at hk
 ·rename_i n f m g
  obtain ⟨hf,hg,hn,hk⟩:=hk
  have hh:=ssq_true (f:=ftOf f) (m:=m) (g:=ftOf g) hn
  unfold ssqG at hh
  rw [← hf,← hg] at hh
  exact ⟨_,Does.plain (funH_does nilS_cs nilS_x nilS_ic mixed hh) trivial,hk⟩
 ·exact hk.elim
end Go.Proofs.Ytbedomoilakcaaa

set_option maxRecDepth 100000
namespace Go.Proofs.Ytbedomoilakcaaa
open Go Go.Lg
attribute [local irreducible] funS bodyH
theorem n10:((1:Int)=0)=False:=eq_false (by decide)
theorem n20:((2:Int)=0)=False:=eq_false (by decide)
theorem n100:((10:Int)=0)=False:=eq_false (by decide)
theorem n00:((0:Int)=0)=True:=eq_true rfl
theorem er1 {Y:Yd} {n:Nat} {p:Nat→Int} (h:¬ okYd Y):0=lfN Y n p∧1=erP Y n p:=by
 have e:erP Y n p=1:=by rw [erP,if_neg h]
 exact ⟨by rw [lfN,if_neg (by omega)],e.symm⟩
theorem er2 {Y:Yd} {n:Nat} {p:Nat→Int} (h:okYd Y) (hp:¬ okPl Y.m Y.sti n p):0=lfN Y n p∧2=erP Y n p:=by
 have e:erP Y n p=2:=by rw [erP,if_pos h,if_neg hp]
 exact ⟨by rw [lfN,if_neg (by omega)],e.symm⟩
theorem er3 {Y:Yd} {n:Nat} {p:Nat→Int} (h:okYd Y) (hp:okPl Y.m Y.sti n p) (hc:¬ canL Y p Y.m):0=lfN Y n p∧10=erP Y n p:=by
 have e:erP Y n p=10:=by rw [erP,if_pos h,if_pos hp,if_neg hc]
 exact ⟨by rw [lfN,if_neg (by omega)],e.symm⟩
theorem er0 {Y:Yd} {n:Nat} {p:Nat→Int} (h:okYd Y) (hp:okPl Y.m Y.sti n p) (hc:canL Y p Y.m):Y.g=lfN Y n p∧0=erP Y n p:=by
 have e:erP Y n p=0:=by rw [erP,if_pos h,if_pos hp,if_pos hc]
 exact ⟨by rw [lfN,if_pos e],e.symm⟩
section
variable {Y:Yd} (h:okYd Y) {p:Nat→Int} (hp:okPl Y.m Y.sti Y.m p)
include h hp
theorem no_can {i k:Nat} (hi:i<Y.m) (hk:(k:Int)<p i) (hl:(btF (plX Y p i).l (Y.sti i) k (Y.sti i).inn.toNat).lo<(Y.sti i).takes):¬ canL Y p Y.m:=fun hc=>by
 rw [bt_inn h hp hi] at hl
 have s:=(h.s.b i hi).2
 have:=can_mono (t:=(k:Int)+1) (by have:=s.t0; omega) (hc i hi) (by omega)
 unfold canP at this
 rw [Int.add_mul,Int.one_mul] at this
 omega
theorem can_next {i k:Nat} (hi:i<Y.m) (hl:¬ (btF (plX Y p i).l (Y.sti i) k (Y.sti i).inn.toNat).lo<(Y.sti i).takes):((k:Int)+1)*(Y.sti i).takes≤((plX Y p i).l (Y.sti i).inn.toNat).lo:=by
 rw [bt_inn h hp hi] at hl
 rw [Int.add_mul,Int.one_mul]
 omega
theorem bm_bd {i k j:Nat} (hi:i<Y.m) (hk:k≤9) (hj:j<Y.g):(-700000000≤(bmF (plX Y p i).l (Y.sti i) k j j).lo+((Y.sti i).out j).lo∧(bmF (plX Y p i).l (Y.sti i) k j j).lo+((Y.sti i).out j).lo≤700000000)∧(-700000000≤(bmF (plX Y p i).l (Y.sti i) k j j).hi+((Y.sti i).out j).hi∧(bmF (plX Y p i).l (Y.sti i) k j j).hi+((Y.sti i).out j).hi≤700000000):=by
 have b:=bt_bd h hp hi hk hj
 have s:=(h.s.b i hi).2
 obtain ⟨o1,o2,o3⟩:=(s.o j (by have:=s.n; omega)).2
 have t0:=s.t0
 have t1:=s.t1
 have tk:0≤tkI (Y.sti i) j∧tkI (Y.sti i) j≤1048576:=by unfold tkI; split <;> omega
 simp only [bmF,Nat.lt_irrefl,if_false]
 omega
omit hp in
theorem bm_in {i k j:Nat} (hi:i<Y.m):(if j=(Y.sti i).inn.toNat then (btF (plX Y p i).l (Y.sti i) k (Y.sti i).inn.toNat).lo - (Y.sti i).takes else (btF (plX Y p i).l (Y.sti i) k j).lo)=(btF (plX Y p i).l (Y.sti i) k j).lo - tkI (Y.sti i) j∧(if j=(Y.sti i).inn.toNat then (btF (plX Y p i).l (Y.sti i) k (Y.sti i).inn.toNat).hi - (Y.sti i).takes else (btF (plX Y p i).l (Y.sti i) k j).hi)=(btF (plX Y p i).l (Y.sti i) k j).hi - tkI (Y.sti i) j:=by
 have s:=(h.s.b i hi).2
 have i0:=s.i0
 by_cases e:j=(Y.sti i).inn.toNat
 ·rw [if_pos e,if_pos e,tkI,if_pos (by omega),← e]
  exact ⟨rfl,rfl⟩
 ·rw [if_neg e,if_neg e,tkI,if_neg (by omega)]
  exact ⟨by omega,by omega⟩
end
theorem bm_st (c:Nat→Tw) (s:Sti) (n k i:Nat):(if i=k then (bmF c s n k k).lo+(s.out k).lo else (bmF c s n k i).lo)=(bmF c s n (k+1) i).lo∧(if i=k then (bmF c s n k k).hi+(s.out k).hi else (bmF c s n k i).hi)=(bmF c s n (k+1) i).hi:=by
 rw [bmF_step]
 by_cases e:i=k
 ·subst e; simp only [if_true,and_self]
 ·simp only [if_neg e,and_self]
end Go.Proofs.Ytbedomoilakcaaa
