import Derived.Test.YtlhdlkplgafolaaJhJhVJitJi
import Derived.Test.YtlhdlkplgafolaaJkJkVJktJlJmJmVJntJnJo
import Derived.Test.YtlhdlkplgafolaaAwjIeIeVIf
import Derived.Test.YtlhdlkplgafolaaJaJaVJbTJb
set_option linter.unusedVariables false
set_option linter.unusedSimpArgs false
namespace Go.Proofs.Ytlhdlkplgafolaa
open Go Go.Lg
theorem sumJ_congr2 {f g:Nat→Int}:∀ {m:Nat},(∀ i,i<m→f i=g i)→sumJ f m=sumJ g m
 | 0,_=>rfl
 | m+1,h=>by
  show sumJ f m+f m=sumJ g m+g m
  rw [sumJ_congr2 (m:=m) fun i hi=>h i (by omega),h m (by omega)]
theorem sumJ_swap {u v:Nat→Int} {i:Nat} (h1:u i=v (i+1)) (h2:u (i+1)=v i) (h3:∀ k,k≠i→k≠i+1→u k=v k):∀ d,sumJ u (i+2+d)=sumJ v (i+2+d)
 | 0=>by
  have:=sumJ_congr2 (f:=u) (g:=v) (m:=i) fun k hk=>h3 k (by omega) (by omega)
  show sumJ u i+u i+u (i+1)=sumJ v i+v i+v (i+1)
  omega
 | d+1=>by
  show sumJ u (i+2+d)+u (i+2+d)=sumJ v (i+2+d)+v (i+2+d)
  rw [sumJ_swap h1 h2 h3 d,h3 _ (by omega) (by omega)]
theorem swp_sum {f:Nat→Int} {h:Int→Int} {j q:Nat} (hj:j+1<q):sumJ (fun k=>h (swp f (j+1) k)) q=sumJ (fun k=>h (f k)) q:=by
 obtain ⟨d,rfl⟩:∃ d,q=j+2+d:=⟨q - (j+2),by omega⟩
 refine sumJ_swap (i:=j) ?_ ?_ (fun k h1 h2=>?_) d
 ·simp [swp]
 ·simp [swp]
 ·simp only [swp]
  rw [if_neg (by omega),if_neg h2]
theorem inF_sum {sal:Nat→Sal} {h:Int→Int} {q:Nat}:∀ {j:Nat} {f:Nat→Int},j<q→sumJ (fun k=>h (inF sal f j k)) q=sumJ (fun k=>h (f k)) q
 | 0,f,_=>rfl
 | j+1,f,hj=>by
  simp only [inF]
  split
  ·rw [inF_sum (by omega),swp_sum hj]
  ·rfl
theorem stF_sum {sal:Nat→Sal} {h:Int→Int} {q:Nat}:∀ i,i≤q→sumJ (fun k=>h (stF sal i k)) q=sumJ (fun k=>h (k:Int)) q
 | 0,_=>rfl
 | i+1,hi=>by
  simp only [stF]
  rw [inF_sum (by omega),stF_sum i (by omega)]
def bef (sal:Nat→Sal) (a b:Int):Prop:=prS sal b<prS sal a∨(prS sal b=prS sal a∧a<b)
theorem bef_trans {sal:Nat→Sal} {a b c:Int} (h:bef sal a b) (k:bef sal b c):bef sal a c:=by
 unfold bef at *
 omega
theorem inF_above {sal:Nat→Sal}:∀ {j:Nat} {f:Nat→Int} {k:Nat},j<k→inF sal f j k=f k
 | 0,f,k,_=>rfl
 | j+1,f,k,h=>by
  simp only [inF]
  split
  ·rw [inF_above (by omega)]
   simp only [swp]
   rw [if_neg (by omega),if_neg (by omega)]
  ·rfl
theorem ins {sal:Nat→Sal} {i:Nat} {x:Int}:∀ (j:Nat) (f:Nat→Int),j≤i→f j=x→(∀ k,k+1<j→bef sal (f k) (f (k+1)))→(∀ k,j<k→k+1≤i→bef sal (f k) (f (k+1)))→(1≤j→j+1≤i→bef sal (f (j - 1)) (f (j+1)))→(j+1≤i→bef sal x (f (j+1)))→(∀ k,k≤i→k≠j→f k<x)→∀ k,k+1≤i→bef sal (inF sal f j k) (inF sal f j (k+1))
 | 0,f,hj,hx,A,B,C,D,E,k,hk=>by
  simp only [inF]
  by_cases e:k=0
  ·subst e; rw [hx]; exact D hk
  ·exact B k (by omega) hk
 | j+1,f,hj,hx,A,B,C,D,E,k,hk=>by
  simp only [inF]
  split
  ·rename_i hlt
   have g0:swp f (j+1) j=x:=by simp [swp,hx]
   have g1:swp f (j+1) (j+1)=f j:=by simp [swp]
   have g2:∀ k,k≠j→k≠j+1→swp f (j+1) k=f k:=fun k h1 h2=>by simp only [swp]; rw [if_neg (by omega),if_neg h2]
   refine ins j (swp f (j+1)) (by omega) g0 (fun k hk=>?_) (fun k h1 h2=>?_) (fun h1 h2=>?_) (fun h1=>?_) (fun k h1 h2=>?_) k hk
   ·rw [g2 k (by omega) (by omega),g2 (k+1) (by omega) (by omega)]; exact A k (by omega)
   ·by_cases e:k=j+1
    ·subst e; rw [g1,g2 _ (by omega) (by omega)]; exact C (by omega) h2
    ·rw [g2 k (by omega) e,g2 (k+1) (by omega) (by omega)]; exact B k (by omega) h2
   ·rw [g1,g2 _ (by omega) (by omega)]
    have:=A (j - 1) (by omega)
    rw [show j - 1+1=j by omega] at this
    exact this
   ·rw [g1]
    rw [hx] at hlt
    exact .inl hlt
   ·by_cases e:k=j+1
    ·subst e; rw [g1]; exact E j (by omega) (by omega)
    ·rw [g2 k h2 e]; exact E k h1 e
  ·rename_i hlt
   rw [hx] at hlt
   by_cases e:k<j
   ·exact A k (by omega)
   ·by_cases e2:k=j
    ·subst e2
     rw [hx]
     have:=E k (by omega) (by omega)
     unfold ltS at hlt
     unfold bef
     omega
    ·by_cases e3:k=j+1
     ·subst e3; rw [hx]; exact D hk
     ·exact B k (by omega) hk
theorem stF_sorted (sal:Nat→Sal):∀ i,(∀ k,k+1<i→bef sal (stF sal i k) (stF sal i (k+1)))∧(∀ k,k<i→0≤stF sal i k∧stF sal i k<i)∧∀ k,i≤k→stF sal i k=k
 | 0=>⟨fun k h=>by omega,fun k h=>by omega,fun k _=>rfl⟩
 | i+1=>by
  obtain ⟨h1,h2,h3⟩:=stF_sorted sal i
  refine ⟨fun k hk=>?_,fun k hk=>?_,fun k hk=>?_⟩
  ·simp only [stF]
   refine ins (i:=i) (x:=(i:Int)) i _ (Nat.le_refl _) (h3 i (Nat.le_refl _)) h1 (fun k a b=>by omega) (fun a b=>by omega) (fun a=>by omega) (fun k a b=>?_) k (by omega)
   exact (h2 k (by omega)).2
  ·simp only [stF]
   have:=inF_bd (P:=fun x=>0≤x∧x<((i+1:Nat):Int)) (sal:=sal) (q:=i+1) (j:=i) (f:=stF sal i) (fun k hk=>by
    by_cases e:k=i
    ·subst e; rw [h3 k (Nat.le_refl _)]; omega
    ·have:=h2 k (by omega); omega) (by omega) k hk
   exact this
  ·simp only [stF]
   rw [inF_above (by omega),h3 k (by omega)]
theorem ord_bef (sal:Nat→Sal) (q:Nat) {a:Nat}:∀ {d:Nat},a+1+d<q→bef sal (stF sal q a) (stF sal q (a+1+d))
 | 0,h=>(stF_sorted sal q).1 a h
 | d+1,h=>bef_trans (ord_bef sal q (by omega:a+1+d<q)) ((stF_sorted sal q).1 (a+1+d) h)
theorem ord_lt (sal:Nat→Sal) {q a b:Nat} (h:a<b) (hb:b<q):bef sal (stF sal q a) (stF sal q b):=by
 have:=ord_bef sal q (a:=a) (d:=b - (a+1)) (by omega)
 rwa [show a+1+(b - (a+1))=b by omega] at this
theorem ord_inj (sal:Nat→Sal) {q a b:Nat} (ha:a<q) (hb:b<q) (h:stF sal q a=stF sal q b):a=b:=by
 rcases Nat.lt_trichotomy a b with e | e | e
 ·have:=ord_lt sal e hb
  rw [h] at this
  unfold bef at this
  omega
 ·exact e
 ·have:=ord_lt sal e ha
  rw [h] at this
  unfold bef at this
  omega
theorem sumJ_zero {f:Nat→Int}:∀ {m:Nat},(∀ i,i<m→f i=0)→sumJ f m=0
 | 0,_=>rfl
 | m+1,h=>by
  show sumJ f m+f m=0
  rw [sumJ_zero (m:=m) fun i hi=>h i (by omega),h m (by omega)]
  rfl
theorem sumJ_one {f:Nat→Int} {j:Nat}:∀ {m:Nat},j<m→(∀ i,i<m→i≠j→f i=0)→sumJ f m=f j
 | 0,h,_=>by omega
 | m+1,h,h2=>by
  show sumJ f m+f m=f j
  by_cases e:j=m
  ·subst e
   rw [sumJ_zero fun i hi=>h2 i (by omega) (by omega)]
   omega
  ·rw [sumJ_one (by omega:j<m) fun i hi hj=>h2 i (by omega) hj,h2 m (by omega) (by omega)]
   omega
theorem ord_sur (sal:Nat→Sal) {q j:Nat} (hj:j<q):∃ a,a<q∧stF sal q a=j:=by
 refine Classical.byContradiction fun hn=>?_
 have h:=stF_sum (sal:=sal) (h:=fun x=>if x=j then 1 else 0) q (Nat.le_refl _)
 rw [sumJ_zero (m:=q) fun i hi=>if_neg fun e=>hn ⟨i,hi,e⟩] at h
 rw [sumJ_one hj fun i hi hne=>if_neg (by omega),if_pos rfl] at h
 omega
end Go.Proofs.Ytlhdlkplgafolaa

namespace Go.Proofs.Ytlhdlkplgafolaa
open Go Go.Lg
attribute [local irreducible] bodyH funS
open Classical in
noncomputable def tkI (s:Sti) (k:Nat):Int:=if (k:Int)=s.inn then s.takes else 0
noncomputable def btF (c:Nat→Tw) (s:Sti) (n:Nat):Nat→Tw:=fun k=>⟨(c k).lo+n*((s.out k).lo - tkI s k),(c k).hi+n*((s.out k).hi - tkI s k)⟩
noncomputable def bmF (c:Nat→Tw) (s:Sti) (n k:Nat):Nat→Tw:=fun j=>if j<k then btF c s (n+1) j else ⟨(btF c s n j).lo - tkI s j,(btF c s n j).hi - tkI s j⟩
structure lfA (Y:Yd) (p:Nat→Int) (x:Nat × Nat):Prop where
 a:x.1<Y.m
 b:(x.2:Int)≤p x.1
 c:x.2*(Y.sti x.1).takes≤((plX Y p x.1).l (Y.sti x.1).inn.toNat).lo
structure lfB (Y:Yd) (p:Nat→Int) (x:Nat × Nat × Nat):Prop where
 a:x.1<Y.m
 b:(x.2.1:Int)<p x.1
 c:(x.2.1+1)*(Y.sti x.1).takes≤((plX Y p x.1).l (Y.sti x.1).inn.toNat).lo
 d:x.2.2≤Y.g
end Go.Proofs.Ytlhdlkplgafolaa

namespace Go.Proofs.Ytlhdlkplgafolaa
open Go Go.Lg
attribute [local irreducible] bodyH funS
structure Tx where
 i:Nat
 k:Nat
 j:Nat
 f:Nat→Int
 z:Nat
 L:Prop
def shT (Y:Yd) (p:Nat→Int) (i k:Nat):Prop:=¬ (canL Y p i∧(k:Int)*(Y.sti i).takes≤((plX Y p i).l (Y.sti i).inn.toNat).lo)
def wiB (g:Nat) (c:Nat→Tw) (f:Nat→Int):Prop:=∀ j,j<g→(c j).lo≤f j∧f j≤(c j).hi
structure iv0 (Y:Yd) (p:Nat→Int) (x:Tx):Prop where
 a:x.i≤Y.m
 b:wiB Y.g (plX Y p x.i).l x.f
 c:x.z≤48*x.i
 d:x.L→¬ canL Y p x.i
structure iv2 (Y:Yd) (p:Nat→Int) (x:Tx):Prop where
 a:x.i<Y.m
 k:(x.k:Int)≤p x.i
 b:wiB Y.g (btF (plX Y p x.i).l (Y.sti x.i) x.k) x.f
 c:x.z≤48*x.i+6*x.k
 d:x.L→shT Y p x.i x.k
structure iv4 (Y:Yd) (p:Nat→Int) (x:Tx):Prop where
 a:x.i<Y.m
 k:(x.k:Int)<p x.i
 j:x.j≤Y.g
 b:wiB Y.g (bmF (plX Y p x.i).l (Y.sti x.i) x.k x.j) x.f
 c:x.z≤48*x.i+6*x.k+x.j
 d:x.L→shT Y p x.i (x.k+1)
noncomputable def lsF (Y:Yd) (p:Nat→Int) (i j:Nat):Int:=((plX Y p Y.m).l j).lo - sumJ (fun k=>if (Y.sal k).good.toNat=j then (inS Y p).s k else 0) i
noncomputable def lhF (Y:Yd) (p:Nat→Int) (i j:Nat):Tw:=⟨lsF Y p i j,((plX Y p Y.m).l j).hi - sumJ (fun k=>if (Y.sal k).good.toNat=j then (inS Y p).s k else 0) i⟩
structure ivS (Y:Yd) (p:Nat→Int) (q:Nat) (i:Nat) (x:Nat × (Nat→Int)):Prop where
 a:x.1≤q
 b:wiB Y.g (lhF Y p i) x.2
end Go.Proofs.Ytlhdlkplgafolaa

set_option linter.unusedSectionVars false
namespace Go.Proofs.Ytlhdlkplgafolaa
open Go Go.Lg
section
variable {Y:Yd} (h:okYd Y) {p:Nat→Int} (hp:okPl Y.m Y.sti Y.m p)
include h hp
theorem pl_nn:∀ k,k≤Y.m→canL Y p k→∀ i,i<6→0≤((plX Y p k).l i).lo
 | 0,_,_,i,hi=>by
  show 0≤(if i<Y.g then (⟨Y.st i,Y.st i⟩:Tw) else ⟨0,0⟩).lo
  split
  ·rename_i hg; exact (h.g.c i hg).1
  ·exact Int.le_refl 0
 | k+1,hk,hc,i,hi=>by
  have h1:=pl_nn k (by omega) (fun i hi=>hc i (by omega)) i hi
  have c:=hc k (by omega)
  have s:=(h.s.b k (by omega)).2
  have b:=hp.h k (by omega)
  unfold okNb at b
  unfold canP at c
  show 0≤(0+((plX Y p k).l i).lo+(tkG (Y.sti k) (p k) i).lo)+(mdG (Y.sti k) (p k) (Y.sti k).on i).lo
  have hm:0≤(mdG (Y.sti k) (p k) (Y.sti k).on i).lo:=by
   unfold mdG
   split
   ·rename_i hl
    exact Int.mul_nonneg b.1 (s.o i hl).2.1
   ·exact Int.le_refl 0
  unfold tkG
  split
  ·rename_i e
   have e':(Y.sti k).inn.toNat=i:=by omega
   rw [e'] at c
   simp only [Int.zero_sub,Int.neg_mul]
   omega
  ·simp only
   omega
end
section
variable {sal:Nat→Sal} {o:Nat→Int} {L:Nat→Tw} {q:Nat} (ho:okOr q sal o)
include ho
theorem se_fin (inj:∀ a b,a<q→b<q→o a=o b→a=b):∀ k,k≤q→∀ a,a<k→(seS sal o L k).s (o a).toNat=ssA sal (seS sal o L a) (o a)
 | 0,_,a,ha=>by omega
 | k+1,hk,a,ha=>by
  simp only [seS,ssN]
  by_cases e:a=k
  ·subst e; rw [if_pos rfl]
  ·have o1:=ho.b a (by omega)
   have o2:=ho.b k (by omega)
   rw [if_neg fun e2=>e (inj a k (by omega) (by omega) (by omega))]
   exact se_fin inj k (by omega) a (by omega)
omit ho in
theorem se_c:∀ k,(seS sal o L k).c=sumJ (fun a=>ssA sal (seS sal o L a) (o a)*(sal (o a).toNat).price) k
 | 0=>rfl
 | k+1=>by
  show (seS sal o L k).c+_=_+_
  rw [se_c k]
omit ho in
theorem se_l (g:Nat):∀ k,((seS sal o L k).l g).lo=(L g).lo - sumJ (fun a=>if (sal (o a).toNat).good.toNat=g then ssA sal (seS sal o L a) (o a) else 0) k
 | 0=>by show (L g).lo=(L g).lo - 0; omega
 | k+1=>by
  show (if g=(sal (o k).toNat).good.toNat then (⟨((seS sal o L k).l g).lo - ssA sal (seS sal o L k) (o k),((seS sal o L k).l g).hi⟩:Tw) else (seS sal o L k).l g).lo=(L g).lo - (sumJ _ k+(if (sal (o k).toNat).good.toNat=g then ssA sal (seS sal o L k) (o k) else 0))
  have ih:=se_l g k
  by_cases e:g=(sal (o k).toNat).good.toNat
  ·rw [if_pos e,if_pos (Eq.symm e)]
   simp only
   omega
  ·rw [if_neg e,if_neg fun x=>e x.symm]
   omega
end
section
variable {Y:Yd} (h:okYd Y) {p:Nat→Int} (hp:okPl Y.m Y.sti Y.m p) (hc:canL Y p Y.m)
include h hp hc
noncomputable def sS (Y:Yd) (p:Nat→Int) (k:Nat):Ss:=seS Y.sal (stF Y.sal Y.q) (plX Y p Y.m).l k
theorem sS_nn {k g:Nat} (hk:k≤Y.q) (hg:g<6):0≤((sS Y p k).l g).lo:=(se_nonneg (or_of h) (fun i hi=>pl_nn h hp Y.m (Nat.le_refl _) hc i hi) k hk).1 g hg
theorem gd_lt {i:Nat} (hi:i<Y.q):(Y.sal i).good.toNat<Y.g:=by
 have s:=h.l.b i hi
 have:=s.g0
 have:=s.g1
 have:=h.g.a
 omega
theorem ord_eq {i:Nat} (hi:i<Y.q):∃ a,a<Y.q∧stF Y.sal Y.q a=i∧(inS Y p).s i=ssA Y.sal (sS Y p a) i:=by
 obtain ⟨a,ha,e⟩:=ord_sur Y.sal hi
 refine ⟨a,ha,e,?_⟩
 have:=se_fin (L:=(plX Y p Y.m).l) (or_of h) (fun a b x y z=>ord_inj Y.sal x y z) Y.q (Nat.le_refl _) a ha
 rw [e] at this
 exact this
theorem ssA_bd {i k:Nat} (hi:i<Y.q) (hk:k≤Y.q):0≤ssA Y.sal (sS Y p k) i∧ssA Y.sal (sS Y p k) i≤(Y.sal i).most∧ssA Y.sal (sS Y p k) i≤((sS Y p k).l (Y.sal i).good.toNat).lo:=by
 have s:=h.l.b i hi
 have m0:=s.m0
 have:=sS_nn h hp hc hk (g:=(Y.sal i).good.toNat) (by have:=gd_lt h hp hc hi; have:=h.g.b; omega)
 unfold ssA
 simp only [Int.toNat_natCast]
 omega
theorem so_bd {i:Nat} (hi:i<Y.q):0≤(inS Y p).s i∧(inS Y p).s i≤(Y.sal i).most:=by
 obtain ⟨a,ha,-,e⟩:=ord_eq h hp hc hi
 rw [e]
 have:=ssA_bd h hp hc hi (k:=a) (by omega)
 exact ⟨this.1,this.2.1⟩
theorem in_c:(inS Y p).c=sumJ (fun k=>(inS Y p).s k*(Y.sal k).price) Y.q:=by
 have e:=se_c (sal:=Y.sal) (o:=stF Y.sal Y.q) (L:=(plX Y p Y.m).l) Y.q
 have e2:=stF_sum (sal:=Y.sal) (h:=fun x=>(inS Y p).s x.toNat*(Y.sal x.toNat).price) Y.q (Nat.le_refl _)
 simp only [Int.toNat_natCast] at e2
 rw [← e2]
 refine e.trans (sumJ_congr2 fun a ha=>?_)
 have:=se_fin (L:=(plX Y p Y.m).l) (or_of h) (fun a b x y z=>ord_inj Y.sal x y z) Y.q (Nat.le_refl _) a ha
 show _=(seS Y.sal (stF Y.sal Y.q) (plX Y p Y.m).l Y.q).s _*_
 rw [this]
theorem ls_eq (g:Nat):lsF Y p Y.q g=((sS Y p Y.q).l g).lo:=by
 unfold sS
 rw [se_l g Y.q]
 unfold lsF
 have e2:=stF_sum (sal:=Y.sal) (h:=fun x=>if (Y.sal x.toNat).good.toNat=g then (inS Y p).s x.toNat else 0) Y.q (Nat.le_refl _)
 simp only [Int.toNat_natCast] at e2
 rw [← e2]
 congr 1
 refine sumJ_congr2 fun a ha=>?_
 have:=se_fin (L:=(plX Y p Y.m).l) (or_of h) (fun a b x y z=>ord_inj Y.sal x y z) Y.q (Nat.le_refl _) a ha
 show (if _ then (seS Y.sal (stF Y.sal Y.q) (plX Y p Y.m).l Y.q).s _ else 0)=_
 rw [this]
theorem ls_nn {g:Nat} (hg:g<Y.g):0≤lsF Y p Y.q g:=by
 rw [ls_eq h hp hc]
 exact sS_nn h hp hc (Nat.le_refl _) (by have:=h.g.b; omega)
theorem sS_zero {g:Nat} (hg:g<6) {a:Nat} (ha:((sS Y p a).l g).lo=0):∀ d,a+d≤Y.q→((sS Y p (a+d)).l g).lo=0
 | 0,_=>ha
 | d+1,hd=>by
  have ih:=sS_zero hg ha d (by omega)
  have nn:=sS_nn h hp hc (k:=a+(d+1)) hd hg
  have ob:=(or_of h).b (a+d) (by omega)
  have hi:(stF Y.sal Y.q (a+d)).toNat<Y.q:=by omega
  have av:=ssA_bd h hp hc hi (k:=a+d) (by omega)
  have ec:(((stF Y.sal Y.q (a+d)).toNat:Nat):Int)=stF Y.sal Y.q (a+d):=by omega
  rw [ec] at av
  have el:((sS Y p (a+(d+1))).l g).lo=if g=(Y.sal (stF Y.sal Y.q (a+d)).toNat).good.toNat then ((sS Y p (a+d)).l g).lo - ssA Y.sal (sS Y p (a+d)) (stF Y.sal Y.q (a+d)) else ((sS Y p (a+d)).l g).lo:=by
   show (if g=(Y.sal (stF Y.sal Y.q (a+d)).toNat).good.toNat then (⟨((sS Y p (a+d)).l g).lo - ssA Y.sal (sS Y p (a+d)) (stF Y.sal Y.q (a+d)),((sS Y p (a+d)).l g).hi⟩:Tw) else (sS Y p (a+d)).l g).lo=_
   split <;> rfl
  rw [el] at nn ⊢
  split at nn <;> rename_i e
  ·rw [if_pos e]; omega
  ·rw [if_neg e]; exact ih
theorem sell_out {i:Nat} (hi:i<Y.q) (hl:(inS Y p).s i<(Y.sal i).most):∃ a,a<Y.q∧stF Y.sal Y.q a=i∧∀ b,a<b→b≤Y.q→((sS Y p b).l (Y.sal i).good.toNat).lo=0:=by
 obtain ⟨a,ha,e,es⟩:=ord_eq h hp hc hi
 have hg:(Y.sal i).good.toNat<6:=by have:=gd_lt h hp hc hi; have:=h.g.b; omega
 refine ⟨a,ha,e,fun b hab hb=>?_⟩
 have z:((sS Y p (a+1)).l (Y.sal i).good.toNat).lo=0:=by
  show (if (Y.sal i).good.toNat=(Y.sal (stF Y.sal Y.q a).toNat).good.toNat then (⟨((sS Y p a).l (Y.sal i).good.toNat).lo - ssA Y.sal (sS Y p a) (stF Y.sal Y.q a),((sS Y p a).l (Y.sal i).good.toNat).hi⟩:Tw) else (sS Y p a).l (Y.sal i).good.toNat).lo=0
  rw [e,Int.toNat_natCast,if_pos rfl]
  simp only
  rw [es] at hl
  unfold ssA at hl ⊢
  simp only [Int.toNat_natCast] at hl ⊢
  omega
 have:=sS_zero h hp hc hg z (b - (a+1)) (by omega)
 rwa [show a+1+(b - (a+1))=b by omega] at this
theorem more_no {i:Nat} (hi:i<Y.q) (hl:(inS Y p).s i<(Y.sal i).most):lsF Y p Y.q (Y.sal i).good.toNat=0:=by
 obtain ⟨a,ha,-,hz⟩:=sell_out h hp hc hi hl
 rw [ls_eq h hp hc]
 exact hz Y.q ha (Nat.le_refl _)
theorem price_no {i k:Nat} (hi:i<Y.q) (hk:k<Y.q) (hg:(Y.sal i).good=(Y.sal k).good) (hpr:(Y.sal k).price<(Y.sal i).price) (hl:(inS Y p).s i<(Y.sal i).most):(inS Y p).s k≤0:=by
 obtain ⟨a,ha,e,hz⟩:=sell_out h hp hc hi hl
 obtain ⟨b,hb,e2,es⟩:=ord_eq h hp hc hk
 have hab:a<b:=by
  rcases Nat.lt_trichotomy a b with x | x | x
  ·exact x
  ·subst x
   have:(i:Int)=k:=by rw [← e,e2]
   have:i=k:=by omega
   subst this; omega
  ·have o:=ord_lt Y.sal x ha
   rw [e,e2] at o
   unfold bef prS at o
   simp only [Int.toNat_natCast] at o
   omega
 have z:=hz b hab (by omega)
 have:=(ssA_bd h hp hc hk (k:=b) (by omega)).2.2
 rw [es]
 rw [hg] at z
 omega
end
end Go.Proofs.Ytlhdlkplgafolaa

namespace Go.Proofs.Ytlhdlkplgafolaa
open Go Go.Lg
attribute [local irreducible] bodyH funS
end Go.Proofs.Ytlhdlkplgafolaa

set_option maxRecDepth 100000
namespace Go.Proofs.Ytlhdlkplgafolaa
open Go Go.Lg
end Go.Proofs.Ytlhdlkplgafolaa

set_option maxRecDepth 100000
namespace Go.Proofs.Ytlhdlkplgafolaa
open Go Go.Lg
attribute [local irreducible] funS bodyH
end Go.Proofs.Ytlhdlkplgafolaa

set_option maxRecDepth 100000
namespace Go.Proofs.Ytlhdlkplgafolaa
open Go Go.Lg
attribute [local irreducible] funS bodyH
section
variable {Y:Yd} (h:okYd Y) {p:Nat→Int} (hp:okPl Y.m Y.sti Y.m p)
include h hp
end
end Go.Proofs.Ytlhdlkplgafolaa

set_option linter.unusedSectionVars false
namespace Go.Proofs.Ytlhdlkplgafolaa
open Go Go.Lg
section
variable {Y:Yd} (h:okYd Y) {p:Nat→Int} (hp:okPl Y.m Y.sti Y.m p)
include h hp
end
section
variable {Y:Yd} (h:okYd Y) {p:Nat→Int} (hp:okPl Y.m Y.sti Y.m p) (hc:canL Y p Y.m)
include h hp hc
end
end Go.Proofs.Ytlhdlkplgafolaa

set_option linter.unusedSectionVars false
namespace Go.Proofs.Ytlhdlkplgafolaa
open Go Go.Lg
theorem sumJ_add {f g:Nat→Int}:∀ q,sumJ (fun i=>f i+g i) q=sumJ f q+sumJ g q
 | 0=>rfl
 | q+1=>by
  show sumJ _ q+(f q+g q)=(sumJ f q+f q)+(sumJ g q+g q)
  rw [sumJ_add q]; omega
theorem sumJ_le {f g:Nat→Int}:∀ {q},(∀ i,i<q→f i≤g i)→sumJ f q≤sumJ g q
 | 0,_=>Int.le_refl 0
 | q+1,h=>by
  show sumJ f q+f q≤sumJ g q+g q
  have:=sumJ_le (q:=q) fun i hi=>h i (by omega)
  have:=h q (by omega)
  omega
section
variable (good:Nat→Nat) (price most gv:Nat→Int)
open Classical in
noncomputable def lam:Nat→Nat→Int
 | 0,_=>0
 | k+1,g=>if good k=g∧gv k<most k then max (lam k g) (price k) else lam k g
theorem lam_nn:∀ k g,0≤lam good price most gv k g
 | 0,_=>Int.le_refl 0
 | k+1,g=>by
  have:=lam_nn k g
  unfold lam
  split <;> omega
theorem lam_ge:∀ k {i:Nat},i<k→gv i<most i→price i≤lam good price most gv k (good i)
 | 0,i,h,_=>by omega
 | k+1,i,h,hl=>by
  unfold lam
  by_cases e:i=k
  ·subst e
   rw [if_pos ⟨rfl,hl⟩]; omega
  ·have:=lam_ge k (i:=i) (by omega) hl
   split <;> omega
theorem lam_att:∀ k g,lam good price most gv k g=0∨∃ i,i<k∧good i=g∧gv i<most i∧lam good price most gv k g=price i
 | 0,_=>.inl rfl
 | k+1,g=>by
  unfold lam
  have ih:=lam_att k g
  have nn:=lam_nn good price most gv k g
  split
  ·rename_i c
   by_cases e:lam good price most gv k g≤price k
   ·exact .inr ⟨k,by omega,c.1,c.2,by omega⟩
   ·rcases ih with x | ⟨i,a,b,c',d⟩
    ·by_cases e2:max (lam good price most gv k g) (price k)=0
     ·exact .inl e2
     ·omega
    ·exact .inr ⟨i,by omega,b,c',by omega⟩
  ·rcases ih with x | ⟨i,a,b,c',d⟩
   ·exact .inl x
   ·exact .inr ⟨i,by omega,b,c',d⟩
theorem sum_ex {G:Nat} {x:Nat→Int} {y:Nat→Int}:∀ {q},(∀ i,i<q→good i<G)→sumJ (fun i=>x i*y (good i)) q=sumJ (fun g=>y g*sumJ (fun i=>if good i=g then x i else 0) q) G
 | 0,_=>by
  have:=sumJ_zero (f:=fun g=>y g*sumJ (fun i=>if good i=g then x i else 0) 0) (m:=G) fun i _=>Int.mul_zero _
  rw [this]; rfl
 | q+1,h=>by
  have ih:=sum_ex (x:=x) (y:=y) (q:=q) fun i hi=>h i (by omega)
  have e:∀ g,y g*sumJ (fun i=>if good i=g then x i else 0) (q+1)=y g*sumJ (fun i=>if good i=g then x i else 0) q+y g*(if good q=g then x q else 0):=fun g=>Int.mul_add _ _ _
  rw [sumJ_congr2 (m:=G) fun g _=>e g,sumJ_add,← ih]
  have o:=sumJ_one (f:=fun g=>y g*(if good q=g then x q else 0)) (j:=good q) (m:=G) (h q (by omega)) fun i hi hne=>by
   show y i*_=0
   rw [if_neg fun z=>hne z.symm,Int.mul_zero]
  rw [o]
  show _+_=_+y (good q)*(if good q=good q then x q else 0)
  rw [if_pos rfl,Int.mul_comm (y (good q))]
theorem opt {q G:Nat} {sv:Nat→Int} {L:Nat→Int} (hg:∀ i,i<q→good i<G) (h1:∀ i,i<q→0≤gv i∧gv i≤most i)
  (h2:∀ i,i<q→gv i<most i→L (good i)≤sumJ (fun k=>if good k=good i then gv k else 0) q)
  (h3:∀ i k,i<q→k<q→good i=good k→price k<price i→gv i<most i→gv k≤0)
  (pr:∀ i,i<q→0≤price i) (s1:∀ i,i<q→0≤sv i∧sv i≤most i) (s2:∀ g,g<G→sumJ (fun k=>if good k=g then sv k else 0) q≤L g) :
  sumJ (fun i=>sv i*price i) q≤sumJ (fun i=>gv i*price i) q:=by
 have P:∀ i,i<q→sv i*price i+(gv i - sv i)*lam good price most gv q (good i)≤gv i*price i:=fun i hi=>by
  have a:=h1 i hi
  have b:=s1 i hi
  have l1:=lam_ge good price most gv q (i:=i) hi
  have key:0≤(gv i - sv i)*(price i - lam good price most gv q (good i)):=by
   by_cases e:price i<lam good price most gv q (good i)
   ·have p0:=pr i hi
    rcases lam_att good price most gv q (good i) with x | ⟨i0,a0,b0,c0,d0⟩
    ·omega
    ·have g0:=h3 i0 i a0 hi b0 (by omega) c0
     exact Int.mul_nonneg_of_nonpos_of_nonpos (by omega) (by omega)
   ·by_cases c:gv i<most i
    ·have p:=l1 c
     rw [show price i - lam good price most gv q (good i)=0 by omega,Int.mul_zero]
     exact Int.le_refl 0
    ·exact Int.mul_nonneg (by omega) (by omega)
  rw [Int.mul_sub,Int.sub_mul] at key
  rw [Int.sub_mul] at key ⊢
  omega
 have S:=sumJ_le (q:=q) P
 rw [sumJ_add] at S
 have E:=sum_ex good (G:=G) (x:=fun i=>gv i - sv i) (y:=lam good price most gv q) (q:=q) hg
 have Z:0≤sumJ (fun g=>lam good price most gv q g*sumJ (fun i=>if good i=g then gv i - sv i else 0) q) G:=by
  have:=sumJ_le (f:=fun _=>0) (g:=fun g=>lam good price most gv q g*sumJ (fun i=>if good i=g then gv i - sv i else 0) q) (q:=G) fun g hgG=>by
   have nn:=lam_nn good price most gv q g
   rcases lam_att good price most gv q g with x | ⟨i0,a0,b0,c0,d0⟩
   ·show 0≤_*_
    rw [x,Int.zero_mul]; exact Int.le_refl 0
   ·refine Int.mul_nonneg nn ?_
    have e:sumJ (fun i=>if good i=g then gv i - sv i else 0) q+sumJ (fun i=>if good i=g then sv i else 0) q=sumJ (fun i=>if good i=g then gv i else 0) q:=by
     rw [← sumJ_add]
     refine sumJ_congr2 fun i hi=>?_
     show (if good i=g then gv i - sv i else 0)+(if good i=g then sv i else 0)=_
     split <;> omega
    have a:=s2 g hgG
    have b:=h2 i0 a0 c0
    rw [b0] at b
    omega
  rwa [sumJ_zero (m:=G) fun _ _=>rfl] at this
 rw [← E] at Z
 have e2:sumJ (fun i=>(gv i - sv i)*lam good price most gv q (good i)) q=sumJ (fun i=>(fun i=>gv i - sv i) i*lam good price most gv q (good i)) q:=rfl
 omega
end
end Go.Proofs.Ytlhdlkplgafolaa

set_option linter.unusedSectionVars false
namespace Go.Proofs.Ytlhdlkplgafolaa
open Go Go.Lg
theorem pn_le {Y Z:Yd} (hY:okYd Y) (hZ:okYd Z) (hp:∀ p,okPl Y.m Y.sti Y.m p→canL Y p Y.m→okPl Z.m Z.sti Z.m p∧canL Z p Z.m∧inO Y p≤inO Z p):pnI Y≤pnI Z:=by
 obtain ⟨a1,a2,a3,-⟩:=best_spec hY
 obtain ⟨-,-,-,b4⟩:=best_spec hZ
 obtain ⟨c1,c2,c3⟩:=hp _ a1 a2
 have:=(b4 _ c1 c2).1
 omega
theorem pl_mono {Y Z:Yd} (hg:Z.g=Y.g) (hs:Z.sti=Y.sti) (ht:∀ i,i<Y.g→Y.st i≤Z.st i) {p:Nat→Int}:∀ k,(∀ i,((plX Y p k).l i).lo≤((plX Z p k).l i).lo)∧(plX Z p k).c=(plX Y p k).c
 | 0=>by
  refine ⟨fun i=>?_,rfl⟩
  show (if i<Y.g then (⟨Y.st i,Y.st i⟩:Tw) else ⟨0,0⟩).lo≤(if i<Z.g then (⟨Z.st i,Z.st i⟩:Tw) else ⟨0,0⟩).lo
  rw [hg]
  split
  ·rename_i e; exact ht i e
  ·exact Int.le_refl _
 | k+1=>by
  obtain ⟨h1,h2⟩:=pl_mono hg hs ht (p:=p) k
  refine ⟨fun i=>?_,?_⟩
  ·show (0+((plX Y p k).l i).lo+(tkG (Y.sti k) (p k) i).lo)+(mdG (Y.sti k) (p k) (Y.sti k).on i).lo≤(0+((plX Z p k).l i).lo+(tkG (Z.sti k) (p k) i).lo)+(mdG (Z.sti k) (p k) (Z.sti k).on i).lo
   rw [hs]
   have:=h1 i
   omega
  ·show (plX Z p k).c+p k*(Z.sti k).pay=(plX Y p k).c+p k*(Y.sti k).pay
   rw [h2,hs]
theorem se_mono {sal:Nat→Sal} {o:Nat→Int} {L M:Nat→Tw} {q:Nat} (hl:∀ i,(L i).lo≤(M i).lo) (hs:∀ k,k<q→0≤(sal (o k).toNat).price):∀ k,k≤q→(∀ i,((seS sal o L k).l i).lo≤((seS sal o M k).l i).lo)∧(seS sal o L k).c≤(seS sal o M k).c
 | 0,_=>⟨hl,Int.le_refl _⟩
 | k+1,hk=>by
  obtain ⟨h1,h2⟩:=se_mono hl hs k (by omega)
  have l:=h1 (sal (o k).toNat).good.toNat
  have av:ssA sal (seS sal o L k) (o k)≤ssA sal (seS sal o M k) (o k):=by unfold ssA; omega
  refine ⟨fun i=>?_,?_⟩
  ·show (if i=(sal (o k).toNat).good.toNat then (⟨((seS sal o L k).l i).lo - ssA sal (seS sal o L k) (o k),((seS sal o L k).l i).hi⟩:Tw) else (seS sal o L k).l i).lo≤(if i=(sal (o k).toNat).good.toNat then (⟨((seS sal o M k).l i).lo - ssA sal (seS sal o M k) (o k),((seS sal o M k).l i).hi⟩:Tw) else (seS sal o M k).l i).lo
   split
   ·rename_i e
    subst e
    unfold ssA
    simp only
    omega
   ·exact h1 i
  ·have:=Int.mul_le_mul_of_nonneg_right av (hs k (by omega))
   show (seS sal o L k).c+ssA sal (seS sal o L k) (o k)*(sal (o k).toNat).price≤(seS sal o M k).c+ssA sal (seS sal o M k) (o k)*(sal (o k).toNat).price
   omega
theorem more_stock {Y Z:Yd} (hY:okYd Y) (hZ:okYd Z) (hg:Z.g=Y.g) (hm:Z.m=Y.m) (hs:Z.sti=Y.sti) (hq:Z.q=Y.q) (hl:Z.sal=Y.sal) (ht:∀ i,i<Y.g→Y.st i≤Z.st i):pnI Y≤pnI Z:=by
 refine pn_le hY hZ fun p hp hc=>⟨by rw [hm,hs]; exact hp,fun i hi=>?_,?_⟩
 ·have c:=hc i (by omega)
  have a:=(pl_mono hg hs ht (p:=p) i).1 (Y.sti i).inn.toNat
  unfold canP at c ⊢
  rw [hs]
  omega
 ·have a:=pl_mono hg hs ht (p:=p) Y.m
  have ho:=or_of hY
  have b:=(se_mono (sal:=Y.sal) (o:=stF Y.sal Y.q) (L:=(plX Y p Y.m).l) (M:=(plX Z p Y.m).l) (q:=Y.q) a.1 (fun k hk=>by
   have o:=ho.b k hk
   exact (hY.l.b _ (by omega)).p0) Y.q (Nat.le_refl _)).2
  show (seS Y.sal (stF Y.sal Y.q) (plX Y p Y.m).l Y.q).c - (plX Y p Y.m).c≤(seS Z.sal (stF Z.sal Z.q) (plX Z p Z.m).l Z.q).c - (plX Z p Z.m).c
  rw [hm,hq,hl,a.2]
  omega
theorem pl_same {Y Z:Yd} (hg:Z.g=Y.g) (hs:Z.sti=Y.sti) (ht:Z.st=Y.st) {p:Nat→Int}:∀ k,plX Z p k=plX Y p k
 | 0=>by
  show stC Z.g Z.st=stC Y.g Y.st
  rw [hg,ht]
 | k+1=>by
  show nxC (plX Z p k) k (Z.sti k) (p k)=nxC (plX Y p k) k (Y.sti k) (p k)
  rw [pl_same hg hs ht k,hs]
theorem more_sales {Y Z:Yd} (hY:okYd Y) (hZ:okYd Z) (hg:Z.g=Y.g) (hm:Z.m=Y.m) (hs:Z.sti=Y.sti) (ht:Z.st=Y.st) (hq:Z.q=Y.q) (hl:∀ i,i<Y.q→(Z.sal i).good=(Y.sal i).good∧(Y.sal i).most≤(Z.sal i).most∧(Y.sal i).price≤(Z.sal i).price):pnI Y≤pnI Z:=by
 refine pn_le hY hZ fun p hp hc=>?_
 have pz:okPl Z.m Z.sti Z.m p:=by rw [hm,hs]; exact hp
 have cz:canL Z p Z.m:=fun i hi=>by
  rw [pl_same hg hs ht,hs]; exact hc i (by omega)
 refine ⟨pz,cz,?_⟩
 have eY:=in_c hY hp hc
 have eZ:=in_c hZ pz cz
 have O:=opt (fun i=>(Z.sal i).good.toNat) (fun i=>(Z.sal i).price) (fun i=>(Z.sal i).most) (inS Z p).s (q:=Z.q) (G:=Z.g) (sv:=(inS Y p).s) (L:=fun g=>((plX Z p Z.m).l g).lo)
  (fun i hi=>gd_lt hZ pz cz hi) (fun i hi=>so_bd hZ pz cz hi)
  (fun i hi hlt=>by
   have:=more_no hZ pz cz hi hlt
   unfold lsF at this
   show ((plX Z p Z.m).l (Z.sal i).good.toNat).lo≤_
   omega)
  (fun i k hi hk hgd hpr hlt=>by
   have g1:=(hZ.l.b i hi).g0
   have g2:=(hZ.l.b k hk).g0
   exact price_no hZ pz cz hi hk (by omega) hpr hlt)
  (fun i hi=>(hZ.l.b i hi).p0)
  (fun i hi=>by
   have a:=so_bd hY hp hc (i:=i) (by omega)
   have b:=(hl i (by omega)).2.1
   exact ⟨a.1,Int.le_trans a.2 b⟩)
  (fun g hgg=>by
   have n0:=ls_nn hY hp hc (g:=g) (by omega)
   unfold lsF at n0
   rw [pl_same hg hs ht,hm,hq]
   have e:sumJ (fun k=>if (Z.sal k).good.toNat=g then (inS Y p).s k else 0) Y.q=sumJ (fun k=>if (Y.sal k).good.toNat=g then (inS Y p).s k else 0) Y.q:=sumJ_congr2 fun i hi=>by rw [(hl i hi).1]
   show sumJ (fun k=>if (Z.sal k).good.toNat=g then (inS Y p).s k else 0) Y.q≤_
   rw [e]
   show _≤((plX Y p Y.m).l g).lo
   omega)
 have S:sumJ (fun k=>(inS Y p).s k*(Y.sal k).price) Y.q≤sumJ (fun k=>(inS Y p).s k*(Z.sal k).price) Y.q:=sumJ_le fun i hi=>Int.mul_le_mul_of_nonneg_left (hl i hi).2.2 (so_bd hY hp hc hi).1
 show (inS Y p).c - (plX Y p Y.m).c≤(inS Z p).c - (plX Z p Z.m).c
 rw [pl_same hg hs ht,hm]
 rw [hq] at O eZ
 omega
theorem pl_pay {Y Z:Yd} (hg:Z.g=Y.g) (ht:Z.st=Y.st) {n:Nat} {p:Nat→Int} (hp:∀ i,i<n→0≤p i) (hs:∀ i,i<n→(Z.sti i).inn=(Y.sti i).inn∧(Z.sti i).takes=(Y.sti i).takes∧(Z.sti i).on=(Y.sti i).on∧(Z.sti i).out=(Y.sti i).out∧(Z.sti i).pay≤(Y.sti i).pay):∀ k,k≤n→(plX Z p k).l=(plX Y p k).l∧(plX Z p k).c≤(plX Y p k).c
 | 0,_=>by
  refine ⟨?_,Int.le_refl _⟩
  show (stC Z.g Z.st).l=(stC Y.g Y.st).l
  rw [hg,ht]
 | k+1,hk=>by
  obtain ⟨h1,h2⟩:=pl_pay hg ht hp hs k (by omega)
  obtain ⟨a,b,c,d,e⟩:=hs k (by omega)
  refine ⟨?_,?_⟩
  ·show adG (adG (adG zG (plX Z p k).l) (tkG (Z.sti k) (p k))) (mdG (Z.sti k) (p k) (Z.sti k).on)=adG (adG (adG zG (plX Y p k).l) (tkG (Y.sti k) (p k))) (mdG (Y.sti k) (p k) (Y.sti k).on)
   have t:tkG (Z.sti k) (p k)=tkG (Y.sti k) (p k):=by unfold tkG; rw [a,b]
   have m:mdG (Z.sti k) (p k) (Z.sti k).on=mdG (Y.sti k) (p k) (Y.sti k).on:=by unfold mdG; rw [c,d]
   rw [h1,t,m]
  ·have:=Int.mul_le_mul_of_nonneg_left e (hp k (by omega))
   show (plX Z p k).c+p k*(Z.sti k).pay≤(plX Y p k).c+p k*(Y.sti k).pay
   omega
theorem less_pay {Y Z:Yd} (hY:okYd Y) (hZ:okYd Z) (hg:Z.g=Y.g) (hm:Z.m=Y.m) (ht:Z.st=Y.st) (hq:Z.q=Y.q) (hl:Z.sal=Y.sal) (hs:∀ i,i<Y.m→(Z.sti i).inn=(Y.sti i).inn∧(Z.sti i).takes=(Y.sti i).takes∧(Z.sti i).on=(Y.sti i).on∧(Z.sti i).out=(Y.sti i).out∧(Z.sti i).pay≤(Y.sti i).pay) (hmo:∀ i,i<Y.m→(Z.sti i).most=(Y.sti i).most):pnI Y≤pnI Z:=by
 refine pn_le hY hZ fun p hp hc=>?_
 have P:=pl_pay hg ht (p:=p) (n:=Y.m) (fun i hi=>(hp.h i hi).1) hs
 refine ⟨⟨rfl,fun i hi=>by rw [hmo i (by omega)]; exact hp.h i (by omega)⟩,fun i hi=>?_,?_⟩
 ·have c:=hc i (by omega)
  obtain ⟨a,b,-⟩:=hs i (by omega)
  unfold canP at c ⊢
  rw [(P i (by omega)).1,a,b]
  exact c
 ·show (seS Y.sal (stF Y.sal Y.q) (plX Y p Y.m).l Y.q).c - (plX Y p Y.m).c≤(seS Z.sal (stF Z.sal Z.q) (plX Z p Z.m).l Z.q).c - (plX Z p Z.m).c
  obtain ⟨a,b⟩:=P Y.m (Nat.le_refl _)
  rw [hm,hq,hl,a]
  omega
end Go.Proofs.Ytlhdlkplgafolaa

set_option linter.unusedSectionVars false
namespace Go.Proofs.Ytlhdlkplgafolaa
open Go Go.Lg
def idS (g:Nat):Sti:=⟨0,1,g,fun _=>⟨0,0⟩,0,0⟩
noncomputable def idY (Y:Yd):Yd:=⟨Y.g,Y.st,Y.m+1,fun i=>if i=0 then idS Y.g else Y.sti (i - 1),Y.q,Y.sal⟩
theorem id_0 (Y:Yd):(idY Y).sti 0=idS Y.g:=rfl
theorem id_s (Y:Yd) (i:Nat):(idY Y).sti (i+1)=Y.sti i:=rfl
theorem id_ok {Y:Yd} (h:okYd Y) (hm:Y.m<4):okYd (idY Y):=by
 have g1:=h.g.a
 refine ⟨h.g,⟨by show Y.m+1≤4; omega,fun i hi=>?_⟩,h.l⟩
 cases i with
 | zero =>
  refine ⟨fun x=>by omega,?_⟩
  rw [id_0]
  exact ⟨Int.le_refl 0,by show (0:Int)≤(Y.g:Int) - 1; omega,Int.le_refl 1,by show (1:Int)≤1048576; omega,rfl,fun k hk=>⟨fun _=>⟨rfl,rfl⟩,Int.le_refl 0,Int.le_refl 0,by show (0:Int)≤1048576; omega⟩,Int.le_refl 0,by show (0:Int)≤1000000; omega,Int.le_refl 0,by show (0:Int)≤8; omega⟩
 | succ i =>
  have o:=h.s.b i (by have:i+1<Y.m+1:=hi; omega)
  refine ⟨fun _=>?_,?_⟩
  ·rw [id_s]
   cases i with
   | zero=>exact o.2.i0
   | succ j=>exact o.1 (by omega)
  ·rw [id_s]; exact o.2
theorem id_pl {Y:Yd} {p:Nat→Int} (h0:p 0=0):∀ k,(plX (idY Y) p (k+1)).l=(plX Y (fun i=>p (i+1)) k).l∧(plX (idY Y) p (k+1)).c=(plX Y (fun i=>p (i+1)) k).c
 | 0=>by
  refine ⟨funext fun i=>?_,?_⟩
  ·show (⟨0+((stC Y.g Y.st).l i).lo+(tkG (idS Y.g) (p 0) i).lo+(mdG (idS Y.g) (p 0) Y.g i).lo,0+((stC Y.g Y.st).l i).hi+(tkG (idS Y.g) (p 0) i).hi+(mdG (idS Y.g) (p 0) Y.g i).hi⟩:Tw)=(stC Y.g Y.st).l i
   rw [h0]
   have t:tkG (idS Y.g) 0 i=⟨0,0⟩:=by unfold tkG; split <;> rfl
   have m:mdG (idS Y.g) 0 Y.g i=⟨0,0⟩:=by unfold mdG; split <;> rfl
   rw [t,m]
   generalize (stC Y.g Y.st).l i=w
   cases w
   simp
  ·show (0:Int)+p 0*0=0
   rw [Int.mul_zero]; rfl
 | k+1=>by
  obtain ⟨h1,h2⟩:=id_pl h0 k
  refine ⟨?_,?_⟩
  ·show adG (adG (adG zG (plX (idY Y) p (k+1)).l) (tkG (Y.sti k) (p (k+1)))) (mdG (Y.sti k) (p (k+1)) (Y.sti k).on)=adG (adG (adG zG (plX Y (fun i=>p (i+1)) k).l) (tkG (Y.sti k) (p (k+1)))) (mdG (Y.sti k) (p (k+1)) (Y.sti k).on)
   rw [h1]
  ·show (plX (idY Y) p (k+1)).c+p (k+1)*(Y.sti k).pay=(plX Y (fun i=>p (i+1)) k).c+p (k+1)*(Y.sti k).pay
   rw [h2]
theorem id_can {Y:Yd} (h:okYd Y) {p:Nat→Int} (h0:p 0=0):canL (idY Y) p (idY Y).m↔canL Y (fun i=>p (i+1)) Y.m:=by
 have g1:=h.g.a
 constructor
 ·intro c i hi
  have:=c (i+1) (by show i+1<Y.m+1; omega)
  unfold canP at this ⊢
  rw [id_s,(id_pl h0 i).1] at this
  exact this
 ·intro c i hi
  cases i with
  | zero =>
   show p 0*1≤(if 0<Y.g then (⟨Y.st 0,Y.st 0⟩:Tw) else ⟨0,0⟩).lo
   rw [h0,if_pos (by omega)]
   have:=(h.g.c 0 (by omega)).1
   show (0:Int)*1≤Y.st 0
   omega
  | succ i =>
   have:=c i (by have:i+1<Y.m+1:=hi; omega)
   unfold canP at this ⊢
   rw [id_s,(id_pl h0 i).1]
   exact this
theorem id_in {Y:Yd} {p:Nat→Int} (h0:p 0=0):inO (idY Y) p=inO Y (fun i=>p (i+1)):=by
 obtain ⟨a,b⟩:=id_pl (Y:=Y) h0 Y.m
 show (seS Y.sal (stF Y.sal Y.q) (plX (idY Y) p (Y.m+1)).l Y.q).c - (plX (idY Y) p (Y.m+1)).c=(seS Y.sal (stF Y.sal Y.q) (plX Y (fun i=>p (i+1)) Y.m).l Y.q).c - (plX Y (fun i=>p (i+1)) Y.m).c
 rw [a,b]
theorem id_pn {Y:Yd} (h:okYd Y) (hm:Y.m<4):pnI (idY Y)=pnI Y∧pnF (idY Y) 0=0:=by
 have hZ:=id_ok h hm
 obtain ⟨a1,a2,a3,a4⟩:=best_spec h
 obtain ⟨b1,b2,b3,b4⟩:=best_spec hZ
 have z0:pnF (idY Y) 0=0:=by
  have:okNb ((idY Y).sti 0).most (pnF (idY Y) 0):=b1.h 0 (by show 0<Y.m+1; omega)
  rw [id_0] at this
  unfold okNb at this
  have e:(idS Y.g).most=0:=rfl
  omega
 refine ⟨?_,z0⟩
 have c1:=a4 (fun i=>pnF (idY Y) (i+1)) ⟨rfl,fun i hi=>by
  have:okNb ((idY Y).sti (i+1)).most (pnF (idY Y) (i+1)):=b1.h (i+1) (by show i+1<Y.m+1; omega)
  rw [id_s] at this
  exact this⟩ ((id_can h z0).1 b2)
 rw [← id_in z0,b3] at c1
 have p0:(fun i:Nat=>if i=0 then (0:Int) else pnF Y (i - 1)) 0=0:=rfl
 have e:(fun i:Nat=>(fun i:Nat=>if i=0 then (0:Int) else pnF Y (i - 1)) (i+1))=pnF Y:=rfl
 have c2:=b4 (fun i=>if i=0 then 0 else pnF Y (i - 1)) ⟨rfl,fun i hi=>by
  cases i with
  | zero=>exact ⟨Int.le_refl 0,Int.le_refl 0⟩
  | succ i=>exact a1.h i (by have:i+1<Y.m+1:=hi; omega)⟩ ((id_can (p:=fun i:Nat=>if i=0 then (0:Int) else pnF Y (i - 1)) h p0).2 a2)
 have e3:=id_in (Y:=Y) (p:=fun i:Nat=>if i=0 then (0:Int) else pnF Y (i - 1)) p0
 rw [e,a3] at e3
 rw [e3] at c2
 have:=c1.1
 have:=c2.1
 omega
end Go.Proofs.Ytlhdlkplgafolaa

namespace Go.Proofs.Ytlhdlkplgafolaa
open Go Go.Lg
noncomputable def stY (Y:Yd) (w b:Int):Yd:=⟨Y.g,fun i=>if i=(w.tmod Y.g).toNat then min 1048576 (Y.st (w.tmod Y.g).toNat+b.tmod 9) else Y.st i,Y.m,Y.sti,Y.q,Y.sal⟩
noncomputable def slY (Y:Yd) (w b:Int):Yd:=⟨Y.g,Y.st,Y.m,Y.sti,Y.q,fun i=>if i=(w.tmod Y.q).toNat then ⟨(Y.sal i).good,min 1048576 ((Y.sal (w.tmod Y.q).toNat).most+b.tmod 7),min 1000000 ((Y.sal (w.tmod Y.q).toNat).price+b.tmod 5)⟩ else Y.sal i⟩
noncomputable def siY (Y:Yd) (w b:Int):Yd:=⟨Y.g,Y.st,Y.m,fun i=>if i=(w.tmod Y.m).toNat then ⟨(Y.sti i).inn,(Y.sti i).takes,(Y.sti i).on,(Y.sti i).out,max 0 ((Y.sti (w.tmod Y.m).toNat).pay - b.tmod 5),(Y.sti i).most⟩ else Y.sti i,Y.q,Y.sal⟩
variable {Y:Yd} {w b:Int}
theorem sty_ok (h:okYd Y) (hb:0≤b):okYd (stY Y w b):=by
 have t:=tm_bd (a:=b) (b:=9) hb (by omega)
 refine ⟨⟨h.g.a,h.g.b,fun i hi=>?_⟩,h.s,h.l⟩
 have c:=h.g.c i hi
 show okNb _ (if i=(w.tmod Y.g).toNat then min 1048576 (Y.st (w.tmod Y.g).toNat+b.tmod 9) else Y.st i)
 split
 ·rename_i e
  rw [e] at c
  unfold okNb at c ⊢
  omega
 ·exact c
theorem sly_ok (h:okYd Y) (hb:0≤b):okYd (slY Y w b):=by
 have t:=tm_bd (a:=b) (b:=7) hb (by omega)
 have t2:=tm_bd (a:=b) (b:=5) hb (by omega)
 refine ⟨h.g,h.s,⟨h.l.a,fun i hi=>?_⟩⟩
 have c:=h.l.b i hi
 show okSal _ (if i=(w.tmod Y.q).toNat then (⟨(Y.sal i).good,min 1048576 ((Y.sal (w.tmod Y.q).toNat).most+b.tmod 7),min 1000000 ((Y.sal (w.tmod Y.q).toNat).price+b.tmod 5)⟩:Sal) else Y.sal i)
 split
 ·rename_i e
  rw [← e]
  exact ⟨c.g0,c.g1,by have:=c.m0; show 0≤min _ _; omega,by show min _ _≤_; omega,by have:=c.p0; show 0≤min _ _; omega,by show min _ _≤_; omega⟩
 ·exact c
theorem siy_ok (h:okYd Y) (hb:0≤b):okYd (siY Y w b):=by
 have t2:=tm_bd (a:=b) (b:=5) hb (by omega)
 have one:∀ i,((siY Y w b).sti i).inn=(Y.sti i).inn:=fun i=>by
  show (if i=(w.tmod Y.m).toNat then (⟨(Y.sti i).inn,(Y.sti i).takes,(Y.sti i).on,(Y.sti i).out,max 0 ((Y.sti (w.tmod Y.m).toNat).pay - b.tmod 5),(Y.sti i).most⟩:Sti) else Y.sti i).inn=_
  split <;> rfl
 refine ⟨h.g,⟨h.s.a,fun i hi=>⟨fun x=>?_,?_⟩⟩,h.l⟩
 ·rw [one,one]; exact (h.s.b i hi).1 x
 ·have c:=(h.s.b i hi).2
  show okSti _ (if i=(w.tmod Y.m).toNat then (⟨(Y.sti i).inn,(Y.sti i).takes,(Y.sti i).on,(Y.sti i).out,max 0 ((Y.sti (w.tmod Y.m).toNat).pay - b.tmod 5),(Y.sti i).most⟩:Sti) else Y.sti i)
  split
  ·rename_i e
   rw [← e]
   exact ⟨c.i0,c.i1,c.t0,c.t1,c.n,c.o,by show 0≤max _ _; omega,by have:=c.p1; show max _ _≤_; omega,c.m0,c.m1⟩
  ·exact c
theorem sty_le (h:okYd Y) (hb:0≤b):pnI Y≤pnI (stY Y w b):=by
 have t:=tm_bd (a:=b) (b:=9) hb (by omega)
 refine more_stock h (sty_ok h hb) rfl rfl rfl rfl rfl fun i hi=>?_
 have c:=h.g.c i hi
 show _≤(if i=(w.tmod Y.g).toNat then min 1048576 (Y.st (w.tmod Y.g).toNat+b.tmod 9) else Y.st i)
 split
 ·rename_i e
  rw [← e]
  unfold okNb at c
  omega
 ·exact Int.le_refl _
theorem sly_le (h:okYd Y) (hb:0≤b):pnI Y≤pnI (slY Y w b):=by
 have t:=tm_bd (a:=b) (b:=7) hb (by omega)
 have t2:=tm_bd (a:=b) (b:=5) hb (by omega)
 refine more_sales h (sly_ok h hb) rfl rfl rfl rfl rfl fun i hi=>?_
 have c:=h.l.b i hi
 show (if i=(w.tmod Y.q).toNat then (⟨(Y.sal i).good,min 1048576 ((Y.sal (w.tmod Y.q).toNat).most+b.tmod 7),min 1000000 ((Y.sal (w.tmod Y.q).toNat).price+b.tmod 5)⟩:Sal) else Y.sal i).good=_∧_≤(if i=(w.tmod Y.q).toNat then (⟨(Y.sal i).good,min 1048576 ((Y.sal (w.tmod Y.q).toNat).most+b.tmod 7),min 1000000 ((Y.sal (w.tmod Y.q).toNat).price+b.tmod 5)⟩:Sal) else Y.sal i).most∧_≤(if i=(w.tmod Y.q).toNat then (⟨(Y.sal i).good,min 1048576 ((Y.sal (w.tmod Y.q).toNat).most+b.tmod 7),min 1000000 ((Y.sal (w.tmod Y.q).toNat).price+b.tmod 5)⟩:Sal) else Y.sal i).price
 split
 ·rename_i e
  rw [← e]
  have m1:=c.m1
  have p1:=c.p1
  exact ⟨rfl,by show _≤min _ _; omega,by show _≤min _ _; omega⟩
 ·exact ⟨rfl,Int.le_refl _,Int.le_refl _⟩
theorem siy_le (h:okYd Y) (hb:0≤b):pnI Y≤pnI (siY Y w b):=by
 have t2:=tm_bd (a:=b) (b:=5) hb (by omega)
 have key:∀ i,i<Y.m→(((siY Y w b).sti i).inn=(Y.sti i).inn∧((siY Y w b).sti i).takes=(Y.sti i).takes∧((siY Y w b).sti i).on=(Y.sti i).on∧((siY Y w b).sti i).out=(Y.sti i).out∧((siY Y w b).sti i).pay≤(Y.sti i).pay)∧((siY Y w b).sti i).most=(Y.sti i).most:=fun i hi=>by
  have c:=(h.s.b i hi).2.p0
  have e:(siY Y w b).sti i=if i=(w.tmod Y.m).toNat then (⟨(Y.sti i).inn,(Y.sti i).takes,(Y.sti i).on,(Y.sti i).out,max 0 ((Y.sti (w.tmod Y.m).toNat).pay - b.tmod 5),(Y.sti i).most⟩:Sti) else Y.sti i:=rfl
  rw [e]
  split
  ·rename_i e
   rw [← e]
   exact ⟨⟨rfl,rfl,rfl,rfl,by show max _ _≤_; omega⟩,rfl⟩
  ·exact ⟨⟨rfl,rfl,rfl,rfl,Int.le_refl _⟩,rfl⟩
 exact less_pay h (siy_ok h hb) rfl rfl rfl rfl rfl (fun i hi=>(key i hi).1) (fun i hi=>(key i hi).2)
end Go.Proofs.Ytlhdlkplgafolaa
