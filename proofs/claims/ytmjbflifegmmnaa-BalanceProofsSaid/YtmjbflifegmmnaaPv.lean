import Derived.Test.YtmjbflifegmmnaaPfPgPhPiPu
set_option linter.unusedVariables false
set_option linter.unusedSimpArgs false
namespace Go.Lg
def zF:Nat→Int:=fun _=>0
def rowQ (m:Nat) (O:List (Nat→Int)):Nat→SV:=fun i=>.lst 1 m fun q=>i6 (O.getD i zF q)
def upN (p:Nat→Int) (i:Nat) (t:Int):Nat→Int:=fun j=>if j<i then p j else t
def lexQ (m:Nat) (x y:Nat→Int):Prop:=∃ i,i<m∧(∀ k,k<i→x k=y k)∧x i<y i
section
variable (lo hi:(Nat→Int)→Nat→Int) (F:(Nat→Int)→Prop) (m:Nat)
open Classical in
noncomputable def lsQ:Nat→(Nat→Int)→List (Nat→Int)
 | 0,p=>if F p then [p] else []
 | d+1,p=>(List.range (hi p (m - (d+1)) - lo p (m - (d+1))+1).toNat).flatMap fun (t:Nat)=>lsQ d (upN p (m - (d+1)) (lo p (m - (d+1))+(t:Int)))
noncomputable def lsU (d:Nat) (p:Nat→Int) (k:Nat):List (Nat→Int):=(List.range k).flatMap fun (t:Nat)=>lsQ lo hi F m d (upN p (m - (d+1)) (lo p (m - (d+1))+(t:Int)))
end
section
variable {lo hi:(Nat→Int)→Nat→Int} {F:(Nat→Int)→Prop} {m:Nat}
theorem lsU_succ {d:Nat} {p:Nat→Int} (k:Nat):lsU lo hi F m d p (k+1)=lsU lo hi F m d p k ++ lsQ lo hi F m d (upN p (m - (d+1)) (lo p (m - (d+1))+(k:Int))):=by
 unfold lsU
 rw [List.range_succ,List.flatMap_append]
 simp
theorem lsU_0 {d:Nat} {p:Nat→Int}:lsU lo hi F m d p 0=[]:=by simp [lsU]
theorem lsU_le {d:Nat} {p:Nat→Int} {k l:Nat} (h:k≤l):(lsU lo hi F m d p k).length≤(lsU lo hi F m d p l).length:=by
 induction l with
 | zero =>
  have:k=0:=by omega
  subst this; exact Nat.le_refl _
 | succ l ih =>
  by_cases e:k=l+1
  ·subst e; exact Nat.le_refl _
  ·rw [lsU_succ,List.length_append]
   have:=ih (by omega)
   omega
def locQ (lo hi:(Nat→Int)→Nat→Int):Prop:=∀ p q i,(∀ j,j<i→p j=q j)→lo p i=lo q i∧hi p i=hi q i
theorem upN_lt {p:Nat→Int} {i:Nat} {t:Int} {j:Nat} (h:j<i):upN p i t j=p j:=if_pos h
theorem upN_at {p:Nat→Int} {i:Nat} {t:Int}:upN p i t i=t:=if_neg (Nat.lt_irrefl i)
theorem lsQ_mem (hl:locQ lo hi):∀ (d:Nat) (p x:Nat→Int),d≤m→x ∈ lsQ lo hi F m d p→(∀ i,i<m - d→x i=p i)∧(∀ i,m - d≤i→i<m→lo x i≤x i∧x i≤hi x i)∧F x
 | 0,p,x,_,hx=>by
  unfold lsQ at hx
  split at hx
  ·rename_i hF
   simp only [List.mem_singleton] at hx
   subst hx
   exact ⟨fun _ _=>rfl,fun i h1 h2=>by omega,hF⟩
  ·simp at hx
 | d+1,p,x,hd,hx=>by
  simp only [lsQ,List.mem_flatMap,List.mem_range] at hx
  obtain ⟨t,ht,hx⟩:=hx
  obtain ⟨h1,h2,h3⟩:=lsQ_mem hl d _ x (by omega) hx
  have hb:∀ i,i<m - (d+1)→x i=p i:=fun i hi=>by rw [h1 i (by omega),upN_lt hi]
  refine ⟨hb,fun i hi1 hi2=>?_,h3⟩
  by_cases e:i=m - (d+1)
  ·subst e
   obtain ⟨e1,e2⟩:=hl x p (m - (d+1)) hb
   rw [h1 _ (by omega),upN_at,e1,e2]
   omega
  ·exact h2 i (by omega) hi2
theorem lsQ_of (hl:locQ lo hi) {q:Nat→Int} (hF:∀ x,(∀ i,i<m→x i=q i)→F x):∀ (d:Nat) (p:Nat→Int),d≤m→(∀ i,i<m - d→q i=p i)→(∀ i,m - d≤i→i<m→lo q i≤q i∧q i≤hi q i)→∃ x,x ∈ lsQ lo hi F m d p∧∀ i,i<m→x i=q i
 | 0,p,_,h1,_=>by
  have h2:∀ i,i<m→p i=q i:=fun i hi=>(h1 i (by omega)).symm
  exact ⟨p,by unfold lsQ; rw [if_pos (hF p h2)]; simp,h2⟩
 | d+1,p,hd,h1,h2=>by
  obtain ⟨b1,b2⟩:=h2 (m - (d+1)) (by omega) (by omega)
  obtain ⟨e1,e2⟩:=hl q p (m - (d+1)) h1
  rw [e1] at b1
  rw [e2] at b2
  obtain ⟨x,hx,h3⟩:=lsQ_of hl hF d (upN p (m - (d+1)) (q (m - (d+1)))) (by omega) (fun i hi=>by
   by_cases e:i<m - (d+1)
   ·rw [upN_lt e]; exact h1 i e
   ·rw [show i=m - (d+1) by omega,upN_at]) (fun i h3 h4=>h2 i (by omega) h4)
  refine ⟨x,?_,h3⟩
  simp only [lsQ,List.mem_flatMap,List.mem_range]
  refine ⟨(q (m - (d+1)) - lo p (m - (d+1))).toNat,by omega,?_⟩
  rw [show lo p (m - (d+1))+((q (m - (d+1)) - lo p (m - (d+1))).toNat:Int)=q (m - (d+1)) by omega]
  exact hx
theorem lsQ_lex (hl:locQ lo hi):∀ (d:Nat) (p:Nat→Int),d≤m→List.Pairwise (lexQ m) (lsQ lo hi F m d p)
 | 0,p,_=>by
  unfold lsQ
  split
  ·simp
  ·exact List.Pairwise.nil
 | d+1,p,hd=>by
  simp only [lsQ]
  rw [List.pairwise_flatMap]
  refine ⟨fun t ht=>lsQ_lex hl d _ (by omega),?_⟩
  refine List.Pairwise.imp ?_ List.pairwise_lt_range
  intro t1 t2 ht x hx y hy
  obtain ⟨a1,_⟩:=lsQ_mem hl d _ x (by omega) hx
  obtain ⟨b1,_⟩:=lsQ_mem hl d _ y (by omega) hy
  refine ⟨m - (d+1),by omega,fun k hk=>?_,?_⟩
  ·rw [a1 k (by omega),b1 k (by omega),upN_lt hk,upN_lt hk]
  ·rw [a1 _ (by omega),b1 _ (by omega),upN_at,upN_at]
   omega
theorem fm_len {α β:Type} {g:α→List β} {B:Nat}:∀ (l:List α),(∀ x ∈ l,(g x).length≤B)→(l.flatMap g).length≤l.length*B
 | [],_=>by simp
 | x :: l,h=>by
  have h1:=fm_len (g:=g) (B:=B) l fun y hy=>h y (by simp [hy])
  have h2:=h x (by simp)
  simp only [List.flatMap_cons,List.length_append,List.length_cons,Nat.succ_mul]
  omega
def prQ (B:Nat→Nat) (m:Nat):Nat→Nat
 | 0=>1
 | d+1=>B (m - (d+1))*prQ B m d
theorem lsQ_len {B:Nat→Nat} (hB:∀ p i,(hi p i - lo p i+1).toNat≤B i):∀ (d:Nat) (p:Nat→Int),(lsQ lo hi F m d p).length≤prQ B m d
 | 0,p=>by
  unfold lsQ prQ
  split <;> simp
 | d+1,p=>by
  simp only [lsQ,prQ]
  refine Nat.le_trans (fm_len (B:=prQ B m d) _ fun t _=>lsQ_len hB d _) ?_
  rw [List.length_range]
  exact Nat.mul_le_mul_right _ (hB _ _)
theorem getD_mem {O:List (Nat→Int)} {i:Nat} (h:i<O.length):O.getD i zF ∈ O:=by
 simp only [List.getD,List.getElem?_eq_getElem h,Option.getD_some]
 exact List.getElem_mem h
theorem getD_pair {R:(Nat→Int)→(Nat→Int)→Prop} {O:List (Nat→Int)} (hp:List.Pairwise R O) {i j:Nat} (hij:i<j) (hj:j<O.length):R (O.getD i zF) (O.getD j zF):=by
 have:=List.pairwise_iff_getElem.1 hp i j (by omega) hj hij
 simp only [List.getD]
 rw [List.getElem?_eq_getElem (by omega),List.getElem?_eq_getElem hj]
 exact this
theorem getD_of {O:List (Nat→Int)} {x:Nat→Int} (h:x ∈ O):∃ i,i<O.length∧O.getD i zF=x:=by
 obtain ⟨i,hi,e⟩:=List.getElem_of_mem h
 exact ⟨i,hi,by simp [List.getD,List.getElem?_eq_getElem hi,e]⟩
theorem getD_lo {O Q:List (Nat→Int)} {i:Nat} (h:i<O.length):(O ++ Q).getD i zF=O.getD i zF:=by
 simp [List.getD,List.getElem?_append_left h]
theorem getD_at {O:List (Nat→Int)} {p:Nat→Int}:(O ++ [p]).getD O.length zF=p:=by simp [List.getD]
theorem den_lst {b:Nat→SV} {p:Nat→Int} {n:Nat} (h:∀ i,i<n→b i=i6 (p i)):(SV.lst 1 n b).den=(SV.lst 1 n fun i=>i6 (p i)).den:=by
 simp only [SV.den]; congr 1
 exact List.map_congr_left fun i hi=>by rw [h i (List.mem_range.1 hi)]; rfl
theorem den_row {sz N:Nat} {f g:Nat→SV} (h:∀ i,i<N→f i=g i):denR (some (rowO sz N f))=denR (some (rowO sz N g)):=by
 have e:(rowO sz N f).els=(rowO sz N g).els:=List.map_congr_left fun i hi=>by
  show (f i).den=(g i).den
  rw [h i (List.mem_range.1 hi)]
 show some (rowO sz N f).den=some (rowO sz N g).den
 rw [rowO_den,rowO_den,e]
end
structure bstQ where
 w:Prop
 j:Nat
end Go.Lg
