import Derived.Test.YtpdcajchppoocaaEmVEn
import Derived.Test.YtpdcajchppoocaaPfPgPhPiPjPkPnPxPu
set_option linter.unusedVariables false
set_option linter.unusedSimpArgs false
set_option maxRecDepth 100000
namespace Go.Proofs.Ytpdcajchppoocaa
open Go Go.Lg
attribute [local irreducible] bodyH
structure okR (T:Tn) (w:Nat→Bool):Prop where
 t:okT T
 w:fwA T w=T.nl
noncomputable def ruC:Ctr:=⟨15,fun args k=>match args with
 | [x,.lst 1 n f]=>∃ (T:Tn) (w:Nat→Bool),(x=tV T∧SV.lst 1 n f=twL T.nl w∧okR T w)∧k (.tup [ruV T w,b6 T.nl,b6 0])
 | _=>False⟩
noncomputable def bdC:Ctr:=⟨17,fun args k=>match args with
 | [x,.lst 1 n f]=>∃ (T:Tn) (w:Nat→Bool),(x=tV T∧SV.lst 1 n f=twL T.nl w∧okR T w)∧k (.tup [bdV T (fsA T w (coL T)) (fsA T w (coH T 0)),b6 0])
 | _=>False⟩
theorem ruC_ok:ruC.Ok Try.prog:=by
 refine ⟨by kernel_rfl,fun args k hk=>?_⟩
 simp only [ruC] at hk
 split at hk
 ·obtain ⟨T,w,⟨rfl,hw,h⟩,hk⟩:=hk
  rw [hw]
  exact ⟨_,funN_does pgm_cs nil_x nil_ic mixed (ru_true h.t h.w) (by simp [flatS,flatSL,ruV,SV.cells,scS,b6]),hk⟩
 ·exact hk.elim
theorem bdC_ok:bdC.Ok Try.prog:=by
 refine ⟨by kernel_rfl,fun args k hk=>?_⟩
 simp only [bdC] at hk
 split at hk
 ·obtain ⟨T,w,⟨rfl,hw,h⟩,hk⟩:=hk
  rw [hw]
  exact ⟨_,funN_does pgm_cs nil_x nil_ic mixed (bed_true h.t h.w) (by simp [flatS,flatSL,bdV,SV.cells,scS,b6]),hk⟩
 ·exact hk.elim
noncomputable def grG (T:Tn) (m:Int):Prop:=funH Try.prog (ctrs []) noX (ictrs []) noL noL 13 [tV T,b6 m] (.dec ((m<T.nl∧T.nl≤16)∨24<T.nl∨9<T.nb) inferInstance)
noncomputable def grC:Ctr:=⟨13,fun args k=>match args with
 | [x,.int .i64 m]=>∃ T:Tn,x=tV T∧k (.dec ((m<T.nl∧T.nl≤16)∨24<T.nl∨9<T.nb) inferInstance)
 | _=>False⟩
noncomputable def spnG (a b:Int):Prop:=funH Try.prog (ctrs []) noX (ictrs []) noL noL 31 [b6 a,b6 b] (.agg [b6 a,b6 b])
def spnC:Ctr:=⟨31,fun args k=>match args with
 | [.int .i64 a,.int .i64 b]=>k (.agg [b6 a,b6 b])
 | _=>False⟩
def alvC:Ctr:=⟨14,fun args k=>match args with
 | []=>k (.bool true)
 | _=>False⟩
end Go.Proofs.Ytpdcajchppoocaa

set_option maxRecDepth 100000
namespace Go.Proofs.Ytpdcajchppoocaa
open Go Go.Lg
local notation "N0"=>(0:Nat)
theorem grG_vc (T:Tn) (m:Int):grG T m=(N0<(1:Nat)∧(m<(↑T.10:Int)→N0<(1:Nat)∧((↑T.10:Int)≤(16:Int)→(true=true↔m<(↑T.nl:Int)∧T.nl≤(16:Nat)∨(24:Nat)<T.nl∨(9:Nat)<T.nb)∧True)∧(¬(↑T.10:Int)≤(16:Int)→N0<(1:Nat)∧((24:Int)<(↑T.10:Int)→(true=true↔m<(↑T.nl:Int)∧T.nl≤(16:Nat)∨(24:Nat)<T.nl∨(9:Nat)<T.nb)∧True)∧(¬(24:Int)<(↑T.10:Int)→N0<(1:Nat)∧((9:Int)<(↑T.1:Int)↔m<(↑T.nl:Int)∧T.nl≤(16:Nat)∨(24:Nat)<T.nl∨(9:Nat)<T.nb) ∧
True)))∧(¬m<(↑T.10:Int)→N0<(1:Nat)∧((24:Int)<(↑T.10:Int)→(true=true↔m<(↑T.nl:Int)∧T.nl≤(16:Nat)∨(24:Nat)<T.nl∨(9:Nat)<T.nb)∧True)∧(¬(24:Int)<(↑T.10:Int)→N0<(1:Nat)∧((9:Int)<(↑T.1:Int)↔m<(↑T.nl:Int)∧T.nl≤(16:Nat)∨(24:Nat)<T.nl∨(9:Nat)<T.nb)∧True))):=by kernel_rfl
theorem spnG_vc (a:Int) (b:Int):spnG a b=(N0<(1:Nat)∧a=a∧b=b∧True):=by kernel_rfl
end Go.Proofs.Ytpdcajchppoocaa

set_option maxRecDepth 100000
namespace Go.Proofs.Ytpdcajchppoocaa
open Go Go.Lg
attribute [local irreducible] bodyH
theorem gr_true (T:Tn) (m:Int):grG T m:=by
 rw [grG_vc]
 simp only [rI,rE,tt3,tt4,tt5,tt13,tt14,and_true,true_and,implies_true,true_iff]
 refine ⟨by omega,fun h=>⟨by omega,fun h1=>by omega,fun h1=>⟨by omega,fun h2=>by omega,fun h2=>by omega⟩⟩,fun h=>⟨by omega,fun h2=>by omega,fun h2=>by omega⟩⟩
theorem gr_ok:grC.Ok Try.prog:=by
 refine ⟨by kernel_rfl,fun args k hk=>?_⟩
 simp only [grC] at hk
 split at hk
 ·obtain ⟨T,rfl,hk⟩:=hk
  exact ⟨_,Does.plain (funH_does nil_cs nil_x nil_ic mixed (gr_true T _)) trivial,hk⟩
 ·exact hk.elim
theorem spn_true (a b:Int):spnG a b:=by
 rw [spnG_vc]
 exact ⟨by omega,rfl,rfl,trivial⟩
theorem spn_ok:spnC.Ok Try.prog:=by
 refine ⟨by kernel_rfl,fun args k hk=>?_⟩
 simp only [spnC] at hk
 split at hk
 ·exact ⟨_,Does.plain (funH_does nil_cs nil_x nil_ic mixed (spn_true _ _)) (by simp [plainS,plainS.plainL,b6]),hk⟩
 ·exact hk.elim
end Go.Proofs.Ytpdcajchppoocaa

namespace Go.Lg
def zF:Nat→Int:=fun _=>0
def upN (p:Nat→Int) (i:Nat) (t:Int):Nat→Int:=fun j=>if j<i then p j else t
def lexQ (m:Nat) (x y:Nat→Int):Prop:=∃ i,i<m∧(∀ k,k<i→x k=y k)∧x i<y i
section
variable (lo hi:(Nat→Int)→Nat→Int) (F:(Nat→Int)→Prop) (m:Nat)
open Classical in
noncomputable def lsQ:Nat→(Nat→Int)→List (Nat→Int)
 | 0,p=>if F p then [p] else []
 | d+1,p=>(List.range (hi p (m - (d+1)) - lo p (m - (d+1))+1).toNat).flatMap fun (t:Nat)=>lsQ d (upN p (m - (d+1)) (lo p (m - (d+1))+(t:Int)))
end
section
variable {lo hi:(Nat→Int)→Nat→Int} {F:(Nat→Int)→Prop} {m:Nat}
def locQ (lo hi:(Nat→Int)→Nat→Int):Prop:=∀ p q i,(∀ j,j<i→p j=q j)→lo p i=lo q i∧hi p i=hi q i
theorem upN_lt {p:Nat→Int} {i:Nat} {t:Int} {j:Nat} (h:j<i):upN p i t j=p j:=if_pos h
theorem upN_at {p:Nat→Int} {i:Nat} {t:Int}:upN p i t i=t:=if_neg (Nat.lt_irrefl i)
theorem lsQ_mem (hl:locQ lo hi):∀ (d:Nat) (p x:Nat→Int),d≤m→x ∈ lsQ lo hi F m d p→(∀ i,i<m - d→x i=p i)∧(∀ i,m - d≤i→i<m→lo x i≤x i∧x i≤hi x i)∧F x
 | 0,p,x,_,hx=>by
  unfold lsQ at hx
  split at hx
  ·rename_i hF
   simp only [List.mem_singleton] at hx
   subst hx
   exact ⟨fun _ _=>rfl,fun i h1 h2=>by omega,hF⟩
  ·simp at hx
 | d+1,p,x,hd,hx=>by
  simp only [lsQ,List.mem_flatMap,List.mem_range] at hx
  obtain ⟨t,ht,hx⟩:=hx
  obtain ⟨h1,h2,h3⟩:=lsQ_mem hl d _ x (by omega) hx
  have hb:∀ i,i<m - (d+1)→x i=p i:=fun i hi=>by rw [h1 i (by omega),upN_lt hi]
  refine ⟨hb,fun i hi1 hi2=>?_,h3⟩
  by_cases e:i=m - (d+1)
  ·subst e
   obtain ⟨e1,e2⟩:=hl x p (m - (d+1)) hb
   rw [h1 _ (by omega),upN_at,e1,e2]
   omega
  ·exact h2 i (by omega) hi2
theorem lsQ_of (hl:locQ lo hi) {q:Nat→Int} (hF:∀ x,(∀ i,i<m→x i=q i)→F x):∀ (d:Nat) (p:Nat→Int),d≤m→(∀ i,i<m - d→q i=p i)→(∀ i,m - d≤i→i<m→lo q i≤q i∧q i≤hi q i)→∃ x,x ∈ lsQ lo hi F m d p∧∀ i,i<m→x i=q i
 | 0,p,_,h1,_=>by
  have h2:∀ i,i<m→p i=q i:=fun i hi=>(h1 i (by omega)).symm
  exact ⟨p,by unfold lsQ; rw [if_pos (hF p h2)]; simp,h2⟩
 | d+1,p,hd,h1,h2=>by
  obtain ⟨b1,b2⟩:=h2 (m - (d+1)) (by omega) (by omega)
  obtain ⟨e1,e2⟩:=hl q p (m - (d+1)) h1
  rw [e1] at b1
  rw [e2] at b2
  obtain ⟨x,hx,h3⟩:=lsQ_of hl hF d (upN p (m - (d+1)) (q (m - (d+1)))) (by omega) (fun i hi=>by
   by_cases e:i<m - (d+1)
   ·rw [upN_lt e]; exact h1 i e
   ·rw [show i=m - (d+1) by omega,upN_at]) (fun i h3 h4=>h2 i (by omega) h4)
  refine ⟨x,?_,h3⟩
  simp only [lsQ,List.mem_flatMap,List.mem_range]
  refine ⟨(q (m - (d+1)) - lo p (m - (d+1))).toNat,by omega,?_⟩
  rw [show lo p (m - (d+1))+((q (m - (d+1)) - lo p (m - (d+1))).toNat:Int)=q (m - (d+1)) by omega]
  exact hx
theorem lsQ_lex (hl:locQ lo hi):∀ (d:Nat) (p:Nat→Int),d≤m→List.Pairwise (lexQ m) (lsQ lo hi F m d p)
 | 0,p,_=>by
  unfold lsQ
  split
  ·simp
  ·exact List.Pairwise.nil
 | d+1,p,hd=>by
  simp only [lsQ]
  rw [List.pairwise_flatMap]
  refine ⟨fun t ht=>lsQ_lex hl d _ (by omega),?_⟩
  refine List.Pairwise.imp ?_ List.pairwise_lt_range
  intro t1 t2 ht x hx y hy
  obtain ⟨a1,_⟩:=lsQ_mem hl d _ x (by omega) hx
  obtain ⟨b1,_⟩:=lsQ_mem hl d _ y (by omega) hy
  refine ⟨m - (d+1),by omega,fun k hk=>?_,?_⟩
  ·rw [a1 k (by omega),b1 k (by omega),upN_lt hk,upN_lt hk]
  ·rw [a1 _ (by omega),b1 _ (by omega),upN_at,upN_at]
   omega
def prQ (B:Nat→Nat) (m:Nat):Nat→Nat
 | 0=>1
 | d+1=>B (m - (d+1))*prQ B m d
theorem getD_mem {O:List (Nat→Int)} {i:Nat} (h:i<O.length):O.getD i zF ∈ O:=by
 simp only [List.getD,List.getElem?_eq_getElem h,Option.getD_some]
 exact List.getElem_mem h
theorem getD_pair {R:(Nat→Int)→(Nat→Int)→Prop} {O:List (Nat→Int)} (hp:List.Pairwise R O) {i j:Nat} (hij:i<j) (hj:j<O.length):R (O.getD i zF) (O.getD j zF):=by
 have:=List.pairwise_iff_getElem.1 hp i j (by omega) hj hij
 simp only [List.getD]
 rw [List.getElem?_eq_getElem (by omega),List.getElem?_eq_getElem hj]
 exact this
theorem getD_of {O:List (Nat→Int)} {x:Nat→Int} (h:x ∈ O):∃ i,i<O.length∧O.getD i zF=x:=by
 obtain ⟨i,hi,e⟩:=List.getElem_of_mem h
 exact ⟨i,hi,by simp [List.getD,List.getElem?_eq_getElem hi,e]⟩
theorem getD_lo {O Q:List (Nat→Int)} {i:Nat} (h:i<O.length):(O ++ Q).getD i zF=O.getD i zF:=by
 simp [List.getD,List.getElem?_append_left h]
theorem getD_at {O:List (Nat→Int)} {p:Nat→Int}:(O ++ [p]).getD O.length zF=p:=by simp [List.getD]
theorem den_row {sz N:Nat} {f g:Nat→SV} (h:∀ i,i<N→f i=g i):denR (some (rowO sz N f))=denR (some (rowO sz N g)):=by
 have e:(rowO sz N f).els=(rowO sz N g).els:=List.map_congr_left fun i hi=>by
  show (f i).den=(g i).den
  rw [h i (List.mem_range.1 hi)]
 show some (rowO sz N f).den=some (rowO sz N g).den
 rw [rowO_den,rowO_den,e]
end
structure bstQ where
 w:Prop
 j:Nat
open Classical in
noncomputable def bsQ (V:Nat→Prop) (s:Nat→Int):Nat→bstQ
 | 0=>⟨False,0⟩
 | i+1=>if V i∧(¬ (bsQ V s i).w∨s i<s (bsQ V s i).j) then ⟨True,i⟩ else bsQ V s i
theorem bsQ_yes {V:Nat→Prop} {s:Nat→Int} {i:Nat} (h:V i∧(¬ (bsQ V s i).w∨s i<s (bsQ V s i).j)):bsQ V s (i+1)=⟨True,i⟩:=by rw [bsQ,if_pos h]
theorem bsQ_no {V:Nat→Prop} {s:Nat→Int} {i:Nat} (h:¬ (V i∧(¬ (bsQ V s i).w∨s i<s (bsQ V s i).j))):bsQ V s (i+1)=bsQ V s i:=by rw [bsQ,if_neg h]
theorem bsQ_inv (V:Nat→Prop) (s:Nat→Int):∀ i,(¬ (bsQ V s i).w∧bsQ V s i=⟨False,0⟩∧∀ j,j<i→¬ V j) ∨
  ((bsQ V s i).w∧(bsQ V s i).j<i∧V (bsQ V s i).j∧∀ k,k<i→V k→s (bsQ V s i).j≤s k∧(k<(bsQ V s i).j→s (bsQ V s i).j<s k))
 | 0=>.inl ⟨fun h=>h,rfl,fun j hj=>by omega⟩
 | i+1=>by
  have ih:=bsQ_inv V s i
  by_cases hb:V i∧(¬ (bsQ V s i).w∨s i<s (bsQ V s i).j)
  ·rw [bsQ_yes hb]
   refine .inr ⟨trivial,by show i<i+1; omega,hb.1,fun k hk hv=>?_⟩
   show s i≤s k∧(k<i→s i<s k)
   by_cases e:k=i
   ·subst e; exact ⟨Int.le_refl _,fun h=>by omega⟩
   ·rcases ih with ⟨_,_,h3⟩ | ⟨h1,h2,h3,h4⟩
    ·exact absurd hv (h3 k (by omega))
    ·have h5:=(h4 k (by omega) hv).1
     rcases hb.2 with h6 | h6
     ·exact absurd h1 h6
     ·exact ⟨by omega,fun _=>by omega⟩
  ·rw [bsQ_no hb]
   rcases ih with ⟨h1,h2,h3⟩ | ⟨h1,h2,h3,h4⟩
   ·refine .inl ⟨h1,h2,fun j hj=>?_⟩
    by_cases e:j=i
    ·subst e; exact fun hv=>hb ⟨hv,.inl h1⟩
    ·exact h3 j (by omega)
   ·refine .inr ⟨h1,by omega,h3,fun k hk hv=>?_⟩
    by_cases e:k=i
    ·subst e
     have:¬ s k<s (bsQ V s k).j:=fun hlt=>hb ⟨hv,.inr hlt⟩
     exact ⟨by omega,fun h=>by omega⟩
    ·exact h4 k (by omega) hv
end Go.Lg
