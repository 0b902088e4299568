import Derived.Test.YtmohedjgoakdjaaQeQfQfVQg
set_option linter.unusedVariables false
set_option linter.unusedSimpArgs false
namespace Go.Proofs.Ytmohedjgoakdjaa
open Go Go.Lg
attribute [local irreducible] bodyH funS
structure Gr where
  co : Int
  gv : Int
def Gr.sv (g : Gr) : SV := .agg [i6 g.co, i6 g.gv]
def cmpI (x y : Int) : Int := if x < y then -1 else if y < x then 1 else 0
def cmW (w : Nat) (a b : Gr) : Int := match w with
  | 0 => cmpI a.gv b.gv
  | _ => cmpI b.gv a.gv
def swp (f : Nat → Gr) (j : Nat) : Nat → Gr := fun k => if k = j - 1 then f j else if k = j then f (j - 1) else f k
open Classical in
noncomputable def inF (w : Nat) : (Nat → Gr) → Nat → (Nat → Gr)
  | f, 0 => f
  | f, j + 1 => if cmW w (f (j + 1)) (f j) < 0 then inF w (swp f (j + 1)) j else f
noncomputable def stF (w : Nat) (g : Nat → Gr) : Nat → (Nat → Gr)
  | 0 => g
  | i + 1 => inF w (stF w g i) i
structure in1 (q w : Nat) (g : Nat → Gr) (x : Nat × (Nat → Gr)) : Prop where
  a : 1 ≤ x.1
  b : x.1 ≤ max 1 q
  f : ∀ k, k < q → x.2 k = stF w g x.1 k
structure in2 (q w : Nat) (g : Nat → Gr) (x : Nat × Nat × (Nat → Gr)) : Prop where
  a : 1 ≤ x.1
  b : x.1 < q
  c : x.2.1 ≤ x.1
  f : ∀ k, k < q → inF w x.2.2 x.2.1 k = stF w g (x.1 + 1) k
structure in3 (q w : Nat) (g : Nat → Gr) (x : Nat × Nat × (Nat → Gr)) : Prop where
  a : 1 ≤ x.1
  b : x.1 < q
  c : x.2.1 ≤ x.1
  d : 1 ≤ x.2.1
  f : ∀ k, k < q → inF w x.2.2 (x.2.1 - 1) k = stF w g (x.1 + 1) k
end Go.Proofs.Ytmohedjgoakdjaa

set_option maxRecDepth 100000
namespace Go.Proofs.Ytmohedjgoakdjaa
open Go Go.Lg
end Go.Proofs.Ytmohedjgoakdjaa

set_option maxRecDepth 100000
namespace Go.Proofs.Ytmohedjgoakdjaa
open Go Go.Lg
attribute [local irreducible] funS bodyH
end Go.Proofs.Ytmohedjgoakdjaa

namespace Go.Proofs.Ytmohedjgoakdjaa
open Go Go.Lg
attribute [local irreducible] bodyH funS
structure okGr (n:Nat) (f:Nat→Gr):Prop where
 m:n≤6
 h:∀ i,i<n→0≤(f i).co∧(f i).co<6∧0≤(f i).gv∧(f i).gv≤100000
noncomputable def ylP (Y:Yd) (a b:Int):List Pn:=poS' Y.m (drS Y a b)
structure ylI (Y:Yd) (a b w:Int) (k:Nat):Prop where
 e:drE Y a b=0
 w0:0≤w
 w3:w≤3
 k:k≤(ylP Y a b).length
end Go.Proofs.Ytmohedjgoakdjaa

set_option maxRecDepth 100000
namespace Go.Proofs.Ytmohedjgoakdjaa
open Go Go.Lg
end Go.Proofs.Ytmohedjgoakdjaa

set_option maxRecDepth 100000
namespace Go.Proofs.Ytmohedjgoakdjaa
open Go Go.Lg
attribute [local irreducible] funS bodyH
end Go.Proofs.Ytmohedjgoakdjaa

set_option maxRecDepth 100000
namespace Go.Proofs.Ytmohedjgoakdjaa
open Go Go.Lg
attribute [local irreducible] funS bodyH
theorem lf_ua (M:Ms):∀ k,lf M k=sumJ (uaI M) k - sumJ (uoI M) k
 | 0=>rfl
 | k+1=>by
  rw [lf_s,uo_s,ua_s,lf_ua M k]
  unfold dl uoI uaI
  split <;> omega
theorem lf_pos {M:Ms} {c:Int} (hM:okMs c M) {n:Nat} (h:okSh M n):∀ k,k≤n→k≤M.n→0≤lf M k
 | 0,_,_=>by simp [lf,sumJ]
 | k+1,hk,hn=>by
  by_cases hd:(M.f k).co=-1
  ·exact h k (by omega) hd
  ·have:=lf_pos hM h k (by omega) (by omega)
   rw [lf_s,dl,if_neg hd]
   have:=(hM.h k (by omega)).t0
   omega
theorem ua_mono {M:Ms} {c:Int} (hM:okMs c M) {j:Nat}:∀ {d:Nat},j+d≤M.n→sumJ (uaI M) j≤sumJ (uaI M) (j+d)∧sumJ (uoI M) j≤sumJ (uoI M) (j+d)
 | 0,_=>⟨Int.le_refl _,Int.le_refl _⟩
 | d+1,h=>by
  have ih:=ua_mono hM (j:=j) (d:=d) (by omega)
  have m:=(hM.h (j+d) (by omega)).t0
  rw [← Nat.add_assoc,ua_s,uo_s]
  unfold uaI uoI at *
  split <;> omega
theorem dn_mono {M:Ms} {j:Nat}:∀ {d:Nat},dn M j≤dn M (j+d)
 | 0=>Nat.le_refl _
 | d+1=>by
  have ih:=dn_mono (M:=M) (j:=j) (d:=d)
  rw [← Nat.add_assoc]
  by_cases h:(M.f (j+d)).co=-1
  ·rw [dn_y h]; omega
  ·rw [dn_n h]; exact ih
theorem dn_le2 {M:Ms} {j k:Nat} (h:j≤k):dn M j≤dn M k:=by
 obtain ⟨d,rfl⟩:∃ d,k=j+d:=⟨k - j,by omega⟩
 exact dn_mono
theorem ds_first {M:Ms} {k:Nat}:∀ m,m≤k→ds M (dn M k) m=sumJ (uoI M) m
 | 0,_=>rfl
 | m+1,h=>by
  rw [ds_s,uo_s,ds_first m (by omega)]
  unfold dsI uoI
  by_cases hd:(M.f m).co=-1
  ·have:=dn_le2 (M:=M) (j:=m+1) (k:=k) (by omega)
   rw [dn_y hd] at this
   rw [if_pos hd,if_pos hd,if_pos (by omega)]
  ·rw [if_neg hd,if_neg hd]
theorem ds_all {M:Ms} {k:Nat}:∀ d,ds M (dn M k) (k+d)=sumJ (uoI M) k
 | 0=>ds_first k (Nat.le_refl _)
 | d+1=>by
  rw [← Nat.add_assoc,ds_s,ds_all d]
  have:=dn_mono (M:=M) (j:=k) (d:=d)
  unfold dsI
  split
  ·rw [if_neg (by omega)]; omega
  ·omega
theorem ds_to {M:Ms} {k m:Nat} (h:k≤m):ds M (dn M k) m=sumJ (uoI M) k:=by
 obtain ⟨d,rfl⟩:∃ d,m=k+d:=⟨m - k,by omega⟩
 exact ds_all d
theorem cu_to (M:Ms):∀ k,(cuL M k).to=sumJ (uaI M) k
 | 0=>rfl
 | k+1=>by
  rw [ua_s,← cu_to M k]
  unfold uaI
  by_cases hd:(M.f k).co=-1
  ·rw [(cu_d hd).1,if_pos hd]; omega
  ·rw [if_neg hd]
   by_cases hj:jnM M (k+1)
   ·rw [(cu_j hd hj).1]; rfl
   ·rw [(cu_e hd hj).1]; rfl
theorem cu_closed (M:Ms):∀ k,¬ jnM M k→(cuL M k).fr=(cuL M k).to
 | 0,_=>rfl
 | k+1,h=>by
  by_cases hd:(M.f k).co=-1
  ·rw [(cu_d hd).1]
   exact cu_closed M k fun h2=>h2.2.1 hd
  ·rw [(cu_e hd h).1]; rfl
theorem cm_add {s:Tw} {f t:Int} (h0:0≤f) (h:f≤t):cmT s ⟨0,f⟩+cmT s ⟨f,t⟩=cmT s ⟨0,t⟩:=by
 unfold cmT
 dsimp only
 omega
theorem ly_sum {M:Ms} (h:lyP M) (s:Tw):∀ k,k≤M.n→((lyL M k).map fun x=>cmT s x.st).sum=cmT s ⟨0,(cuL M k).fr⟩
 | 0,_=>by simp only [lyL,List.map_nil,List.sum_nil,cuL,zL,cmT]; omega
 | k+1,hk=>by
  have ih:=ly_sum h s k (by omega)
  have b:=(cu_bd h k (by omega)).1.f
  have m:=(h.h k (by omega)).2.2.1
  by_cases hd:(M.f k).co=-1
  ·rw [(cu_d hd).1,(cu_d hd).2]; exact ih
  ·by_cases hj:jnM M (k+1)
   ·rw [(cu_j hd hj).1,(cu_j hd hj).2]; exact ih
   ·rw [(cu_e hd hj).1,(cu_e hd hj).2,List.map_append,List.sum_append,ih]
    have e:(nwL ((cuL M k).add (M.f k)).to).fr=(cuL M k).to+(M.f k).tn:=rfl
    have e2:([(cuL M k).add (M.f k)].map fun x=>cmT s x.st).sum=cmT s ⟨(cuL M k).fr,(cuL M k).to+(M.f k).tn⟩:=by simp [La.st,La.add]
    rw [e,e2]
    exact cm_add b.1 (by omega)
theorem pt_s (l:List Pn) (x:Pn):sumJ (fun i=>((l ++ [x]).getD i zP).tn) (l ++ [x]).length=sumJ (fun i=>(l.getD i zP).tn) l.length+x.tn:=by
 have e:(l ++ [x]).length=l.length+1:=by simp
 rw [e]
 show sumJ _ l.length+((l ++ [x]).getD l.length zP).tn=_
 have e2:(l ++ [x]).getD l.length zP=x:=by rw [getD_snoc (by omega),if_neg (by omega)]
 rw [e2]
 congr 1
 have key:∀ m,m≤l.length→sumJ (fun i=>((l ++ [x]).getD i zP).tn) m=sumJ (fun i=>(l.getD i zP).tn) m:=by
  intro m
  induction m with
  | zero=>intro _; rfl
  | succ m ih =>
   intro hm
   show sumJ _ m+((l ++ [x]).getD m zP).tn=sumJ _ m+(l.getD m zP).tn
   rw [ih (by omega),getD_snoc (by omega),if_pos (by omega)]
 exact key _ (Nat.le_refl _)
noncomputable def ptA (l:List Pn):Int:=sumJ (fun i=>(l.getD i zP).tn) l.length
theorem cm_nn (s t:Tw):0≤cmT s t:=by unfold cmT; omega
theorem po_sum {M:Ms} {s:Tw}:∀ k,ptA (poM M s k)=sumJ (fun j=>cmT s (lyF M j).st) k
 | 0=>rfl
 | k+1=>by
  have ih:=po_sum (M:=M) (s:=s) k
  have nn:=cm_nn s (lyF M k).st
  show _=sumJ _ k+cmT s (lyF M k).st
  rw [← ih]
  by_cases h:0<cmT s (lyF M k).st
  ·rw [po_y h]
   unfold ptA
   rw [pt_s]
  ·rw [po_n h]; omega
theorem sumJ_congr {f g:Nat→Int}:∀ {m:Nat},(∀ i,i<m→f i=g i)→sumJ f m=sumJ g m
 | 0,_=>rfl
 | m+1,h=>by
  show sumJ f m+f m=sumJ g m+g m
  rw [sumJ_congr (m:=m) fun i hi=>h i (by omega),h m (by omega)]
theorem sum_list (g:La→Int):∀ l:List La,sumJ (fun j=>g (l.getD j zL)) l.length=(l.map g).sum:=by
 intro l
 have key:∀ (r:List La),sumJ (fun j=>g (r.reverse.getD j zL)) r.reverse.length=(r.reverse.map g).sum:=by
  intro r
  induction r with
  | nil=>rfl
  | cons x r ih =>
   have e:(x :: r).reverse=r.reverse ++ [x]:=by simp
   rw [e]
   have e1:(r.reverse ++ [x]).length=r.reverse.length+1:=by simp
   rw [e1]
   show sumJ _ r.reverse.length+g ((r.reverse ++ [x]).getD r.reverse.length zL)=_
   rw [getD_snoc (by omega),if_neg (by omega),List.map_append,List.sum_append,← ih]
   congr 1
   ·exact sumJ_congr fun i hi=>by rw [getD_snoc (by omega),if_pos hi]
   ·simp
 have:=key l.reverse
 rwa [List.reverse_reverse] at this
theorem po_all {M:Ms} (h:lyP M) (s:Tw):ptA (poS' M s)=cmT s ⟨0,sumJ (uaI M) M.n⟩:=by
 have e:ptA (poS' M s)=sumJ (fun j=>cmT s (lyF M j).st) (lyN M):=po_sum (lyN M)
 rw [e]
 have e2:sumJ (fun j=>cmT s (lyF M j).st) (lyN M)=((lyL M M.n).map fun x=>cmT s x.st).sum:=sum_list (fun x=>cmT s x.st) (lyL M M.n)
 rw [e2,ly_sum h s M.n (Nat.le_refl _),cu_closed M M.n (fun h2=>by have:=h2.1; omega),cu_to]
theorem draw_sum {Y:Yd} (hc:ckY Y=0) {k:Nat} (hk:k<Y.m.n) (hd:(Y.m.f k).co=-1):drE Y (dn Y.m k) (dn Y.m k)=0∧ptA (dwL Y (dn Y.m k))=(Y.m.f k).tn:=by
 obtain ⟨hC,hM,hS⟩:=ck_0 hc
 have d1:=dn_y hd
 have d2:=dn_le2 (M:=Y.m) (j:=k+1) (k:=Y.m.n) (by omega)
 have e:drE Y (dn Y.m k) (dn Y.m k)=0:=drE_0 hc (by omega)
 refine ⟨e,?_⟩
 rw [dw_yes e,po_all (ck_ly hc),drS_y e]
 have s1:ds Y.m (dn Y.m k) Y.m.n=sumJ (uoI Y.m) k:=ds_to (by omega)
 have s2:ds Y.m ((dn Y.m k:Int)+1) Y.m.n=sumJ (uoI Y.m) (k+1):=by
  have:((dn Y.m k:Int)+1)=((dn Y.m (k+1):Nat):Int):=by rw [d1]; rfl
  rw [this]; exact ds_to (by omega)
 rw [s1,s2]
 have u:=uo_s Y.m k
 unfold uoI at u
 rw [if_pos hd] at u
 have p:=lf_pos hM hS (k+1) (by omega) (by omega)
 rw [lf_ua] at p
 obtain ⟨d,hd2⟩:∃ d,Y.m.n=k+1+d:=⟨Y.m.n - (k+1),by omega⟩
 have mo:=(ua_mono hM (j:=k+1) (d:=d) (by omega)).1
 rw [← hd2] at mo
 have t0:=(hM.h k hk).t0
 have b:=(un_bd hM (k:=k) (by omega)).1.1
 change sumJ (uoI Y.m) (k+1)=sumJ (uoI Y.m) k+(Y.m.f k).tn at u
 unfold cmT
 dsimp only
 omega
end Go.Proofs.Ytmohedjgoakdjaa
