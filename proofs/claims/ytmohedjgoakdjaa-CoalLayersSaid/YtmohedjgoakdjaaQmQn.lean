import Derived.Test.YtmohedjgoakdjaaQjQjVQk
set_option linter.unusedVariables false
set_option linter.unusedSimpArgs false
set_option maxRecDepth 100000
namespace Go.Proofs.Ytmohedjgoakdjaa
open Go Go.Lg
attribute [local irreducible] funS bodyH
theorem lf_ua (M:Ms):∀ k,lf M k=sumJ (uaI M) k - sumJ (uoI M) k
 | 0=>rfl
 | k+1=>by
  rw [lf_s,uo_s,ua_s,lf_ua M k]
  unfold dl uoI uaI
  split <;> omega
theorem lf_pos {M:Ms} {c:Int} (hM:okMs c M) {n:Nat} (h:okSh M n):∀ k,k≤n→k≤M.n→0≤lf M k
 | 0,_,_=>by simp [lf,sumJ]
 | k+1,hk,hn=>by
  by_cases hd:(M.f k).co=-1
  ·exact h k (by omega) hd
  ·have:=lf_pos hM h k (by omega) (by omega)
   rw [lf_s,dl,if_neg hd]
   have:=(hM.h k (by omega)).t0
   omega
theorem ua_mono {M:Ms} {c:Int} (hM:okMs c M) {j:Nat}:∀ {d:Nat},j+d≤M.n→sumJ (uaI M) j≤sumJ (uaI M) (j+d)∧sumJ (uoI M) j≤sumJ (uoI M) (j+d)
 | 0,_=>⟨Int.le_refl _,Int.le_refl _⟩
 | d+1,h=>by
  have ih:=ua_mono hM (j:=j) (d:=d) (by omega)
  have m:=(hM.h (j+d) (by omega)).t0
  rw [← Nat.add_assoc,ua_s,uo_s]
  unfold uaI uoI at *
  split <;> omega
theorem dn_mono {M:Ms} {j:Nat}:∀ {d:Nat},dn M j≤dn M (j+d)
 | 0=>Nat.le_refl _
 | d+1=>by
  have ih:=dn_mono (M:=M) (j:=j) (d:=d)
  rw [← Nat.add_assoc]
  by_cases h:(M.f (j+d)).co=-1
  ·rw [dn_y h]; omega
  ·rw [dn_n h]; exact ih
theorem dn_le2 {M:Ms} {j k:Nat} (h:j≤k):dn M j≤dn M k:=by
 obtain ⟨d,rfl⟩:∃ d,k=j+d:=⟨k - j,by omega⟩
 exact dn_mono
theorem ds_first {M:Ms} {k:Nat}:∀ m,m≤k→ds M (dn M k) m=sumJ (uoI M) m
 | 0,_=>rfl
 | m+1,h=>by
  rw [ds_s,uo_s,ds_first m (by omega)]
  unfold dsI uoI
  by_cases hd:(M.f m).co=-1
  ·have:=dn_le2 (M:=M) (j:=m+1) (k:=k) (by omega)
   rw [dn_y hd] at this
   rw [if_pos hd,if_pos hd,if_pos (by omega)]
  ·rw [if_neg hd,if_neg hd]
theorem ds_all {M:Ms} {k:Nat}:∀ d,ds M (dn M k) (k+d)=sumJ (uoI M) k
 | 0=>ds_first k (Nat.le_refl _)
 | d+1=>by
  rw [← Nat.add_assoc,ds_s,ds_all d]
  have:=dn_mono (M:=M) (j:=k) (d:=d)
  unfold dsI
  split
  ·rw [if_neg (by omega)]; omega
  ·omega
theorem ds_to {M:Ms} {k m:Nat} (h:k≤m):ds M (dn M k) m=sumJ (uoI M) k:=by
 obtain ⟨d,rfl⟩:∃ d,m=k+d:=⟨m - k,by omega⟩
 exact ds_all d
theorem cu_to (M:Ms):∀ k,(cuL M k).to=sumJ (uaI M) k
 | 0=>rfl
 | k+1=>by
  rw [ua_s,← cu_to M k]
  unfold uaI
  by_cases hd:(M.f k).co=-1
  ·rw [(cu_d hd).1,if_pos hd]; omega
  ·rw [if_neg hd]
   by_cases hj:jnM M (k+1)
   ·rw [(cu_j hd hj).1]; rfl
   ·rw [(cu_e hd hj).1]; rfl
theorem cu_closed (M:Ms):∀ k,¬ jnM M k→(cuL M k).fr=(cuL M k).to
 | 0,_=>rfl
 | k+1,h=>by
  by_cases hd:(M.f k).co=-1
  ·rw [(cu_d hd).1]
   exact cu_closed M k fun h2=>h2.2.1 hd
  ·rw [(cu_e hd h).1]; rfl
theorem cu_draw {M:Ms} {k:Nat} (hd:(M.f k).co=-1):(cuL M (k+1)).fr=sumJ (uaI M) k:=by
 rw [(cu_d hd).1,cu_closed M k fun h2=>h2.2.1 hd,cu_to]
theorem cm_add {s:Tw} {f t:Int} (h0:0≤f) (h:f≤t):cmT s ⟨0,f⟩+cmT s ⟨f,t⟩=cmT s ⟨0,t⟩:=by
 unfold cmT
 dsimp only
 omega
theorem ly_sum {M:Ms} (h:lyP M) (s:Tw):∀ k,k≤M.n→((lyL M k).map fun x=>cmT s x.st).sum=cmT s ⟨0,(cuL M k).fr⟩
 | 0,_=>by simp only [lyL,List.map_nil,List.sum_nil,cuL,zL,cmT]; omega
 | k+1,hk=>by
  have ih:=ly_sum h s k (by omega)
  have b:=(cu_bd h k (by omega)).1.f
  have m:=(h.h k (by omega)).2.2.1
  by_cases hd:(M.f k).co=-1
  ·rw [(cu_d hd).1,(cu_d hd).2]; exact ih
  ·by_cases hj:jnM M (k+1)
   ·rw [(cu_j hd hj).1,(cu_j hd hj).2]; exact ih
   ·rw [(cu_e hd hj).1,(cu_e hd hj).2,List.map_append,List.sum_append,ih]
    have e:(nwL ((cuL M k).add (M.f k)).to).fr=(cuL M k).to+(M.f k).tn:=rfl
    have e2:([(cuL M k).add (M.f k)].map fun x=>cmT s x.st).sum=cmT s ⟨(cuL M k).fr,(cuL M k).to+(M.f k).tn⟩:=by simp [La.st,La.add]
    rw [e,e2]
    exact cm_add b.1 (by omega)
theorem pt_s (l:List Pn) (x:Pn):sumJ (fun i=>((l ++ [x]).getD i zP).tn) (l ++ [x]).length=sumJ (fun i=>(l.getD i zP).tn) l.length+x.tn:=by
 have e:(l ++ [x]).length=l.length+1:=by simp
 rw [e]
 show sumJ _ l.length+((l ++ [x]).getD l.length zP).tn=_
 have e2:(l ++ [x]).getD l.length zP=x:=by rw [getD_snoc (by omega),if_neg (by omega)]
 rw [e2]
 congr 1
 have key:∀ m,m≤l.length→sumJ (fun i=>((l ++ [x]).getD i zP).tn) m=sumJ (fun i=>(l.getD i zP).tn) m:=by
  intro m
  induction m with
  | zero=>intro _; rfl
  | succ m ih =>
   intro hm
   show sumJ _ m+((l ++ [x]).getD m zP).tn=sumJ _ m+(l.getD m zP).tn
   rw [ih (by omega),getD_snoc (by omega),if_pos (by omega)]
 exact key _ (Nat.le_refl _)
noncomputable def ptA (l:List Pn):Int:=sumJ (fun i=>(l.getD i zP).tn) l.length
theorem cm_nn (s t:Tw):0≤cmT s t:=by unfold cmT; omega
theorem po_sum {M:Ms} {s:Tw}:∀ k,ptA (poM M s k)=sumJ (fun j=>cmT s (lyF M j).st) k
 | 0=>rfl
 | k+1=>by
  have ih:=po_sum (M:=M) (s:=s) k
  have nn:=cm_nn s (lyF M k).st
  show _=sumJ _ k+cmT s (lyF M k).st
  rw [← ih]
  by_cases h:0<cmT s (lyF M k).st
  ·rw [po_y h]
   unfold ptA
   rw [pt_s]
  ·rw [po_n h]; omega
theorem sumJ_congr {f g:Nat→Int}:∀ {m:Nat},(∀ i,i<m→f i=g i)→sumJ f m=sumJ g m
 | 0,_=>rfl
 | m+1,h=>by
  show sumJ f m+f m=sumJ g m+g m
  rw [sumJ_congr (m:=m) fun i hi=>h i (by omega),h m (by omega)]
theorem sum_list (g:La→Int):∀ l:List La,sumJ (fun j=>g (l.getD j zL)) l.length=(l.map g).sum:=by
 intro l
 have key:∀ (r:List La),sumJ (fun j=>g (r.reverse.getD j zL)) r.reverse.length=(r.reverse.map g).sum:=by
  intro r
  induction r with
  | nil=>rfl
  | cons x r ih =>
   have e:(x :: r).reverse=r.reverse ++ [x]:=by simp
   rw [e]
   have e1:(r.reverse ++ [x]).length=r.reverse.length+1:=by simp
   rw [e1]
   show sumJ _ r.reverse.length+g ((r.reverse ++ [x]).getD r.reverse.length zL)=_
   rw [getD_snoc (by omega),if_neg (by omega),List.map_append,List.sum_append,← ih]
   congr 1
   ·exact sumJ_congr fun i hi=>by rw [getD_snoc (by omega),if_pos hi]
   ·simp
 have:=key l.reverse
 rwa [List.reverse_reverse] at this
theorem po_all {M:Ms} (h:lyP M) (s:Tw):ptA (poS' M s)=cmT s ⟨0,sumJ (uaI M) M.n⟩:=by
 have e:ptA (poS' M s)=sumJ (fun j=>cmT s (lyF M j).st) (lyN M):=po_sum (lyN M)
 rw [e]
 have e2:sumJ (fun j=>cmT s (lyF M j).st) (lyN M)=((lyL M M.n).map fun x=>cmT s x.st).sum:=sum_list (fun x=>cmT s x.st) (lyL M M.n)
 rw [e2,ly_sum h s M.n (Nat.le_refl _),cu_closed M M.n (fun h2=>by have:=h2.1; omega),cu_to]
theorem draw_sum {Y:Yd} (hc:ckY Y=0) {k:Nat} (hk:k<Y.m.n) (hd:(Y.m.f k).co=-1):drE Y (dn Y.m k) (dn Y.m k)=0∧ptA (dwL Y (dn Y.m k))=(Y.m.f k).tn:=by
 obtain ⟨hC,hM,hS⟩:=ck_0 hc
 have d1:=dn_y hd
 have d2:=dn_le2 (M:=Y.m) (j:=k+1) (k:=Y.m.n) (by omega)
 have e:drE Y (dn Y.m k) (dn Y.m k)=0:=drE_0 hc (by omega)
 refine ⟨e,?_⟩
 rw [dw_yes e,po_all (ck_ly hc),drS_y e]
 have s1:ds Y.m (dn Y.m k) Y.m.n=sumJ (uoI Y.m) k:=ds_to (by omega)
 have s2:ds Y.m ((dn Y.m k:Int)+1) Y.m.n=sumJ (uoI Y.m) (k+1):=by
  have:((dn Y.m k:Int)+1)=((dn Y.m (k+1):Nat):Int):=by rw [d1]; rfl
  rw [this]; exact ds_to (by omega)
 rw [s1,s2]
 have u:=uo_s Y.m k
 unfold uoI at u
 rw [if_pos hd] at u
 have p:=lf_pos hM hS (k+1) (by omega) (by omega)
 rw [lf_ua] at p
 obtain ⟨d,hd2⟩:∃ d,Y.m.n=k+1+d:=⟨Y.m.n - (k+1),by omega⟩
 have mo:=(ua_mono hM (j:=k+1) (d:=d) (by omega)).1
 rw [← hd2] at mo
 have t0:=(hM.h k hk).t0
 have b:=(un_bd hM (k:=k) (by omega)).1.1
 change sumJ (uoI Y.m) (k+1)=sumJ (uoI Y.m) k+(Y.m.f k).tn at u
 unfold cmT
 dsimp only
 omega
theorem left_sum {Y:Yd} (hc:ckY Y=0):ptA (lfL Y)=lf Y.m Y.m.n:=by
 obtain ⟨hC,hM,hS⟩:=ck_0 hc
 rw [lf_yes hc,po_all (ck_ly hc)]
 have p:=lf_pos hM hS Y.m.n (by omega) (by omega)
 have b:=(un_bd hM (k:=Y.m.n) (by omega)).1.1
 rw [lf_ua] at p ⊢
 unfold cmT udS
 dsimp only
 omega
theorem ly_later {M:Ms} (h:lyP M) {k:Nat}:∀ d,k+d≤M.n→(cuL M k).fr≤(cuL M (k+d)).fr∧∃ t,lyL M (k+d)=lyL M k ++ t∧∀ x ∈ t,(cuL M k).fr≤x.fr
 | 0,_=>⟨Int.le_refl _,[],by simp,fun x hx=>by simp at hx⟩
 | d+1,hk=>by
  obtain ⟨h1,t,h2,h3⟩:=ly_later (k:=k) h d (by omega)
  have b:=(cu_bd h (k+d) (by omega)).1.f
  have m:=(h.h (k+d) (by omega)).2.2.1
  rw [← Nat.add_assoc]
  by_cases hd:(M.f (k+d)).co=-1
  ·rw [(cu_d hd).1,(cu_d hd).2]; exact ⟨h1,t,h2,h3⟩
  ·by_cases hj:jnM M (k+d+1)
   ·rw [(cu_j hd hj).1,(cu_j hd hj).2]; exact ⟨h1,t,h2,h3⟩
   ·rw [(cu_e hd hj).1,(cu_e hd hj).2]
    refine ⟨?_,t ++ [(cuL M (k+d)).add (M.f (k+d))],by rw [h2,List.append_assoc],fun x hx=>?_⟩
    ·show (cuL M k).fr≤(cuL M (k+d)).to+(M.f (k+d)).tn
     omega
    ·rcases List.mem_append.1 hx with hx | hx
     ·exact h3 x hx
     ·simp at hx; rw [hx]; exact h1
theorem po_stop {M:Ms} {s:Tw} {j:Nat}:∀ d,(∀ i,j≤i→i<j+d→s.hi≤(lyF M i).fr)→poM M s (j+d)=poM M s j
 | 0,_=>rfl
 | d+1,h=>by
  rw [← Nat.add_assoc,po_n,po_stop d fun i h1 h2=>h i h1 (by omega)]
  have:=h (j+d) (by omega) (by omega)
  unfold cmT La.st
  dsimp only
  omega
theorem po_congr {M M':Ms} {s:Tw}:∀ k,(∀ j,j<k→lyF M j=lyF M' j)→poM M s k=poM M' s k
 | 0,_=>rfl
 | k+1,h=>by
  have e:=h k (by omega)
  have ih:=po_congr (s:=s) k fun j hj=>h j (by omega)
  by_cases hc:0<cmT s (lyF M k).st
  ·rw [po_y hc,po_y (by rw [← e]; exact hc),ih,e]
  ·rw [po_n hc,po_n (by rw [← e]; exact hc),ih]
def cuM (M:Ms) (k:Nat):Ms:=⟨k,M.f⟩
def cuY (Y:Yd) (k:Nat):Yd:=⟨Y.c,cuM Y.m k⟩
theorem pv_cu (M:Ms) (n k:Nat):pv (cuM M n) k=pv M k:=by cases k <;> rfl
theorem dn_cu (M:Ms) (n:Nat):∀ k,dn (cuM M n) k=dn M k
 | 0=>rfl
 | k+1=>by
  by_cases h:(M.f k).co=-1
  ·rw [dn_y h,dn_y (M:=cuM M n) h,dn_cu M n k]
  ·rw [dn_n h,dn_n (M:=cuM M n) h,dn_cu M n k]
theorem ds_cu (M:Ms) (n:Nat) (a:Int):∀ k,ds (cuM M n) a k=ds M a k
 | 0=>rfl
 | k+1=>by
  rw [ds_s,ds_s,ds_cu M n a k]
  unfold dsI
  rw [dn_cu]
  rfl
theorem cu_cu {M:Ms} {k:Nat} (hk:k<M.n):∀ i,i≤k→cuL (cuM M (k+1)) i=cuL M i∧lyL (cuM M (k+1)) i=lyL M i
 | 0,_=>⟨rfl,rfl⟩
 | i+1,hi=>by
  obtain ⟨h1,h2⟩:=cu_cu hk i (by omega)
  have ej:jnM (cuM M (k+1)) (i+1)↔jnM M (i+1):=⟨fun h=>⟨by omega,h.2⟩,fun h=>⟨by show i+1<k+1; omega,h.2⟩⟩
  by_cases hd:(M.f i).co=-1
  ·rw [(cu_d hd).1,(cu_d hd).2,(cu_d (M:=cuM M (k+1)) hd).1,(cu_d (M:=cuM M (k+1)) hd).2]; exact ⟨h1,h2⟩
  ·by_cases hj:jnM M (i+1)
   ·rw [(cu_j hd hj).1,(cu_j hd hj).2,(cu_j (M:=cuM M (k+1)) hd (ej.2 hj)).1,(cu_j (M:=cuM M (k+1)) hd (ej.2 hj)).2,h1,h2]; exact ⟨rfl,rfl⟩
   ·rw [(cu_e hd hj).1,(cu_e hd hj).2,(cu_e (M:=cuM M (k+1)) hd fun h=>hj (ej.1 h)).1,(cu_e (M:=cuM M (k+1)) hd fun h=>hj (ej.1 h)).2,h1,h2]; exact ⟨rfl,rfl⟩
theorem cut_ok {Y:Yd} (hc:ckY Y=0) {k:Nat} (hk:k<Y.m.n) (hd:(Y.m.f k).co=-1):drE (cuY Y (k+1)) (dn Y.m k) (dn Y.m k)=0∧dwL (cuY Y (k+1)) (dn Y.m k)=dwL Y (dn Y.m k):=by
 obtain ⟨hC,hM,hS⟩:=ck_0 hc
 have hM':okMs Y.c.n (cuM Y.m (k+1)):=⟨by have:=hM.n; show k+1≤32; omega,fun i hi=>by
  have hi:i<k+1:=hi
  have m:=hM.h i (by omega)
  exact ⟨by rw [pv_cu]; exact m.h0,m.h1,m.c0,m.c1,m.t0,m.t1⟩⟩
 have hS':okSh (cuY Y (k+1)).m (cuY Y (k+1)).m.n:=fun i hi hd=>hS i (by have hi:i<k+1:=hi; omega) hd
 have hc':ckY (cuY Y (k+1))=0:=by
  unfold ckY
  rw [if_pos ⟨hC,hM'⟩,if_pos hS']
 have d1:=dn_y hd
 have e0:=(draw_sum hc hk hd).1
 have e:drE (cuY Y (k+1)) (dn Y.m k) (dn Y.m k)=0:=drE_0 hc' (by
  show ¬ (_∨_∨((dn (cuM Y.m (k+1)) (k+1):Nat):Int)≤_)
  rw [dn_cu]; omega)
 refine ⟨e,?_⟩
 rw [dw_yes e,dw_yes e0,drS_y e,drS_y e0]
 have s1:ds (cuY Y (k+1)).m (dn Y.m k) (cuY Y (k+1)).m.n=ds Y.m (dn Y.m k) Y.m.n:=by
  show ds (cuM Y.m (k+1)) _ (k+1)=_
  rw [ds_cu,ds_to (by omega),ds_to (by omega)]
 have e2:((dn Y.m k:Int)+1)=((dn Y.m (k+1):Nat):Int):=by rw [d1]; rfl
 have s2:ds (cuY Y (k+1)).m ((dn Y.m k:Int)+1) (cuY Y (k+1)).m.n=ds Y.m ((dn Y.m k:Int)+1) Y.m.n:=by
  show ds (cuM Y.m (k+1)) _ (k+1)=_
  rw [e2,ds_cu,ds_to (by omega),ds_to (by omega)]
 rw [s1,s2]
 generalize hs:(⟨ds Y.m (dn Y.m k) Y.m.n,ds Y.m ((dn Y.m k:Int)+1) Y.m.n⟩:Tw)=s
 have shi:s.hi=sumJ (uoI Y.m) (k+1):=by
  rw [← hs]
  show ds Y.m ((dn Y.m k:Int)+1) Y.m.n=_
  rw [e2]; exact ds_to (by omega)
 have hl:=ck_ly hc
 obtain ⟨q1,q2⟩:=cu_cu hk k (Nat.le_refl _)
 have n':lyL (cuM Y.m (k+1)) (k+1)=lyL Y.m (k+1):=by rw [(cu_d (M:=cuM Y.m (k+1)) hd).2,(cu_d hd).2,q2]
 obtain ⟨dd,hdd⟩:∃ d,Y.m.n=k+1+d:=⟨Y.m.n - (k+1),by omega⟩
 obtain ⟨r1,t,r2,r3⟩:=ly_later hl (k:=k+1) dd (by omega)
 rw [← hdd] at r2
 have ln:lyN Y.m=(lyL Y.m (k+1)).length+t.length:=by unfold lyN; rw [r2]; simp
 have ln':lyN (cuM Y.m (k+1))=(lyL Y.m (k+1)).length:=by
  show (lyL (cuM Y.m (k+1)) (k+1)).length=_
  rw [n']
 show poM (cuM Y.m (k+1)) s (lyN (cuM Y.m (k+1)))=poM Y.m s (lyN Y.m)
 rw [ln',ln,po_stop]
 ·refine po_congr _ fun j hj=>?_
  show (lyL (cuM Y.m (k+1)) (k+1)).getD j zL=(lyL Y.m Y.m.n).getD j zL
  rw [n',r2]
  simp [List.getD,List.getElem?_append_left hj]
 ·intro i h1 h2
  have:lyF Y.m i ∈ t:=by
   unfold lyF
   rw [r2,List.getD,List.getElem?_append_right h1,List.getElem?_eq_getElem (by omega)]
   exact List.getElem_mem _
  have a:=r3 _ this
  rw [cu_draw hd] at a
  have p:=lf_pos hM hS (k+1) (by omega) (by omega)
  rw [lf_ua,ua_s] at p
  unfold uaI at p
  rw [if_pos hd] at p
  rw [shi]
  change 0≤sumJ (uaI Y.m) k+0 - sumJ (uoI Y.m) (k+1) at p
  omega
end Go.Proofs.Ytmohedjgoakdjaa

set_option maxRecDepth 100000
namespace Go.Proofs.Ytmohedjgoakdjaa
open Go Go.Lg
attribute [local irreducible] funS bodyH
structure Swp (M M':Ms) (i:Nat):Prop where
 n:M'.n=M.n
 i1:1≤i
 i2:i<M.n
 a:M'.f (i - 1)=M.f i
 b:M'.f i=M.f (i - 1)
 o:∀ k,k≠i - 1→k≠i→M'.f k=M.f k
 ha:¬ (M.f (i - 1)).co=-1
 hb:¬ (M.f i).co=-1
 h:(M.f (i - 1)).hr=(M.f i).hr
theorem Swp.symm {M M':Ms} {i:Nat} (h:Swp M M' i):Swp M' M i:=⟨h.n.symm,h.i1,by rw [h.n]; exact h.i2,h.b.symm,h.a.symm,fun k h1 h2=>(h.o k h1 h2).symm,by rw [h.a]; exact h.hb,by rw [h.b]; exact h.ha,by rw [h.a,h.b]; exact h.h.symm⟩
section
variable {M M':Ms} {i:Nat} (h:Swp M M' i)
include h
theorem Swp.hr (k:Nat):(M'.f k).hr=(M.f k).hr:=by
 by_cases e:k=i - 1
 ·subst e; rw [h.a,h.h]
 ·by_cases e2:k=i
  ·subst e2; rw [h.b,h.h]
  ·rw [h.o k e e2]
theorem Swp.dr (k:Nat):(M'.f k).co=-1↔(M.f k).co=-1:=by
 by_cases e:k=i - 1
 ·subst e; rw [h.a]; exact ⟨fun h2=>absurd h2 h.hb,fun h2=>absurd h2 h.ha⟩
 ·by_cases e2:k=i
  ·subst e2; rw [h.b]; exact ⟨fun h2=>absurd h2 h.ha,fun h2=>absurd h2 h.hb⟩
  ·rw [h.o k e e2]
theorem Swp.pv (k:Nat):Go.Proofs.Ytmohedjgoakdjaa.pv M' k=Go.Proofs.Ytmohedjgoakdjaa.pv M k:=by
 cases k with
 | zero=>rfl
 | succ k=>exact h.hr k
theorem Swp.okM {c:Int} (hM:okMs c M):okMs c M':=⟨by rw [h.n]; exact hM.n,fun k hk=>by
 rw [h.n] at hk
 have m:=hM.h k hk
 have i1:=h.i1
 have i2:=h.i2
 refine ⟨by rw [h.pv,h.hr]; exact m.h0,by rw [h.hr]; exact m.h1,?_,?_,?_,?_⟩ <;> by_cases e:k=i - 1
 ·subst e; rw [h.a]; exact (hM.h i i2).c0
 ·by_cases e2:k=i
  ·subst e2; rw [h.b]; exact (hM.h (k - 1) (by omega)).c0
  ·rw [h.o k e e2]; exact m.c0
 ·subst e; rw [h.a]; exact (hM.h i i2).c1
 ·by_cases e2:k=i
  ·subst e2; rw [h.b]; exact (hM.h (k - 1) (by omega)).c1
  ·rw [h.o k e e2]; exact m.c1
 ·subst e; rw [h.a]; exact (hM.h i i2).t0
 ·by_cases e2:k=i
  ·subst e2; rw [h.b]; exact (hM.h (k - 1) (by omega)).t0
  ·rw [h.o k e e2]; exact m.t0
 ·subst e; rw [h.a]; exact (hM.h i i2).t1
 ·by_cases e2:k=i
  ·subst e2; rw [h.b]; exact (hM.h (k - 1) (by omega)).t1
  ·rw [h.o k e e2]; exact m.t1⟩
theorem Swp.dn:∀ k,Go.Proofs.Ytmohedjgoakdjaa.dn M' k=Go.Proofs.Ytmohedjgoakdjaa.dn M k
 | 0=>rfl
 | k+1=>by
  by_cases hd:(M.f k).co=-1
  ·rw [dn_y hd,dn_y ((h.dr k).2 hd),Swp.dn k]
  ·rw [dn_n hd,dn_n fun h2=>hd ((h.dr k).1 h2),Swp.dn k]
theorem Swp.same {k:Nat} (hd:(M.f k).co=-1):M'.f k=M.f k:=by
 refine h.o k (fun e=>?_) (fun e=>?_)
 ·subst e; exact h.ha hd
 ·subst e; exact h.hb hd
theorem Swp.ds (a:Int):∀ k,Go.Proofs.Ytmohedjgoakdjaa.ds M' a k=Go.Proofs.Ytmohedjgoakdjaa.ds M a k
 | 0=>rfl
 | k+1=>by
  rw [ds_s,ds_s,Swp.ds a k]
  congr 1
  unfold dsI
  by_cases hd:(M.f k).co=-1
  ·rw [if_pos hd,if_pos ((h.dr k).2 hd),h.dn,h.same hd]
  ·rw [if_neg hd,if_neg fun h2=>hd ((h.dr k).1 h2)]
theorem Swp.lf0:∀ k,k<i→lf M' k=lf M k
 | 0,_=>rfl
 | k+1,hk=>by
  rw [lf_s,lf_s,Swp.lf0 k (by omega)]
  unfold dl
  rw [h.o k (by omega) (by omega)]
theorem Swp.lf1:∀ d,lf M' (i+1+d)=lf M (i+1+d)
 | 0=>by
  have i1:=h.i1
  obtain ⟨j,rfl⟩:∃ j,i=j+1:=⟨i - 1,by omega⟩
  have ea:M'.f j=M.f (j+1):=h.a
  have eb:M'.f (j+1)=M.f j:=h.b
  have ha:¬ (M.f j).co=-1:=h.ha
  rw [Nat.add_zero,lf_s,lf_s,lf_s,lf_s,h.lf0 j (by omega)]
  unfold dl
  rw [ea,eb,if_neg ha,if_neg h.hb]
  omega
 | d+1=>by
  rw [← Nat.add_assoc,lf_s,lf_s,Swp.lf1 d]
  unfold dl
  rw [h.o (i+1+d) (by omega) (by omega)]
theorem Swp.okS {n:Nat} (hS:okSh M n):okSh M' n:=fun k hk hd=>by
 have hd:=(h.dr k).1 hd
 have e:=hS k hk hd
 by_cases k1:k+1<i
 ·rw [h.lf0 _ k1]; exact e
 ·by_cases k2:k+1=i
  ·exfalso
   have:k=i - 1:=by omega
   subst this; exact h.ha hd
  ·obtain ⟨d,hd2⟩:∃ d,k+1=i+1+d:=by
    by_cases k3:k=i
    ·exact ⟨0,by omega⟩
    ·exact ⟨k - i,by omega⟩
   rw [hd2] at e ⊢
   rw [h.lf1]; exact e
theorem Swp.jn (k:Nat):jnM M' k↔jnM M k:=by
 unfold jnM
 rw [h.n,h.hr,h.hr]
 exact ⟨fun h2=>⟨h2.1,fun h3=>h2.2.1 ((h.dr k).2 h3),h2.2.2⟩,fun h2=>⟨h2.1,fun h3=>h2.2.1 ((h.dr k).1 h3),h2.2.2⟩⟩
omit h in
theorem add_comm' (l:La) (a b:Mv):(l.add a).add b=(l.add b).add a:=by
 simp only [La.add,La.mk.injEq]
 refine ⟨?_,?_,?_,?_,?_,?_,trivial,by omega⟩ <;> (repeat' split) <;> omega
theorem Swp.step {k:Nat} (e:M'.f k=M.f k) (hc:cuL M' k=cuL M k∧lyL M' k=lyL M k):cuL M' (k+1)=cuL M (k+1)∧lyL M' (k+1)=lyL M (k+1):=by
 by_cases hd:(M.f k).co=-1
 ·have hd':=(h.dr k).2 hd
  rw [(cu_d hd).1,(cu_d hd).2,(cu_d hd').1,(cu_d hd').2]; exact hc
 ·have hd':¬ (M'.f k).co=-1:=fun h2=>hd ((h.dr k).1 h2)
  by_cases hj:jnM M (k+1)
  ·have hj':=(h.jn (k+1)).2 hj
   rw [(cu_j hd hj).1,(cu_j hd hj).2,(cu_j hd' hj').1,(cu_j hd' hj').2,hc.1,hc.2,e]; exact ⟨rfl,rfl⟩
  ·have hj':¬ jnM M' (k+1):=fun h2=>hj ((h.jn (k+1)).1 h2)
   rw [(cu_e hd hj).1,(cu_e hd hj).2,(cu_e hd' hj').1,(cu_e hd' hj').2,hc.1,hc.2,e]; exact ⟨rfl,rfl⟩
theorem Swp.cu0:∀ k,k<i→cuL M' k=cuL M k∧lyL M' k=lyL M k
 | 0,_=>⟨rfl,rfl⟩
 | k+1,hk=>h.step (h.o k (by omega) (by omega)) (Swp.cu0 k (by omega))
theorem Swp.cu1:∀ d,cuL M' (i+1+d)=cuL M (i+1+d)∧lyL M' (i+1+d)=lyL M (i+1+d)
 | 0=>by
  have i1:=h.i1
  have i2:=h.i2
  obtain ⟨j,rfl⟩:∃ j,i=j+1:=⟨i - 1,by omega⟩
  have ea:M'.f j=M.f (j+1):=h.a
  have eb:M'.f (j+1)=M.f j:=h.b
  have ha:¬ (M.f j).co=-1:=h.ha
  have hb:=h.hb
  have ha':¬ (M'.f j).co=-1:=by rw [ea]; exact hb
  have hb':¬ (M'.f (j+1)).co=-1:=by rw [eb]; exact ha
  obtain ⟨c1,c2⟩:=h.cu0 j (by omega)
  have hh:(M.f j).hr=(M.f (j+1)).hr:=h.h
  have hj:jnM M (j+1):=⟨i2,hb,by show (M.f (j+1)).hr=(M.f j).hr; exact hh.symm⟩
  have hj':=(h.jn (j+1)).2 hj
  have b1:cuL M' (j+1)=(cuL M j).add (M.f (j+1))∧lyL M' (j+1)=lyL M j:=by rw [(cu_j ha' hj').1,(cu_j ha' hj').2,c1,c2,ea]; exact ⟨rfl,rfl⟩
  have b2:cuL M (j+1)=(cuL M j).add (M.f j)∧lyL M (j+1)=lyL M j:=cu_j ha hj
  rw [Nat.add_zero]
  have ac:=add_comm' (cuL M j) (M.f (j+1)) (M.f j)
  by_cases hk:jnM M (j+1+1)
  ·have hk':=(h.jn (j+1+1)).2 hk
   rw [(cu_j hb hk).1,(cu_j hb hk).2,(cu_j hb' hk').1,(cu_j hb' hk').2,b1.1,b1.2,b2.1,b2.2,eb,ac]; exact ⟨rfl,rfl⟩
  ·have hk':¬ jnM M' (j+1+1):=fun h2=>hk ((h.jn _).1 h2)
   rw [(cu_e hb hk).1,(cu_e hb hk).2,(cu_e hb' hk').1,(cu_e hb' hk').2,b1.1,b1.2,b2.1,b2.2,eb,ac]; exact ⟨rfl,rfl⟩
 | d+1=>by
  rw [← Nat.add_assoc]
  exact h.step (h.o (i+1+d) (by omega) (by omega)) (Swp.cu1 d)
theorem Swp.ly:lyL M' M'.n=lyL M M.n:=by
 have i2:=h.i2
 obtain ⟨d,hd⟩:∃ d,M.n=i+1+d:=⟨M.n - (i+1),by omega⟩
 rw [h.n,hd]; exact (h.cu1 d).2
theorem Swp.po (s:Tw):poS' M' s=poS' M s:=by
 have e:∀ j,lyF M' j=lyF M j:=fun j=>by unfold lyF; rw [h.ly]
 unfold poS' lyN
 rw [h.ly]
 exact po_congr _ fun j _=>e j
end
theorem swp_ck {C:Cl} {M M':Ms} {i:Nat} (h:Swp M M' i) (hc:ckY ⟨C,M⟩=0):ckY ⟨C,M'⟩=0:=by
 obtain ⟨h1,h2,h3⟩:=ck_0 hc
 unfold ckY
 rw [if_pos ⟨h1,h.okM h2⟩,if_pos (show okSh M' M'.n by rw [h.n]; exact h.okS h3)]
theorem swp_all {C:Cl} {M M':Ms} {i:Nat} (h:Swp M M' i) (hc:ckY ⟨C,M⟩=0) (a b w:Int) :
  drE ⟨C,M'⟩ a b=drE ⟨C,M⟩ a b∧drS ⟨C,M'⟩ a b=drS ⟨C,M⟩ a b∧dwL ⟨C,M'⟩ a=dwL ⟨C,M⟩ a∧ylE ⟨C,M'⟩ a b w=ylE ⟨C,M⟩ a b w∧ylS ⟨C,M'⟩ a b w=ylS ⟨C,M⟩ a b w:=by
 have hc':=swp_ck h hc
 have E:∀ a b,drE ⟨C,M'⟩ a b=drE ⟨C,M⟩ a b:=fun a b=>by
  unfold drE
  rw [if_pos hc',if_pos hc]
  show (if a<0∨b<a∨(dn M' M'.n:Int)≤b then (2:Int) else 0)=if a<0∨b<a∨(dn M M.n:Int)≤b then 2 else 0
  rw [h.dn,h.n]
 have S:∀ a b,drS ⟨C,M'⟩ a b=drS ⟨C,M⟩ a b:=fun a b=>by
  unfold drS
  rw [E]
  split
  ·show (⟨ds M' a M'.n,ds M' (b+1) M'.n⟩:Tw)=⟨ds M a M.n,ds M (b+1) M.n⟩
   rw [h.ds,h.ds,h.n]
  ·rfl
 have D:dwL ⟨C,M'⟩ a=dwL ⟨C,M⟩ a:=by
  unfold dwL
  rw [E,S]
  split
  ·exact h.po _
  ·rfl
 have yE:ylE ⟨C,M'⟩ a b w=ylE ⟨C,M⟩ a b w:=by unfold ylE; rw [E]
 have yP:ylP ⟨C,M'⟩ a b=ylP ⟨C,M⟩ a b:=by
  unfold ylP
  rw [S]; exact h.po _
 refine ⟨E a b,S a b,D,yE,?_⟩
 unfold ylS
 rw [yE]
 split
 ·unfold ylJ
  rw [yP]
 ·rfl
end Go.Proofs.Ytmohedjgoakdjaa
