import Derived.Test.YtfiaadlgfjokjaaQhQhVQiQjQjVQk
import Derived.Test.YtfiaadlgfjokjaaQeQfQfVQg
set_option linter.unusedVariables false
set_option linter.unusedSimpArgs false
set_option maxRecDepth 100000
namespace Go.Proofs.Ytfiaadlgfjokjaa
open Go Go.Lg
attribute [local irreducible] funS bodyH
theorem lf_ua (M:Ms):∀ k,lf M k=sumJ (uaI M) k - sumJ (uoI M) k
 | 0=>rfl
 | k+1=>by
  rw [lf_s,uo_s,ua_s,lf_ua M k]
  unfold dl uoI uaI
  split <;> omega
theorem lf_pos {M:Ms} {c:Int} (hM:okMs c M) {n:Nat} (h:okSh M n):∀ k,k≤n→k≤M.n→0≤lf M k
 | 0,_,_=>by simp [lf,sumJ]
 | k+1,hk,hn=>by
  by_cases hd:(M.f k).co=-1
  ·exact h k (by omega) hd
  ·have:=lf_pos hM h k (by omega) (by omega)
   rw [lf_s,dl,if_neg hd]
   have:=(hM.h k (by omega)).t0
   omega
theorem ua_mono {M:Ms} {c:Int} (hM:okMs c M) {j:Nat}:∀ {d:Nat},j+d≤M.n→sumJ (uaI M) j≤sumJ (uaI M) (j+d)∧sumJ (uoI M) j≤sumJ (uoI M) (j+d)
 | 0,_=>⟨Int.le_refl _,Int.le_refl _⟩
 | d+1,h=>by
  have ih:=ua_mono hM (j:=j) (d:=d) (by omega)
  have m:=(hM.h (j+d) (by omega)).t0
  rw [← Nat.add_assoc,ua_s,uo_s]
  unfold uaI uoI at *
  split <;> omega
theorem dn_mono {M:Ms} {j:Nat}:∀ {d:Nat},dn M j≤dn M (j+d)
 | 0=>Nat.le_refl _
 | d+1=>by
  have ih:=dn_mono (M:=M) (j:=j) (d:=d)
  rw [← Nat.add_assoc]
  by_cases h:(M.f (j+d)).co=-1
  ·rw [dn_y h]; omega
  ·rw [dn_n h]; exact ih
theorem dn_le2 {M:Ms} {j k:Nat} (h:j≤k):dn M j≤dn M k:=by
 obtain ⟨d,rfl⟩:∃ d,k=j+d:=⟨k - j,by omega⟩
 exact dn_mono
theorem ds_first {M:Ms} {k:Nat}:∀ m,m≤k→ds M (dn M k) m=sumJ (uoI M) m
 | 0,_=>rfl
 | m+1,h=>by
  rw [ds_s,uo_s,ds_first m (by omega)]
  unfold dsI uoI
  by_cases hd:(M.f m).co=-1
  ·have:=dn_le2 (M:=M) (j:=m+1) (k:=k) (by omega)
   rw [dn_y hd] at this
   rw [if_pos hd,if_pos hd,if_pos (by omega)]
  ·rw [if_neg hd,if_neg hd]
theorem ds_all {M:Ms} {k:Nat}:∀ d,ds M (dn M k) (k+d)=sumJ (uoI M) k
 | 0=>ds_first k (Nat.le_refl _)
 | d+1=>by
  rw [← Nat.add_assoc,ds_s,ds_all d]
  have:=dn_mono (M:=M) (j:=k) (d:=d)
  unfold dsI
  split
  ·rw [if_neg (by omega)]; omega
  ·omega
theorem ds_to {M:Ms} {k m:Nat} (h:k≤m):ds M (dn M k) m=sumJ (uoI M) k:=by
 obtain ⟨d,rfl⟩:∃ d,m=k+d:=⟨m - k,by omega⟩
 exact ds_all d
theorem add_to (l:La) (m:Mv):(l.add m).to=l.to+m.tn∧(l.add m).fr=l.fr:=⟨rfl,rfl⟩
theorem cu_to (M:Ms):∀ k,(cuL M k).to=sumJ (uaI M) k
 | 0=>rfl
 | k+1=>by
  rw [ua_s,← cu_to M k]
  unfold uaI
  by_cases hd:(M.f k).co=-1
  ·rw [(cu_d hd).1,if_pos hd]; omega
  ·rw [if_neg hd]
   by_cases hj:jnM M (k+1)
   ·rw [(cu_j hd hj).1]; rfl
   ·rw [(cu_e hd hj).1]; rfl
theorem cu_closed (M:Ms):∀ k,¬ jnM M k→(cuL M k).fr=(cuL M k).to
 | 0,_=>rfl
 | k+1,h=>by
  by_cases hd:(M.f k).co=-1
  ·rw [(cu_d hd).1]
   exact cu_closed M k fun h2=>h2.2.1 hd
  ·rw [(cu_e hd h).1]; rfl
theorem cm_add {s:Tw} {f t:Int} (h0:0≤f) (h:f≤t):cmT s ⟨0,f⟩+cmT s ⟨f,t⟩=cmT s ⟨0,t⟩:=by
 unfold cmT
 dsimp only
 omega
theorem ly_sum {M:Ms} (h:lyP M) (s:Tw):∀ k,k≤M.n→((lyL M k).map fun x=>cmT s x.st).sum=cmT s ⟨0,(cuL M k).fr⟩
 | 0,_=>by simp only [lyL,List.map_nil,List.sum_nil,cuL,zL,cmT]; omega
 | k+1,hk=>by
  have ih:=ly_sum h s k (by omega)
  have b:=(cu_bd h k (by omega)).1.f
  have m:=(h.h k (by omega)).2.2.1
  by_cases hd:(M.f k).co=-1
  ·rw [(cu_d hd).1,(cu_d hd).2]; exact ih
  ·by_cases hj:jnM M (k+1)
   ·rw [(cu_j hd hj).1,(cu_j hd hj).2]; exact ih
   ·rw [(cu_e hd hj).1,(cu_e hd hj).2,List.map_append,List.sum_append,ih]
    have e:(nwL ((cuL M k).add (M.f k)).to).fr=(cuL M k).to+(M.f k).tn:=rfl
    have e2:([(cuL M k).add (M.f k)].map fun x=>cmT s x.st).sum=cmT s ⟨(cuL M k).fr,(cuL M k).to+(M.f k).tn⟩:=by simp [La.st,La.add]
    rw [e,e2]
    exact cm_add b.1 (by omega)
theorem pt_s (l:List Pn) (x:Pn):sumJ (fun i=>((l ++ [x]).getD i zP).tn) (l ++ [x]).length=sumJ (fun i=>(l.getD i zP).tn) l.length+x.tn:=by
 have e:(l ++ [x]).length=l.length+1:=by simp
 rw [e]
 show sumJ _ l.length+((l ++ [x]).getD l.length zP).tn=_
 have e2:(l ++ [x]).getD l.length zP=x:=by rw [getD_snoc (by omega),if_neg (by omega)]
 rw [e2]
 congr 1
 have key:∀ m,m≤l.length→sumJ (fun i=>((l ++ [x]).getD i zP).tn) m=sumJ (fun i=>(l.getD i zP).tn) m:=by
  intro m
  induction m with
  | zero=>intro _; rfl
  | succ m ih =>
   intro hm
   show sumJ _ m+((l ++ [x]).getD m zP).tn=sumJ _ m+(l.getD m zP).tn
   rw [ih (by omega),getD_snoc (by omega),if_pos (by omega)]
 exact key _ (Nat.le_refl _)
noncomputable def ptA (l:List Pn):Int:=sumJ (fun i=>(l.getD i zP).tn) l.length
theorem cm_nn (s t:Tw):0≤cmT s t:=by unfold cmT; omega
theorem po_sum {M:Ms} {s:Tw}:∀ k,ptA (poM M s k)=sumJ (fun j=>cmT s (lyF M j).st) k
 | 0=>rfl
 | k+1=>by
  have ih:=po_sum (M:=M) (s:=s) k
  have nn:=cm_nn s (lyF M k).st
  show _=sumJ _ k+cmT s (lyF M k).st
  rw [← ih]
  by_cases h:0<cmT s (lyF M k).st
  ·rw [po_y h]
   unfold ptA
   rw [pt_s]
  ·rw [po_n h]; omega
theorem sumJ_congr {f g:Nat→Int}:∀ {m:Nat},(∀ i,i<m→f i=g i)→sumJ f m=sumJ g m
 | 0,_=>rfl
 | m+1,h=>by
  show sumJ f m+f m=sumJ g m+g m
  rw [sumJ_congr (m:=m) fun i hi=>h i (by omega),h m (by omega)]
theorem sum_list (g:La→Int):∀ l:List La,sumJ (fun j=>g (l.getD j zL)) l.length=(l.map g).sum:=by
 intro l
 have key:∀ (r:List La),sumJ (fun j=>g (r.reverse.getD j zL)) r.reverse.length=(r.reverse.map g).sum:=by
  intro r
  induction r with
  | nil=>rfl
  | cons x r ih =>
   have e:(x :: r).reverse=r.reverse ++ [x]:=by simp
   rw [e]
   have e1:(r.reverse ++ [x]).length=r.reverse.length+1:=by simp
   rw [e1]
   show sumJ _ r.reverse.length+g ((r.reverse ++ [x]).getD r.reverse.length zL)=_
   rw [getD_snoc (by omega),if_neg (by omega),List.map_append,List.sum_append,← ih]
   congr 1
   ·exact sumJ_congr fun i hi=>by rw [getD_snoc (by omega),if_pos hi]
   ·simp
 have:=key l.reverse
 rwa [List.reverse_reverse] at this
theorem po_all {M:Ms} (h:lyP M) (s:Tw):ptA (poS' M s)=cmT s ⟨0,sumJ (uaI M) M.n⟩:=by
 have e:ptA (poS' M s)=sumJ (fun j=>cmT s (lyF M j).st) (lyN M):=po_sum (lyN M)
 rw [e]
 have e2:sumJ (fun j=>cmT s (lyF M j).st) (lyN M)=((lyL M M.n).map fun x=>cmT s x.st).sum:=sum_list (fun x=>cmT s x.st) (lyL M M.n)
 rw [e2,ly_sum h s M.n (Nat.le_refl _),cu_closed M M.n (fun h2=>by have:=h2.1; omega),cu_to]
theorem draw_sum {Y:Yd} (hc:ckY Y=0) {k:Nat} (hk:k<Y.m.n) (hd:(Y.m.f k).co=-1):drE Y (dn Y.m k) (dn Y.m k)=0∧ptA (dwL Y (dn Y.m k))=(Y.m.f k).tn:=by
 obtain ⟨hC,hM,hS⟩:=ck_0 hc
 have d1:=dn_y hd
 have d2:=dn_le2 (M:=Y.m) (j:=k+1) (k:=Y.m.n) (by omega)
 have e:drE Y (dn Y.m k) (dn Y.m k)=0:=drE_0 hc (by omega)
 refine ⟨e,?_⟩
 rw [dw_yes e,po_all (ck_ly hc),drS_y e]
 have s1:ds Y.m (dn Y.m k) Y.m.n=sumJ (uoI Y.m) k:=ds_to (by omega)
 have s2:ds Y.m ((dn Y.m k:Int)+1) Y.m.n=sumJ (uoI Y.m) (k+1):=by
  have:((dn Y.m k:Int)+1)=((dn Y.m (k+1):Nat):Int):=by rw [d1]; rfl
  rw [this]; exact ds_to (by omega)
 rw [s1,s2]
 have u:=uo_s Y.m k
 unfold uoI at u
 rw [if_pos hd] at u
 have p:=lf_pos hM hS (k+1) (by omega) (by omega)
 rw [lf_ua] at p
 obtain ⟨d,hd2⟩:∃ d,Y.m.n=k+1+d:=⟨Y.m.n - (k+1),by omega⟩
 have mo:=(ua_mono hM (j:=k+1) (d:=d) (by omega)).1
 rw [← hd2] at mo
 have t0:=(hM.h k hk).t0
 have b:=(un_bd hM (k:=k) (by omega)).1.1
 change sumJ (uoI Y.m) (k+1)=sumJ (uoI Y.m) k+(Y.m.f k).tn at u
 unfold cmT
 dsimp only
 omega
end Go.Proofs.Ytfiaadlgfjokjaa

namespace Go.Proofs.Ytfiaadlgfjokjaa
open Go Go.Lg
attribute [local irreducible] bodyH funS
structure Tn where
 n:Nat
 f:Nat→Int
def Tn.sv (T:Tn):SV:=.lst 1 T.n fun i=>i6 (T.f i)
def inOf:SV→Int
 | .int _ z=>z
 | _=>0
def tnOf (n:Nat) (f:Nat→SV):Tn:=⟨n,fun i=>inOf (f i)⟩
structure okT (T:Tn):Prop where
 n:T.n≤6
 h:∀ i,i<T.n→0≤T.f i∧T.f i≤1000000000
def biP (S:Int) (i:Int):Prop:=bitA .i64 (S.fdiv (shP i)) 1=1
open Classical in
noncomputable def akI (T:Tn) (S:Int) (i:Nat):Int:=if biP S i then T.f i else 0
noncomputable def asJ (T:Tn) (S:Int) (j:Nat):Int:=sumJ (akI T S) j
noncomputable def asS (T:Tn) (S:Int):Int:=asJ T S T.n
noncomputable def asG (T:Tn) (S:Int):Prop:=funH Try.prog (ctrs []) noX (ictrs [])
 (oneL 0 (natH (fun k=>k≤T.n) (fun k=>T.n - k) 0 (fun k=>mkF 25 [(1,i6 S),(5,i6 (asJ T S k)),(8,T.sv),(9,i6 T.n),(10,i6 k)]) (fun _=>mkX []) fun _=>none)) noL 65 [T.sv,i6 S] (i6 (asS T S))
noncomputable def asC:Ctr:=⟨65,fun args k=>match args with
 | [.lst 1 n f,.int .i64 S]=>∃ g:Nat→Int,(∀ i,i<n→f i=i6 (g i))∧okT ⟨n,g⟩∧k (i6 (asS ⟨n,g⟩ S))
 | _=>False⟩
def lyT (l:La):Tn:=⟨6,fun i=>l.at i⟩
structure Po where
 n:Nat
 f:Nat→Pn
def Po.sv (p:Po):SV:=.lst 10 p.n fun i=>(p.f i).sv
def poOf (n:Nat) (f:Nat→SV):Po:=⟨n,fun i=>pnOf (f i)⟩
structure okPo (p:Po):Prop where
 n:p.n≤32
 h:∀ i,i<p.n→okP (p.f i)
noncomputable def roJ (p:Po) (S:Int) (j:Nat):Int:=sumJ (fun i=>min (p.f i).tn (asS (lyT (p.f i).l) S)) j
noncomputable def roS (p:Po) (S:Int):Int:=roJ p S p.n
noncomputable def roG (p:Po) (S:Int):Prop:=funH Try.prog (ctrs [asC]) noX (ictrs [])
 (oneL 0 (natH (fun k=>k≤p.n) (fun k=>p.n - k) 0 (fun k=>mkF 26 [(1,i6 S),(5,i6 (roJ p S k)),(8,p.sv),(9,i6 p.n),(10,i6 k)]) (fun _=>mkX []) fun _=>none)) noL 66 [p.sv,i6 S] (i6 (roS p S))
noncomputable def roC:Ctr:=⟨66,fun args k=>match args with
 | [.lst 10 n f,.int .i64 S]=>SV.lst 10 n f=(poOf n f).sv∧okPo (poOf n f)∧k (i6 (roS (poOf n f) S))
 | _=>False⟩
noncomputable def frR (p:Po) (T:Tn):Nat→Nat→Int→Prop
 | 0,k,S=>asS T S≤roS p S
 | r+1,k,S=>frR p T r (k+1) S∧frR p T r (k+1) (bitO .i64 S (shP k))
structure Fr where
 p:Po
 T:Tn
 k:Int
 S:Int
def frO:SV:=.clo (.func 64) [] [.ptr 1 0 0,.ptr 0 0 0,.ptr 2 0 0]
noncomputable def frX (p:Po) (T:Tn):XS:=mkX [vr 1 p.sv,vr 1 T.sv,vr 1 frO]
structure Fr.ok (M:Nat) (x:Fr):Prop where
 p:okPo x.p
 T:okT x.T
 k:0≤x.k∧x.k≤x.T.n
 m:x.T.n - x.k.toNat<M
 S:0≤x.S∧x.S<2 ^ x.k.toNat
noncomputable def frP (p:Po) (T:Tn) (k:Nat) (S:Int):Prop:=frR p T (T.n - k) k S
theorem rdFr (a:List SV) (X:XS) (k:Fr→Prop) (h:(match a with
  | [.int _ z,.int _ S,_,_,_]=>(match X.row 0,X.row 1 with
   | some R0,some R1=>(match R0.f 0,R1.f 0 with
    | .lst 10 n f,.lst 1 m g=>SV.lst 10 n f=(poOf n f).sv∧SV.lst 1 m g=(tnOf m g).sv∧k ⟨poOf n f,tnOf m g,z,S⟩
    | _,_=>False)
   | _,_=>False)
  | _=>False)):∃ s,k s:=by
 split at h
 ·split at h
  ·split at h
   ·exact ⟨_,h.2.2⟩
   ·exact h.elim
  ·exact h.elim
 ·exact h.elim
noncomputable def frC (M:Nat):SCtr where
 f:=64
 p:=Fr
 pre:=Fr.ok M
 X0:=fun x=>frX x.p x.T
 args:=fun x=>[i6 x.k,i6 x.S,.ptr 1 0 0,.ptr 0 0 0,.ptr 2 0 0]
 res:=fun x=>.dec (frP x.p x.T x.k.toNat x.S) (Classical.propDecidable _)
 rd:=fun a X k=>match a with
  | [.int _ z,.int _ S,_,_,_]=>(match X.row 0,X.row 1 with
   | some R0,some R1=>(match R0.f 0,R1.f 0 with
    | .lst 10 n f,.lst 1 m g=>SV.lst 10 n f=(poOf n f).sv∧SV.lst 1 m g=(tnOf m g).sv∧k ⟨poOf n f,tnOf m g,z,S⟩
    | _,_=>False)
   | _,_=>False)
  | _=>False
 rdOK:=rdFr
noncomputable def csF (M:Nat):CSpec:=ctrsQ [frC M] (ctrs [asC,roC])
noncomputable def frG (M:Nat) (x:Fr):Prop:=stH Try.prog (csF M) noX (ictrs []) noL noL 64 (frX x.p x.T) [i6 x.k,i6 x.S,.ptr 1 0 0,.ptr 0 0 0,.ptr 2 0 0] (.dec (frP x.p x.T x.k.toNat x.S) (Classical.propDecidable _))
noncomputable def ftG (p:Po) (T:Tn):Prop:=funH Try.prog (csF 100) noX (ictrs []) noL noL 47 [p.sv,T.sv] (.dec (frP p T 0 0) (Classical.propDecidable _))
noncomputable def ftC:Ctr:=⟨47,fun args k=>match args with
 | [.lst 10 n f,.lst 1 m g]=>SV.lst 10 n f=(poOf n f).sv∧SV.lst 1 m g=(tnOf m g).sv∧(okPo (poOf n f)∧okT (tnOf m g))∧k (.dec (frP (poOf n f) (tnOf m g) 0 0) (Classical.propDecidable _))
 | _=>False⟩
noncomputable def tsJ (T:Tn) (j:Nat):Int:=sumJ T.f j
structure auK (T:Tn) (a:Int) (k:Nat):Prop where
 h:∀ i,i<k→0≤T.f i∧T.f i≤a - tsJ T i
structure auP (T:Tn) (a:Int):Prop where
 h:auK T a T.n
 e:a=tsJ T T.n
noncomputable def auG (T:Tn) (a:Int):Prop:=funH Try.prog (ctrs []) noX (ictrs [])
 (oneL 0 (natH (fun k=>k≤T.n∧auK T a k) (fun k=>T.n - k) 0 (fun k=>mkF 26 [(1,i6 (a - tsJ T k)),(7,T.sv),(8,i6 T.n),(9,i6 k)]) (fun _=>mkX []) fun _=>none)) noL 46 [T.sv,i6 a] (.dec (auP T a) (Classical.propDecidable _))
noncomputable def auC:Ctr:=⟨46,fun args k=>match args with
 | [.lst 1 n f,.int .i64 a]=>SV.lst 1 n f=(tnOf n f).sv∧(n≤6∧0≤a∧a≤1000000000)∧k (.dec (auP (tnOf n f) a) (Classical.propDecidable _))
 | _=>False⟩
noncomputable def dwP (Y:Yd) (a:Int):Po:=⟨(dwL Y a).length,fun i=>(dwL Y a).getD i zP⟩
open Classical in
noncomputable def caE (Y:Yd) (a:Int) (T:Tn):Int:=if drE Y a a=0 then (if T.n=Y.c.n then 0 else 2) else drE Y a a
structure caP (Y:Yd) (a:Int) (T:Tn):Prop where
 e:caE Y a T=0
 u:auP T ((drS Y a a).hi - (drS Y a a).lo)
 f:frP (dwP Y a) T 0 0
noncomputable def caC:Ctr:=⟨21,fun args k=>match args with
 | [.agg [.lst 8 n f,.lst 3 m g],.int .i64 a,.lst 1 x y]=>SV.lst 8 n f=(clOf n f).sv∧SV.lst 3 m g=(msOf m g).sv∧∃ g0:Nat→Int,(∀ i,i<x→y i=i6 (g0 i))∧k (.tup [.dec (caP ⟨clOf n f,msOf m g⟩ a ⟨x,g0⟩) (Classical.propDecidable _),i6 (caE ⟨clOf n f,msOf m g⟩ a ⟨x,g0⟩)])
 | _=>False⟩
noncomputable def caG (Y:Yd) (a:Int) (T:Tn):Prop:=funH Try.prog (ctrs [drC,poC,auC,ftC]) noX (ictrs []) noL noL 21 [Y.sv,i6 a,T.sv] (.tup [.dec (caP Y a T) (Classical.propDecidable _),i6 (caE Y a T)])
end Go.Proofs.Ytfiaadlgfjokjaa

set_option maxRecDepth 100000
namespace Go.Proofs.Ytfiaadlgfjokjaa
open Go Go.Lg
theorem asG_vc (T:Tn) (S:Int):asG T S=((∃ (z:Nat),z≤T.1∧S=S∧(0:Int)=asJ T S z∧T.1=T.1∧(∀ (i:Nat),i<T.1→rE ((i6 (T.f i)).den)∧True)∧rE (↑T.1:Int)∧(0:Int)=(↑z:Int)∧True)∧∀ (z:Nat),z≤T.1→((↑z:Int)<(↑T.1:Int)→(0:Int)≤(↑z:Int)∧(↑z:Int)<(↑T.1:Int)∧((0:Int)≤(↑z:Int)∧(↑z:Int)≤(↑(64:Nat):Int))∧(bitA IntKind.i64 (S.fdiv (shP (↑z:Int))) (1:Int)=(1:Int)→rI (asJ T S z+T.2 (↑z:Int).toNat)∧rI ((↑z:Int)+(1:Int))∧∃ (z_1:Nat),z_1≤T.1∧T.1 - z_1<T.1 - z∧S=S∧asJ T S z+T.2 (↑z:Int).toNat=asJ T S z_1∧T.1=T.1∧(∀ (i:Nat),i<T.1→rE ((i6 (T.f i)).den)∧True)∧rE (↑T.1:Int)∧(↑z:Int)+(1:Int)=(↑z_1:Int)∧True)∧(¬bitA IntKind.i64 (S.fdiv (shP (↑z:Int))) (1:Int)=(1:Int)→rI ((↑z:Int)+(1:Int))∧∃ (z_1:Nat),z_1≤T.1∧T.1 - z_1<T.1 - z∧S=S∧asJ T S z=asJ T S z_1∧T.1=T.1∧(∀ (i:Nat),i<T.1→rE ((i6 (T.f i)).den)∧True)∧rE (↑T.1:Int)∧(↑z:Int)+(1:Int)=(↑z_1:Int)∧True))∧(¬(↑z:Int)<(↑T.1:Int)→asJ T S z=asS T S∧True)):=by kernel_rfl
theorem roG_vc (p:Po) (S:Int):roG p S=((∃ (z:Nat),z≤p.1∧S=S∧(0:Int)=roJ p S z∧p.1=p.1∧(∀ (i:Nat),i<p.1→rE ((p.f i).sv.den)∧True∧True∧True∧True∧True∧True∧True∧True∧True∧True∧True)∧rE (↑p.1:Int)∧(0:Int)=(↑z:Int)∧True)∧∀ (z:Nat),z≤p.1→((↑z:Int)<(↑p.1:Int)→(0:Int)≤(↑z:Int)∧(↑z:Int)<(↑p.1:Int)∧(0:Nat)<(1:Nat)∧(0:Int)≤(0:Int)∧(0:Int)≤(↑(6:Nat):Int)∧(↑(6:Nat):Int)≤(↑(6:Nat):Int)∧(0:Nat)<(1:Nat)∧rE (10:Nat)∧(0:Nat)+((↑(6:Nat):Int) - (0:Int)).toNat≤(10:Nat)∧True∧True∧True∧True∧True∧True∧True∧True∧True∧True ∧
(∀ (q:Nat),q<((↑(6:Nat):Int) - (0:Int)).toNat→([SV.int IntKind.i64 (p.f (↑z:Int).toNat).l.c0,SV.int IntKind.i64 (p.f (↑z:Int).toNat).l.c1,SV.int IntKind.i64 (p.f (↑z:Int).toNat).l.c2,SV.int IntKind.i64 (p.f (↑z:Int).toNat).l.c3,SV.int IntKind.i64 (p.f (↑z:Int).toNat).l.c4,SV.int IntKind.i64 (p.f (↑z:Int).toNat).l.c5,SV.int IntKind.i64 (p.f (↑z:Int).toNat).l.fr,SV.int IntKind.i64 (p.f (↑z:Int).toNat).l.to,SV.int IntKind.i64 (p.f (↑z:Int).toNat).nu,SV.int IntKind.i64 (p.f (↑z:Int).toNat).tn].getD ((0:Nat)+q) SV.any).cells=[[SV.int IntKind.i64 (p.f (↑z:Int).toNat).l.c0,SV.int IntKind.i64 (p.f (↑z:Int).toNat).l.c1,SV.int IntKind.i64 (p.f (↑z:Int).toNat).l.c2,SV.int IntKind.i64 (p.f (↑z:Int).toNat).l.c3,SV.int IntKind.i64 (p.f (↑z:Int).toNat).l.c4,SV.int IntKind.i64 (p.f (↑z:Int).toNat).l.c5,SV.int IntKind.i64 (p.f (↑z:Int).toNat).l.fr,SV.int IntKind.i64 (p.f (↑z:Int).toNat).l.to,SV.int IntKind.i64 (p.f (↑z:Int).toNat).nu,SV.int IntKind.i64 (p.f (↑z:Int).toNat).tn].getD ((0:Nat)+q) SV.any]) ∧
∃ (g:Nat→Int),(∀ (i:Nat),i<((↑(6:Nat):Int) - (0:Int)).toNat→[SV.int IntKind.i64 (p.f (↑z:Int).toNat).l.c0,SV.int IntKind.i64 (p.f (↑z:Int).toNat).l.c1,SV.int IntKind.i64 (p.f (↑z:Int).toNat).l.c2,SV.int IntKind.i64 (p.f (↑z:Int).toNat).l.c3,SV.int IntKind.i64 (p.f (↑z:Int).toNat).l.c4,SV.int IntKind.i64 (p.f (↑z:Int).toNat).l.c5,SV.int IntKind.i64 (p.f (↑z:Int).toNat).l.fr,SV.int IntKind.i64 (p.f (↑z:Int).toNat).l.to,SV.int IntKind.i64 (p.f (↑z:Int).toNat).nu,SV.int IntKind.i64 (p.f (↑z:Int).toNat).tn].getD ((0:Nat)+i) SV.any=i6 (g i))∧okT (Tn.mk ((↑(6:Nat):Int) - (0:Int)).toNat g)∧rI (roJ p S z+min (p.f (↑z:Int).toNat).3 (asS (Tn.mk ((↑(6:Nat):Int) - (0:Int)).toNat g) S))∧rI ((↑z:Int)+(1:Int))∧∃ (z_1:Nat),z_1≤p.1∧p.1 - z_1<p.1 - z∧S=S∧roJ p S z+min (p.f (↑z:Int).toNat).3 (asS (Tn.mk ((↑(6:Nat):Int) - (0:Int)).toNat g) S)=roJ p S z_1∧p.1=p.1∧(∀ (i:Nat),i<p.1→rE ((p.f i).sv.den)∧True∧True∧True∧True∧True∧True∧True∧True∧True∧True∧True)∧rE (↑p.1:Int)∧(↑z:Int)+(1:Int)=(↑z_1:Int)∧True)∧(¬(↑z:Int)<(↑p.1:Int)→roJ p S z=roS p S∧True)):=by kernel_rfl
theorem frG_vc (M:Nat) (x:Fr):frG M x=((∀ (i:Nat),i<x.p.1→True∧True∧True∧True∧True∧True∧True∧True∧True∧True∧True)∧(∀ (i:Nat),i<x.T.1→True)∧(0:Nat)<(1:Nat)∧(x.3=(↑x.T.1:Int)→(0:Nat)<(1:Nat)∧(∀ (i:Nat),i<x.T.1→True)∧∃ (g:Nat→Int),(∀ (i:Nat),i<x.T.1→i6 (x.T.f i)=i6 (g i))∧okT (Tn.mk x.T.n g)∧(0:Nat)<(1:Nat)∧(∀ (i:Nat),i<x.p.1→True∧True∧True∧True∧True∧True∧True∧True∧True∧True∧True)∧(SV.lst (10:Nat) x.p.n fun i=>(x.p.f i).sv)=(poOf x.p.n fun i=>(x.p.f i).sv).sv∧okPo (poOf x.p.n fun i=>(x.p.f i).sv)∧(asS (Tn.mk x.T.n g) x.4≤roS (poOf x.p.n fun i=>(x.p.f i).sv) x.4↔frP x.p x.T x.k.toNat x.S)∧rE x.p.1∧(∀ (i:Nat),i<x.p.1→rE ((x.p.f i).sv.den)∧True∧True∧True∧True∧True∧True∧True∧True∧True∧True∧True)∧rE x.T.1∧(∀ (i:Nat),i<x.T.1→rE ((i6 (x.T.f i)).den)∧True)∧rE (Fn.func (64:FuncId))∧rE (0:Nat)∧rE (0:Nat)∧rE (0:Nat)∧rE (0:Nat)∧rE (0:Nat)∧rE (0:Nat)∧True)∧(¬x.3=(↑x.T.1:Int)→(0:Nat)<(1:Nat)∧rI (x.3+(1:Int))∧(SV.lst (10:Nat) x.p.n fun i=>(x.p.f i).sv)=(poOf x.p.n fun i=>(x.p.f i).sv).sv∧(SV.lst (1:Nat) x.T.n fun i=>i6 (x.T.f i))=(tnOf x.T.n fun i=>i6 (x.T.f i)).sv∧Fr.ok M (Fr.mk (poOf x.p.n fun i=>(x.p.f i).sv) (tnOf x.T.n fun i=>i6 (x.T.f i)) (x.k+(1:Int)) x.S)∧rE (x.3+(1:Int))∧x.4=x.4∧rE (0:Nat) ∧
rE (0:Nat)∧rE (0:Nat)∧rE (0:Nat)∧rE (0:Nat)∧rE (0:Nat)∧rE x.p.1∧(∀ (i:Nat),i<x.p.1→(x.p.f i).sv.den=((poOf x.p.n fun i=>(x.p.f i).sv).f i).sv.den)∧rE x.T.1∧(∀ (i:Nat),i<x.T.1→(i6 (x.T.f i)).den=(i6 ((tnOf x.T.n fun i=>i6 (x.T.f i)).f i)).den)∧rE (0:Nat)∧rE (0:Nat)∧rE (0:Nat)∧rE (0:Nat)∧rE (0:Nat)∧rE (0:Nat)∧(frP (poOf x.p.n fun i=>(x.p.f i).sv) (tnOf x.T.n fun i=>i6 (x.T.f i)) (x.k+(1:Int)).toNat x.S→(0:Nat)<(1:Nat)∧rI (x.3+(1:Int))∧((0:Int)≤x.3∧x.3≤(↑(64:Nat):Int))∧rI ((1:Int)*shP x.3)∧(SV.lst (10:Nat) x.p.n fun i=>(x.p.f i).sv)=(poOf x.p.n fun i=>(x.p.f i).sv).sv∧(SV.lst (1:Nat) x.T.n fun i=>i6 (x.T.f i))=(tnOf x.T.n fun i=>i6 (x.T.f i)).sv∧Fr.ok M (Fr.mk (poOf x.p.n fun i=>(x.p.f i).sv) (tnOf x.T.n fun i=>i6 (x.T.f i)) (x.k+(1:Int)) (bitO IntKind.i64 x.S ((1:Int)*shP x.k)))∧rE (x.3+(1:Int))∧rE (bitO IntKind.i64 x.4 ((1:Int)*shP x.3))∧rE (0:Nat)∧rE (0:Nat)∧rE (0:Nat)∧rE (0:Nat)∧rE (0:Nat)∧rE (0:Nat)∧rE x.p.1∧(∀ (i:Nat),i<x.p.1→(x.p.f i).sv.den=((poOf x.p.n fun i=>(x.p.f i).sv).f i).sv.den)∧rE x.T.1∧(∀ (i:Nat),i<x.T.1→(i6 (x.T.f i)).den=(i6 ((tnOf x.T.n fun i=>i6 (x.T.f i)).f i)).den)∧rE (0:Nat)∧rE (0:Nat)∧rE (0:Nat)∧rE (0:Nat)∧rE (0:Nat)∧rE (0:Nat) ∧
(frP (poOf x.p.n fun i=>(x.p.f i).sv) (tnOf x.T.n fun i=>i6 (x.T.f i)) (x.k+(1:Int)).toNat (bitO IntKind.i64 x.S ((1:Int)*shP x.k))↔frP x.p x.T x.k.toNat x.S)∧rE x.p.1∧(∀ (i:Nat),i<x.p.1→rE ((x.p.f i).sv.den)∧True∧True∧True∧True∧True∧True∧True∧True∧True∧True∧True)∧rE x.T.1∧(∀ (i:Nat),i<x.T.1→rE ((i6 (x.T.f i)).den)∧True)∧rE (Fn.func (64:FuncId))∧rE (0:Nat)∧rE (0:Nat)∧rE (0:Nat)∧rE (0:Nat)∧rE (0:Nat)∧rE (0:Nat)∧True)∧(¬frP (poOf x.p.n fun i=>(x.p.f i).sv) (tnOf x.T.n fun i=>i6 (x.T.f i)) (x.k+(1:Int)).toNat x.S→(false=true↔frP x.p x.T x.k.toNat x.S)∧rE x.p.1∧(∀ (i:Nat),i<x.p.1→rE ((x.p.f i).sv.den)∧True∧True∧True∧True∧True∧True∧True∧True∧True∧True∧True)∧rE x.T.1∧(∀ (i:Nat),i<x.T.1→rE ((i6 (x.T.f i)).den)∧True)∧rE (Fn.func (64:FuncId))∧rE (0:Nat)∧rE (0:Nat)∧rE (0:Nat)∧rE (0:Nat)∧rE (0:Nat)∧rE (0:Nat)∧True))):=by kernel_rfl
theorem ftG_vc (p:Po) (T:Tn):ftG p T=((0:Nat)<(1:Nat)∧(SV.lst (10:Nat) p.n fun i=>(p.f i).sv)=(poOf p.n fun i=>(p.f i).sv).sv∧(SV.lst (1:Nat) T.n fun i=>i6 (T.f i))=(tnOf T.n fun i=>i6 (T.f i)).sv∧Fr.ok (100:Nat) (Fr.mk (poOf p.n fun i=>(p.f i).sv) (tnOf T.n fun i=>i6 (T.f i)) (0:Int) (0:Int))∧rE (0:Int)∧rE (0:Int)∧rE (0:Nat)∧rE (0:Nat)∧rE (0:Nat)∧rE (0:Nat)∧rE (0:Nat)∧rE (0:Nat)∧p.1=p.1∧(∀ (i:Nat),i<p.1→(p.f i).sv.den=((poOf p.n fun i=>(p.f i).sv).f i).sv.den)∧T.1=T.1∧(∀ (i:Nat),i<T.1→(i6 (T.f i)).den=(i6 ((tnOf T.n fun i=>i6 (T.f i)).f i)).den)∧rE (0:Nat)∧rE (0:Nat)∧rE (0:Nat)∧rE (0:Nat)∧rE (0:Nat)∧rE (0:Nat)∧(frP (poOf p.n fun i=>(p.f i).sv) (tnOf T.n fun i=>i6 (T.f i)) (Int.toNat (0:Int)) (0:Int)↔frP p T (0:Nat) (0:Int))∧True):=by kernel_rfl
theorem auG_vc (T:Tn) (a:Int):auG T a=((∃ (z:Nat),(z≤T.1∧auK T a z)∧a=a - tsJ T z∧T.1=T.1∧(∀ (i:Nat),i<T.1→rE ((i6 (T.f i)).den)∧True)∧rE (↑T.1:Int)∧(0:Int)=(↑z:Int)∧True)∧∀ (z:Nat),z≤T.1∧auK T a z→((↑z:Int)<(↑T.1:Int)→(0:Int)≤(↑z:Int)∧(↑z:Int)<(↑T.1:Int)∧(T.2 (↑z:Int).toNat<(0:Int)→(false=true↔auP T a)∧True)∧(¬T.2 (↑z:Int).toNat<(0:Int)→(a - tsJ T z<T.2 (↑z:Int).toNat→(false=true↔auP T a)∧True)∧(¬a - tsJ T z<T.2 (↑z:Int).toNat→rI (a - tsJ T z - T.2 (↑z:Int).toNat)∧rI ((↑z:Int)+(1:Int))∧∃ (z_1:Nat),(z_1≤T.1∧auK T a z_1)∧T.1 - z_1<T.1 - z∧a - tsJ T z - T.2 (↑z:Int).toNat=a - tsJ T z_1∧T.1=T.1∧(∀ (i:Nat),i<T.1→rE ((i6 (T.f i)).den)∧True)∧rE (↑T.1:Int)∧(↑z:Int)+(1:Int)=(↑z_1:Int)∧True)))∧(¬(↑z:Int)<(↑T.1:Int)→(a - tsJ T z=(0:Int)↔auP T a)∧True)):=by kernel_rfl
theorem caG_vc (Y:Yd) (a:Int) (T:Tn):caG Y a T=((0:Nat)<(1:Nat)∧tA Y∧tB Y∧tC Y∧tD Y∧(¬drE Y a a=(0:Int)→(false=true↔caP Y a T)∧drE Y a a=caE Y a T∧True)∧(¬¬drE Y a a=(0:Int)→(0:Nat)<(1:Nat)∧(¬(↑T.1:Int)=(↑Y.c.1:Int)→(false=true↔caP Y a T)∧(2:Int)=caE Y a T∧True)∧(¬¬(↑T.1:Int)=(↑Y.c.1:Int)→(0:Nat)<(1:Nat)∧(0:Nat)<(1:Nat)∧rI ((drS Y a a).2 - (drS Y a a).1)∧(∀ (i:Nat),i<T.1→True)∧(SV.lst (1:Nat) T.n fun i=>i6 (T.f i))=(tnOf T.n fun i=>i6 (T.f i)).sv∧(T.1≤(6:Nat)∧(0:Int)≤(drS Y a a).2 - (drS Y a a).1∧(drS Y a a).2 - (drS Y a a).1≤(1000000000:Int))∧(auP (tnOf T.n fun i=>i6 (T.f i)) ((drS Y a a).hi - (drS Y a a).lo)→(0:Nat)<(1:Nat)∧(0:Nat)<(1:Nat)∧tB Y∧Y.m.sv=Y.m.sv∧lyP Y.m∧((-1000000000:Int)≤(drS Y a a).1∧(drS Y a a).1≤(1000000000:Int)∧(-1000000000:Int)≤(drS Y a a).2∧(drS Y a a).2≤(1000000000:Int))∧(∀ (i:Nat),i<(poM Y.m (Tw.mk (drS Y a a).lo (drS Y a a).hi) (lyL Y.m Y.m.n).length).length→True∧True∧True∧True∧True∧True∧True∧True∧True∧True∧True)∧(∀ (i:Nat),i<T.1→True) ∧
(SV.lst (10:Nat) (poM Y.m (Tw.mk (drS Y a a).lo (drS Y a a).hi) (lyL Y.m Y.m.n).length).length fun i=>((poM Y.m (Tw.mk (drS Y a a).lo (drS Y a a).hi) (lyL Y.m Y.m.n).length).getD i zP).sv)=(poOf (poM Y.m (Tw.mk (drS Y a a).lo (drS Y a a).hi) (lyL Y.m Y.m.n).length).length fun i=>((poM Y.m (Tw.mk (drS Y a a).lo (drS Y a a).hi) (lyL Y.m Y.m.n).length).getD i zP).sv).sv∧(SV.lst (1:Nat) T.n fun i=>i6 (T.f i))=(tnOf T.n fun i=>i6 (T.f i)).sv∧(okPo (poOf (poM Y.m (Tw.mk (drS Y a a).lo (drS Y a a).hi) (lyL Y.m Y.m.n).length).length fun i=>((poM Y.m (Tw.mk (drS Y a a).lo (drS Y a a).hi) (lyL Y.m Y.m.n).length).getD i zP).sv)∧okT (tnOf T.n fun i=>i6 (T.f i)))∧(frP (poOf (poM Y.m (Tw.mk (drS Y a a).lo (drS Y a a).hi) (lyL Y.m Y.m.n).length).length fun i=>((poM Y.m (Tw.mk (drS Y a a).lo (drS Y a a).hi) (lyL Y.m Y.m.n).length).getD i zP).sv) (tnOf T.n fun i=>i6 (T.f i)) (0:Nat) (0:Int)↔caP Y a T)∧(0:Int)=caE Y a T∧True)∧(¬auP (tnOf T.n fun i=>i6 (T.f i)) ((drS Y a a).hi - (drS Y a a).lo)→(false=true↔caP Y a T)∧(0:Int)=caE Y a T∧True)))):=by kernel_rfl
end Go.Proofs.Ytfiaadlgfjokjaa

set_option maxRecDepth 100000
namespace Go.Proofs.Ytfiaadlgfjokjaa
open Go Go.Lg
attribute [local irreducible] funS bodyH
theorem po_fold (p:Po):(poOf p.n fun i=>(p.f i).sv)=p:=rfl
theorem tn_fold (T:Tn):(tnOf T.n fun i=>i6 (T.f i))=T:=rfl
theorem sj_bd {g:Nat→Int} {B:Int}:∀ {m:Nat},(∀ j,j<m→0≤g j∧g j≤B)→0≤sumJ g m∧sumJ g m≤m*B
 | 0,_=>by simp [sumJ]
 | m+1,h=>by
  have h1:=sj_bd (g:=g) (B:=B) (m:=m) fun j hj=>h j (by omega)
  have h2:=h m (by omega)
  have:((m+1:Nat):Int)*B=m*B+B:=by push_cast; rw [Int.add_mul,Int.one_mul]
  rw [this]
  show 0≤sumJ g m+g m∧sumJ g m+g m≤_
  omega
theorem as_bd {T:Tn} (h:okT T) (S:Int) {k:Nat} (hk:k≤T.n):0≤asJ T S k∧asJ T S k≤6000000000:=by
 have:=sj_bd (g:=akI T S) (B:=1000000000) (m:=k) fun j hj=>by
  have:=h.h j (by omega)
  unfold akI
  split <;> omega
 have hn:=h.n
 unfold asJ
 omega
theorem as_true {T:Tn} {S:Int} (h:okT T):asG T S:=by
 rw [asG_vc]
 simp only [rI,rE,tA,tB,tC,tD,and_true,true_and,Nat.zero_lt_one,and_self,implies_true,Int.toNat_natCast]
 have hn:=h.n
 refine ⟨⟨0,by omega,rfl,rfl⟩,fun z hz=>⟨fun hl=>⟨by omega,hl,by omega,fun hb=>?_,fun hb=>?_⟩,fun hl=>?_⟩⟩
 ·have b1:=as_bd h S (k:=z) hz
  have b2:=h.h z (by omega)
  refine ⟨by omega,by omega,z+1,by omega,by omega,?_,by omega⟩
  show _=asJ T S z+akI T S z
  rw [akI,if_pos (show biP S z from hb)]
 ·refine ⟨by omega,z+1,by omega,by omega,?_,by omega⟩
  show _=asJ T S z+akI T S z
  rw [akI,if_neg (show ¬ biP S z from hb)]; omega
 ·have:z=T.n:=by omega
  subst this; rfl
theorem as_ok:asC.Ok Try.prog:=by
 refine ⟨by kernel_rfl,fun x k hk=>?_⟩
 simp only [asC] at hk
 split at hk
 ·rename_i n f S
  obtain ⟨g,hf,hn,hk⟩:=hk
  refine ⟨_,?_,hk⟩
  have:=plainD nilS_cs nilS_x nilS_ic (as_true (T:=⟨n,g⟩) (S:=S) hn) trivial
  simp only [Tn.sv,SV.denL] at this ⊢
  rw [lst_den hf]; exact this
 ·exact hk.elim
theorem la_ok {p:Pn} (h:okP p):okT (lyT p.l):=⟨Nat.le_refl _,fun i hi=>by
 have b:=cell_bd h.l (i:=i) hi
 show 0≤cellZ p.l.sv.cells i∧cellZ p.l.sv.cells i≤_
 omega⟩
theorem ro_bd {p:Po} (h:okPo p) (S:Int) {k:Nat} (hk:k≤p.n):0≤roJ p S k∧roJ p S k≤1073741824:=by
 have:=sj_bd (g:=fun i=>min (p.f i).tn (asS (lyT (p.f i).l) S)) (B:=33554432) (m:=k) fun j hj=>by
  have o:=h.h j (by omega)
  have t:=o.t
  have a:=as_bd (la_ok o) S (k:=6) (Nat.le_refl _)
  have e:asJ (lyT (p.f j).l) S 6=asS (lyT (p.f j).l) S:=rfl
  omega
 have hn:=h.n
 unfold roJ
 omega
theorem ro_true {p:Po} {S:Int} (h:okPo p):roG p S:=by
 rw [roG_vc]
 have e6:((↑(6:Nat):Int) - 0).toNat=6:=rfl
 simp only [rI,rE,tA,tB,tC,tD,and_true,true_and,Nat.zero_lt_one,and_self,implies_true,Int.toNat_natCast,e6,Nat.zero_add]
 have hn:=h.n
 refine ⟨⟨0,by omega,rfl,rfl⟩,fun z hz=>⟨fun hl=>⟨by omega,hl,by omega,by omega,by omega,by omega,fun q hq=>?_,(lyT (p.f z).l).f,fun q hq=>?_,la_ok (h.h z (by omega)),?_,by omega,z+1,by omega,by omega,rfl,by omega⟩,fun hl=>?_⟩⟩
 ·have:q=0∨q=1∨q=2∨q=3∨q=4∨q=5:=by omega
  rcases this with e | e | e | e | e | e <;> subst e <;> rfl
 ·have:q=0∨q=1∨q=2∨q=3∨q=4∨q=5:=by omega
  rcases this with e | e | e | e | e | e <;> subst e <;> rfl
 ·have b:=ro_bd h S (k:=z+1) (by omega)
  have b0:=ro_bd h S (k:=z) (by omega)
  have e:roJ p S (z+1)=roJ p S z+min (p.f z).tn (asS (lyT (p.f z).l) S):=rfl
  rw [e] at b
  have e2:Tn.mk 6 (lyT (p.f z).l).f=lyT (p.f z).l:=rfl
  rw [e2]
  omega
 ·have:z=p.n:=by omega
  subst this; rfl
theorem ro_ok:roC.Ok Try.prog:=by
 refine ⟨by kernel_rfl,fun x k hk=>?_⟩
 simp only [roC] at hk
 split at hk
 ·rename_i n f S
  obtain ⟨h1,h2,hk⟩:=hk
  have hh:=ro_true (S:=S) h2
  unfold roG at hh
  rw [← h1] at hh
  exact ⟨_,plainD (one_cs as_ok) nilS_x nilS_ic hh trivial,hk⟩
 ·exact hk.elim
theorem wrapN {n:Nat} (h:n<2 ^ 63):IntKind.wrap .i64 (n:Int)=n:=by
 unfold IntKind.wrap
 have e:IntKind.bits .i64=64:=rfl
 simp only [e]
 have:((n:Int) % 2 ^ 64)=n:=by omega
 rw [this]
 have e2:IntKind.signed .i64=true:=rfl
 simp only [e2,Bool.true_and,decide_eq_true_eq]
 split <;> omega
theorem ofI {s:Int} (h0:0≤s) (h:s<2 ^ 63):(BitVec.ofInt 64 s).toNat=s.toNat:=by
 rw [BitVec.toNat_ofInt]
 omega
theorem bi_tb {n s:Int} (h0:0≤s) (h:s<2 ^ 63):biP s n↔s.toNat.testBit n.toNat=true:=by
 unfold biP bitA shP
 have e:IntKind.bits .i64=64:=rfl
 rw [e]
 have hp:(2:Int) ^ n.toNat=((2 ^ n.toNat:Nat):Int):=by simp
 have h1:s.fdiv (2 ^ n.toNat)=((s.toNat / 2 ^ n.toNat:Nat):Int):=by
  rw [Int.fdiv_eq_ediv_of_nonneg _ (by rw [hp]; exact Int.natCast_nonneg _),hp,Int.natCast_ediv,Int.toNat_of_nonneg h0]
 have hq:s.toNat / 2 ^ n.toNat≤s.toNat:=Nat.div_le_self _ _
 have h2:(BitVec.ofInt 64 (s.fdiv (2 ^ n.toNat))).toNat=s.toNat / 2 ^ n.toNat:=by
  rw [h1,ofI (Int.natCast_nonneg _) (by omega),Int.toNat_natCast]
 have h3:(BitVec.ofInt 64 1).toNat=1:=by decide
 rw [BitVec.toNat_and,h2,h3,Nat.and_one_is_mod,wrapN (n:=s.toNat / 2 ^ n.toNat % 2) (by omega),Nat.testBit_eq_decide_div_mod_eq]
 simp only [decide_eq_true_eq]
 omega
theorem or_pw {x:Int} {m:Nat} (hm:m≤12) (h0:0≤x) (h:x<2 ^ m):bitO .i64 x (shP (m:Int))=x+2 ^ m:=by
 have hp:(2:Int) ^ m=((2 ^ m:Nat):Int):=by simp
 have hle:2 ^ m≤2 ^ 12:=Nat.pow_le_pow_right (by omega) hm
 rw [hp] at h ⊢
 have e2:(BitVec.ofInt 64 (shP (m:Int))).toNat=2 ^ m:=by
  have:shP (m:Int)=((2 ^ m:Nat):Int):=by unfold shP; rw [Int.toNat_natCast,hp]
  rw [this,ofI (Int.natCast_nonneg _) (by omega),Int.toNat_natCast]
 unfold bitO
 have e:IntKind.bits .i64=64:=rfl
 rw [e,BitVec.toNat_or,e2,ofI h0 (by omega)]
 have hlt:x.toNat<2 ^ m:=by omega
 have:=Nat.two_pow_add_eq_or_of_lt hlt 1
 rw [Nat.mul_one,Nat.or_comm] at this
 rw [← this,wrapN (n:=2 ^ m+x.toNat) (by omega)]
 omega
theorem fr_true {M:Nat} {x:Fr} (h:x.ok (M+1)):frG M x:=by
 obtain ⟨p,T,k,S⟩:=x
 obtain ⟨hp,hT,hk,hm,hS⟩:=h
 rw [frG_vc]
 simp only [rI,rE,tA,tB,tC,tD,and_true,true_and,Nat.zero_lt_one,and_self,implies_true,po_fold,tn_fold,Int.one_mul,Bool.false_eq_true,false_iff]
 dsimp only at hp hT hk hm hS ⊢
 have hn:=hT.n
 obtain ⟨k,rfl⟩:∃ m:Nat,k=m:=⟨k.toNat,by omega⟩
 rw [Int.toNat_natCast] at hm hS
 have hp2:(2:Int) ^ k=((2 ^ k:Nat):Int):=by simp
 have hle:2 ^ k≤2 ^ 12:=Nat.pow_le_pow_right (by omega) (by omega)
 refine ⟨fun e=>?_,fun e=>?_⟩
 ·refine ⟨T.f,fun i hi=>rfl,hT,rfl,hp,?_⟩
  have:k=T.n:=by omega
  subst this
  show _↔frR p T (T.n - (T.n:Int).toNat) (T.n:Int).toNat S
  rw [Int.toNat_natCast,Nat.sub_self]
  exact Iff.rfl
 ·have e1:((k:Int)+1).toNat=k+1:=by omega
  have e2:((k:Int)).toNat=k:=by omega
  have er:T.n - k=(T.n - (k+1))+1:=by omega
  have pe:(2:Int) ^ (k+1)=2 ^ k*2:=Int.pow_succ 2 k
  have sh:shP (k:Int)=2 ^ k:=by unfold shP; rw [Int.toNat_natCast]
  have ob:=or_pw (x:=S) (m:=k) (by omega) hS.1 hS.2
  have fe:frP p T k S↔frR p T (T.n - (k+1)) (k+1) S∧frR p T (T.n - (k+1)) (k+1) (bitO .i64 S (shP k)):=by
   unfold frP; rw [er]; exact Iff.rfl
  rw [e1,e2]
  refine ⟨by omega,rfl,rfl,⟨hp,hT,?_,?_,?_⟩,fun h1=>⟨by omega,by omega,?_,rfl,rfl,⟨hp,hT,?_,?_,?_⟩,?_⟩,fun h1 h2=>h1 (fe.1 h2).1⟩
  ·dsimp only; omega
  ·dsimp only; omega
  ·dsimp only; rw [e1,pe]; omega
  ·rw [sh]; omega
  ·dsimp only; omega
  ·dsimp only; omega
  ·dsimp only; rw [e1,pe,ob]; omega
  ·exact ⟨fun h2=>fe.2 ⟨h1,h2⟩,fun h2=>(fe.1 h2).2⟩
theorem csF0_sound:SoundS Try.prog (ctrs [asC,roC]):=ctrs_sound (by
 intro x hx
 simp at hx
 rcases hx with rfl | rfl
 ·exact as_ok
 ·exact ro_ok)
theorem fr_ok:∀ M,(frC M).Ok Try.prog
 | 0=>⟨by kernel_rfl,fun p hp=>by have:=hp.m; omega⟩
 | M+1=>⟨by kernel_rfl,fun p hp=>by
  have hcs:SoundS Try.prog (csF M):=ctrsQ_sound csF0_sound (by
   intro x hx
   simp only [List.mem_cons,List.not_mem_nil,or_false] at hx
   subst hx
   exact fr_ok M)
  have key:=fr_true hp
  unfold frG at key
  exact stH_ok hcs nilS_x nilS_ic mixed key⟩
theorem csF_sound (M:Nat):SoundS Try.prog (csF M):=ctrsQ_sound csF0_sound (by
 intro x hx
 simp only [List.mem_cons,List.not_mem_nil,or_false] at hx
 subst hx
 exact fr_ok M)
theorem ft_true {p:Po} {T:Tn} (hp:okPo p) (hT:okT T):ftG p T:=by
 rw [ftG_vc]
 simp only [rI,rE,tA,tB,tC,tD,and_true,true_and,Nat.zero_lt_one,and_self,implies_true,po_fold,tn_fold]
 have hn:=hT.n
 exact ⟨rfl,rfl,⟨hp,hT,⟨by dsimp only; omega,by dsimp only; omega⟩,by dsimp only; omega,⟨by dsimp only; omega,by dsimp only; decide⟩⟩,Iff.rfl⟩
theorem ft_ok:ftC.Ok Try.prog:=by
 refine ⟨by kernel_rfl,fun x k hk=>?_⟩
 simp only [ftC] at hk
 split at hk
 ·rename_i n f m g
  obtain ⟨h1,h2,⟨h3,h4⟩,hk⟩:=hk
  have hh:=ft_true h3 h4
  unfold ftG at hh
  rw [← h1,← h2] at hh
  exact ⟨_,plainD (csF_sound 100) nilS_x nilS_ic hh trivial,hk⟩
 ·exact hk.elim
theorem ts_s (T:Tn) (k:Nat):tsJ T (k+1)=tsJ T k+T.f k:=rfl
theorem au_true {T:Tn} {a:Int} (hn:T.n≤6) (h0:0≤a) (h1:a≤1000000000):auG T a:=by
 rw [auG_vc]
 simp only [rI,rE,tA,tB,tC,tD,and_true,true_and,Nat.zero_lt_one,and_self,implies_true,Int.toNat_natCast,Bool.false_eq_true,false_iff]
 have pos:∀ z,auK T a z→0≤tsJ T z∧tsJ T z≤a:=by
  intro z
  induction z with
  | zero=>intro _; simp [tsJ,sumJ]; omega
  | succ z ih =>
   intro h
   have i:=ih ⟨fun i hi=>h.h i (by omega)⟩
   have q:=h.h z (by omega)
   rw [ts_s]; omega
 refine ⟨⟨0,⟨by omega,⟨fun i hi=>by omega⟩⟩,by simp [tsJ,sumJ],rfl⟩,fun z hz=>⟨fun hl=>⟨by omega,hl,fun hb h=>?_,fun hb=>⟨fun hc h=>?_,fun hc=>?_⟩⟩,fun hl=>?_⟩⟩
 ·have:=h.h.h z (by omega); omega
 ·have:=h.h.h z (by omega); omega
 ·have p:=pos z hz.2
  refine ⟨by omega,by omega,z+1,⟨by omega,⟨fun i hi=>?_⟩⟩,by omega,by rw [ts_s]; omega,by omega⟩
  by_cases e:i=z
  ·subst e; omega
  ·exact hz.2.h i (by omega)
 ·have:z=T.n:=by omega
  subst this
  exact ⟨fun h=>⟨hz.2,by omega⟩,fun h=>by have:=h.e; omega⟩
theorem au_ok:auC.Ok Try.prog:=by
 refine ⟨by kernel_rfl,fun x k hk=>?_⟩
 simp only [auC] at hk
 split at hk
 ·rename_i n f a
  obtain ⟨h1,⟨h2,h3,h4⟩,hk⟩:=hk
  have hh:=au_true (T:=tnOf n f) h2 h3 h4
  unfold auG at hh
  rw [← h1] at hh
  exact ⟨_,plainD nilS_cs nilS_x nilS_ic hh trivial,hk⟩
 ·exact hk.elim
end Go.Proofs.Ytfiaadlgfjokjaa

set_option maxRecDepth 100000
namespace Go.Proofs.Ytfiaadlgfjokjaa
open Go Go.Lg
attribute [local irreducible] funS bodyH
theorem ca_e {Y:Yd} {a:Int} {T:Tn} (h:¬ drE Y a a=0):caE Y a T=drE Y a a:=if_neg h
theorem ca_2 {Y:Yd} {a:Int} {T:Tn} (h:drE Y a a=0) (hn:¬ T.n=Y.c.n):caE Y a T=2:=by rw [caE,if_pos h,if_neg hn]
theorem ca_0 {Y:Yd} {a:Int} {T:Tn} (h:drE Y a a=0) (hn:T.n=Y.c.n):caE Y a T=0:=by rw [caE,if_pos h,if_pos hn]
theorem ds_mono {M:Ms} {c:Int} (h:okMs c M) {a:Int}:∀ {k:Nat},k≤M.n→ds M a k≤ds M (a+1) k
 | 0,_=>Int.le_refl _
 | k+1,hk=>by
  have ih:=ds_mono h (a:=a) (k:=k) (by omega)
  have t:=(h.h k (by omega)).t0
  rw [ds_s,ds_s]
  have:dsI M a k≤dsI M (a+1) k:=by
   unfold dsI
   split
   ·split <;> split <;> omega
   ·omega
  omega
theorem dw_ds {Y:Yd} {a:Int} (h:drE Y a a=0):0≤(drS Y a a).hi - (drS Y a a).lo∧(drS Y a a).hi - (drS Y a a).lo≤67108864:=by
 obtain ⟨h1,h2,h3⟩:=ck_0 (drE_ck h)
 have m:=ds_mono h2 (a:=a) (k:=Y.m.n) (Nat.le_refl _)
 have b1:=ds_bd h2 (a:=a) (k:=Y.m.n) (Nat.le_refl _)
 have b2:=ds_bd h2 (a:=a+1) (k:=Y.m.n) (Nat.le_refl _)
 rw [drS_y h]
 dsimp only
 omega
theorem au_okT {T:Tn} {a:Int} (hn:T.n≤6) (h1:a≤67108864) (h:auP T a):okT T:=⟨hn,fun i hi=>by
 have pos:∀ z,z≤T.n→0≤tsJ T z:=by
  intro z
  induction z with
  | zero=>intro _; simp [tsJ,sumJ]
  | succ z ih =>
   intro hz
   have i:=ih (by omega)
   have q:=h.h.h z (by omega)
   rw [ts_s]; omega
 have:=h.h.h i hi
 have:=pos i (by omega)
 omega⟩
theorem dp_ok (Y:Yd) (a:Int):okPo (dwP Y a):=⟨dw_len Y a,fun i hi=>(dw_okP (getD_mem (l:=dwL Y a) (d:=zP) hi)).1⟩
theorem ca_true (Y:Yd) (a:Int) (T:Tn):caG Y a T:=by
 rw [caG_vc]
 have e0:Yd.mk Y.c Y.m=Y:=rfl
 have e1:∀ t:Tw,Tw.mk t.lo t.hi=t:=fun t=>rfl
 simp only [rI,rE,tA,tB,tC,tD,and_true,true_and,Nat.zero_lt_one,and_self,implies_true,Classical.not_not,Bool.false_eq_true,false_iff,ms_fold,cl_fold,mv_fold,cv_fold,tn_fold,e0,e1]
 refine ⟨fun h=>⟨fun c=>?_,(ca_e h).symm⟩,fun h=>⟨fun hn=>⟨fun c=>?_,?_⟩,fun hn=>?_⟩⟩
 ·have:=c.e; rw [ca_e h] at this; exact h this
 ·have:=c.e; rw [ca_2 h (by omega)] at this; omega
 ·rw [ca_2 h (by omega)]
 ·have hn:T.n=Y.c.n:=by omega
  have hl:=ck_ly (drE_ck h)
  obtain ⟨hC,hM,hS⟩:=ck_0 (drE_ck h)
  have hcn:=hC.b
  have hb:=dw_ds h
  have ed:poM Y.m (drS Y a a) (lyL Y.m Y.m.n).length=dwL Y a:=(dw_yes h).symm
  have e2:(poOf (dwL Y a).length fun i=>((dwL Y a).getD i zP).sv)=dwP Y a:=rfl
  rw [ca_0 h hn]
  simp only [ed,e2,and_true]
  refine ⟨by omega,rfl,⟨by omega,by omega,by omega⟩,fun hu=>⟨hl,drS_bd Y a a,rfl,rfl,⟨dp_ok Y a,au_okT (by omega) hb.2 hu⟩,⟨fun hf=>⟨ca_0 h hn,hu,hf⟩,fun c=>c.f⟩⟩,fun hu=>fun c=>hu c.u⟩
theorem csC_sound:SoundS Try.prog (ctrs [drC,poC,auC,ftC]):=ctrs_sound (by
 intro x hx
 simp at hx
 rcases hx with rfl | rfl | rfl | rfl
 ·exact dr_ok
 ·exact po_ok
 ·exact au_ok
 ·exact ft_ok)
theorem ca_ok:caC.Ok Try.prog:=by
 refine ⟨by kernel_rfl,fun x k hk=>?_⟩
 simp only [caC] at hk
 split at hk
 ·rename_i n f m g a x y
  obtain ⟨h1,h2,z,hf,hk⟩:=hk
  refine ⟨_,?_,hk⟩
  have hh:=ca_true ⟨clOf n f,msOf m g⟩ a ⟨x,z⟩
  unfold caG at hh
  simp only [Yd.sv] at hh
  rw [← h1,← h2] at hh
  have hh:funH Try.prog (ctrs [drC,poC,auC,ftC]) noX (ictrs []) noL noL 21 [.agg [.lst 8 n f,.lst 3 m g],i6 a,(Tn.mk x z).sv] _:=hh
  have:=plainD csC_sound nilS_x nilS_ic hh (by simp [plainS,plainS.plainL])
  simp only [Tn.sv,SV.denL] at this ⊢
  rw [lst_den hf]; exact this
 ·exact hk.elim
def stI (M:Ms) (i:Nat):Prop:=(M.f i).co≠-1∧(i=0∨(M.f (i - 1)).co=-1∨(M.f (i - 1)).hr≠(M.f i).hr)
open Classical in
noncomputable def snF (M:Ms) (k:Nat):Int:=sumJ (fun i=>if stI M i then 1 else 0) k - 1
noncomputable def lrG (Y:Yd) (b:Int):Prop:=funH Try.prog (ctrs []) noX (ictrs [])
 (oneL 0 (natH (fun k=>k≤(b+1).toNat) (fun k=>Y.m.n - k) 1 (fun k=>mkF 48 [(1,i6 b),(2,.ptr 0 0 0),(5,i6 (snF Y.m k)),(6,i6 k)]) (fun _=>mkX [vr 2 Y.sv]) fun _=>none)) noL 50 [Y.sv,i6 b] (i6 (snF Y.m (b+1).toNat))
noncomputable def lrC:Ctr:=⟨50,fun args k=>match args with
 | [.agg [.lst 8 n f,.lst 3 m g],.int .i64 b]=>SV.lst 8 n f=(clOf n f).sv∧SV.lst 3 m g=(msOf m g).sv∧(0≤b∧b<m∧m≤1000)∧k (i6 (snF (msOf m g) (b+1).toNat))
 | _=>False⟩
open Classical in
noncomputable def coI (M:Ms) (o:Int) (i j:Nat):Int:=if (M.f j).co=i∧snF M (j+1)=o then (M.f j).tn else 0
noncomputable def ctF (M:Ms) (o:Int) (k i:Nat):Int:=sumJ (coI M o i) k
end Go.Proofs.Ytfiaadlgfjokjaa

set_option maxRecDepth 100000
namespace Go.Proofs.Ytfiaadlgfjokjaa
open Go Go.Lg
theorem lrG_vc (Y:Yd) (b:Int):lrG Y b=((∃ (z:Nat),z≤(b+(1:Int)).toNat∧b=b∧rE (0:Nat)∧rE (0:Nat)∧(-1:Int)=snF Y.m z∧(0:Int)=(↑z:Int)∧rE Y.c.1∧(∀ (i:Nat),i<Y.c.1→rE ((Y.c.f i).sv.den)∧True∧True∧True∧True∧True∧True∧True∧True∧True)∧rE Y.m.1∧(∀ (i:Nat),i<Y.m.1→rE ((Y.m.f i).sv.den)∧True∧True∧True∧True)∧True)∧∀ (z:Nat),z≤(b+(1:Int)).toNat→((↑z:Int)≤b→(0:Nat)<(1:Nat)∧(0:Int)≤(↑z:Int)∧(↑z:Int)<(↑Y.m.1:Int)∧(0:Nat)<(1:Nat)∧((Y.m.f (↑z:Int).toNat).2=(-1:Int)→rI ((↑z:Int)+(1:Int))∧∃ (z_1:Nat),z_1≤(b+(1:Int)).toNat∧Y.m.1 - z_1<Y.m.1 - z∧b=b∧rE (0:Nat)∧rE (0:Nat)∧snF Y.m z=snF Y.m z_1∧(↑z:Int)+(1:Int)=(↑z_1:Int)∧rE Y.c.1∧(∀ (i:Nat),i<Y.c.1→rE ((Y.c.f i).sv.den)∧True∧True∧True∧True∧True∧True∧True∧True∧True)∧rE Y.m.1∧(∀ (i:Nat),i<Y.m.1→rE ((Y.m.f i).sv.den)∧True∧True∧True∧True)∧True)∧(¬(Y.m.f (↑z:Int).toNat).2=(-1:Int)→((↑z:Int)=(0:Int)→rI (snF Y.m z+(1:Int))∧rI ((↑z:Int)+(1:Int))∧∃ (z_1:Nat),z_1≤(b+(1:Int)).toNat∧Y.m.1 - z_1<Y.m.1 - z∧b=b∧rE (0:Nat)∧rE (0:Nat)∧snF Y.m z+(1:Int)=snF Y.m z_1∧(↑z:Int)+(1:Int)=(↑z_1:Int)∧rE Y.c.1∧(∀ (i:Nat),i<Y.c.1→rE ((Y.c.f i).sv.den)∧True∧True∧True∧True∧True∧True∧True∧True∧True)∧rE Y.m.1 ∧
(∀ (i:Nat),i<Y.m.1→rE ((Y.m.f i).sv.den)∧True∧True∧True∧True)∧True)∧(¬(↑z:Int)=(0:Int)→(0:Nat)<(1:Nat)∧rI ((↑z:Int) - (1:Int))∧(0:Int)≤(↑z:Int) - (1:Int)∧(↑z:Int) - (1:Int)<(↑Y.m.1:Int)∧((Y.m.f ((↑z:Int) - (1:Int)).toNat).2=(-1:Int)→rI (snF Y.m z+(1:Int))∧rI ((↑z:Int)+(1:Int))∧∃ (z_1:Nat),z_1≤(b+(1:Int)).toNat∧Y.m.1 - z_1<Y.m.1 - z∧b=b∧rE (0:Nat)∧rE (0:Nat)∧snF Y.m z+(1:Int)=snF Y.m z_1∧(↑z:Int)+(1:Int)=(↑z_1:Int)∧rE Y.c.1∧(∀ (i:Nat),i<Y.c.1→rE ((Y.c.f i).sv.den)∧True∧True∧True∧True∧True∧True∧True∧True∧True)∧rE Y.m.1∧(∀ (i:Nat),i<Y.m.1→rE ((Y.m.f i).sv.den)∧True∧True∧True∧True)∧True)∧(¬(Y.m.f ((↑z:Int) - (1:Int)).toNat).2=(-1:Int)→(0:Nat)<(1:Nat)∧rI ((↑z:Int) - (1:Int))∧(0:Int)≤(↑z:Int) - (1:Int)∧(↑z:Int) - (1:Int)<(↑Y.m.1:Int)∧(0:Nat)<(1:Nat)∧(¬(Y.m.f ((↑z:Int) - (1:Int)).toNat).1=(Y.m.f (↑z:Int).toNat).1→rI (snF Y.m z+(1:Int))∧rI ((↑z:Int)+(1:Int))∧∃ (z_1:Nat),z_1≤(b+(1:Int)).toNat∧Y.m.1 - z_1<Y.m.1 - z∧b=b∧rE (0:Nat)∧rE (0:Nat)∧snF Y.m z+(1:Int)=snF Y.m z_1∧(↑z:Int)+(1:Int)=(↑z_1:Int)∧rE Y.c.1∧(∀ (i:Nat),i<Y.c.1→rE ((Y.c.f i).sv.den)∧True∧True∧True∧True∧True∧True∧True∧True∧True)∧rE Y.m.1∧(∀ (i:Nat),i<Y.m.1→rE ((Y.m.f i).sv.den)∧True ∧
True∧True∧True)∧True)∧(¬¬(Y.m.f ((↑z:Int) - (1:Int)).toNat).1=(Y.m.f (↑z:Int).toNat).1→rI ((↑z:Int)+(1:Int))∧∃ (z_1:Nat),z_1≤(b+(1:Int)).toNat∧Y.m.1 - z_1<Y.m.1 - z∧b=b∧rE (0:Nat)∧rE (0:Nat)∧snF Y.m z=snF Y.m z_1∧(↑z:Int)+(1:Int)=(↑z_1:Int)∧rE Y.c.1∧(∀ (i:Nat),i<Y.c.1→rE ((Y.c.f i).sv.den)∧True∧True∧True∧True∧True∧True∧True∧True∧True)∧rE Y.m.1∧(∀ (i:Nat),i<Y.m.1→rE ((Y.m.f i).sv.den)∧True∧True∧True∧True)∧True)))))∧(¬(↑z:Int)≤b→snF Y.m z=snF Y.m (b+(1:Int)).toNat∧True)):=by kernel_rfl
end Go.Proofs.Ytfiaadlgfjokjaa

namespace Go.Proofs.Ytfiaadlgfjokjaa
open Go Go.Lg
attribute [local irreducible] bodyH funS
def spnC:Ctr:=⟨27,fun args k=>match args with
 | [.int .i64 a,.int .i64 b]=>k (.agg [i6 a,i6 b])
 | _=>False⟩
noncomputable def spnG (a b:Int):Prop:=funH Try.prog (ctrs []) noX (ictrs []) noL noL 27 [i6 a,i6 b] (.agg [i6 a,i6 b])
def c0F:Nat→Co
 | 0=>⟨400,500,5,6,10,12,60,70⟩
 | _=>⟨600,650,8,9,30,40,50,55⟩
def m0F:Nat→Mv
 | 0=>⟨5,0,30⟩
 | 1=>⟨5,1,20⟩
 | 2=>⟨8,-1,40⟩
 | 3=>⟨9,1,15⟩
 | _=>⟨10,-1,20⟩
def y0:Yd:=⟨⟨2,c0F⟩,⟨5,m0F⟩⟩
noncomputable def smpG:Prop:=funH Try.prog (ctrs [spnC]) noX (ictrs []) noL noL 29 [] y0.sv
noncomputable def smpC (Y:Yd):Ctr:=⟨29,fun args k=>match args with
 | []=>k Y.sv
 | _=>False⟩
def p0F (i:Nat):Pt:=⟨i,10⟩
def t0F (i:Nat):Tw:=⟨10*i,10+10*i⟩
def ys0:Int→Tw
 | 0=>⟨18000,23000⟩
 | _=>⟨400,800⟩
noncomputable def dw0C:Ctr:=⟨11,fun args k=>match args with
 | [.agg [.lst 8 n f,.lst 3 m g],.int .i64 a]=>SV.lst 8 n f=(clOf n f).sv∧SV.lst 3 m g=(msOf m g).sv∧(Yd.mk (clOf n f) (msOf m g)=y0∧a=1)∧k (.tup [ptL 2 p0F,i6 0])
 | _=>False⟩
noncomputable def be0C:Ctr:=⟨16,fun args k=>match args with
 | [.agg [.lst 8 n f,.lst 3 m g],.int .i64 a]=>SV.lst 8 n f=(clOf n f).sv∧SV.lst 3 m g=(msOf m g).sv∧(Yd.mk (clOf n f) (msOf m g)=y0∧a=1)∧k (.tup [twL 2 t0F,i6 0])
 | _=>False⟩
noncomputable def yl0C:Ctr:=⟨18,fun args k=>match args with
 | [.agg [.lst 8 n f,.lst 3 m g],.int .i64 a,.int .i64 b,.int .i64 w]=>SV.lst 8 n f=(clOf n f).sv∧SV.lst 3 m g=(msOf m g).sv∧(Yd.mk (clOf n f) (msOf m g)=y0∧a=b∧w=2*a∧(a=0∨a=1))∧k (.tup [(ys0 w).sv,i6 0])
 | _=>False⟩
noncomputable def ca0C:Ctr:=⟨21,fun args k=>match args with
 | [.agg [.lst 8 n f,.lst 3 m g],.int .i64 a,.lst 1 x y]=>SV.lst 8 n f=(clOf n f).sv∧SV.lst 3 m g=(msOf m g).sv∧(Yd.mk (clOf n f) (msOf m g)=y0∧a=0∧x=2∧y 0=i6 25∧y 1=i6 15)∧k (.tup [.bool true,i6 0])
 | _=>False⟩
noncomputable def lt0C (g:FuncId):Ctr:=⟨g,fun args k=>match args with
 | [.lst 2 n f,.lst 2 m h]=>SV.lst 2 n f=twL n (fun i=>tOf (f i))∧SV.lst 2 m h=twL m (fun i=>tOf (h i))∧(n≤1000∧n=m∧eqT n (fun i=>tOf (f i)) fun i=>tOf (h i))∧k (.bool true)
 | _=>False⟩
noncomputable def csO (Y:Yd):CSpec:=ctrsF [smpC Y,dw0C] (ctrs [spnC,be0C,yl0C,ca0C,lt0C 15,lt0C 20])
noncomputable def awkG (Y:Yd):Prop:=funH Try.prog (csO Y) noX (ictrs []) noL noL 10 [] (.bool true)
end Go.Proofs.Ytfiaadlgfjokjaa

set_option maxRecDepth 100000
namespace Go.Proofs.Ytfiaadlgfjokjaa
open Go Go.Lg
theorem spnG_vc (a:Int) (b:Int):spnG a b =
((0:Nat)<(1:Nat)∧a=a∧b=b∧True):=by kernel_rfl
theorem smpG_vc :smpG  =
(((∀ (i:Nat),rE true)∧True)∧((∀ (i:Nat),rE true)∧(∀ (i:Nat),rE true)∧(∀ (i:Nat),rE true)∧(∀ (i:Nat),rE true)∧True)∧(0:Nat)<(1:Nat)∧rE (2:Nat)∧(∀ (i:Nat),i<(2:Nat)→(chainF [SV.agg [SV.int IntKind.i64 (400:Int),SV.int IntKind.i64 (500:Int),SV.int IntKind.i64 (5:Int),SV.int IntKind.i64 (6:Int),SV.int IntKind.i64 (10:Int),SV.int IntKind.i64 (12:Int),SV.int IntKind.i64 (60:Int),SV.int IntKind.i64 (70:Int)],SV.agg [SV.int IntKind.i64 (600:Int),SV.int IntKind.i64 (650:Int),SV.int IntKind.i64 (8:Int),SV.int IntKind.i64 (9:Int),SV.int IntKind.i64 (30:Int),SV.int IntKind.i64 (40:Int),SV.int IntKind.i64 (50:Int),SV.int IntKind.i64 (55:Int)]] i).den=(y0.c.f i).sv.den∧True∧True∧True∧True∧True∧True∧True∧True∧True)∧rE (5:Nat)∧(∀ (i:Nat),i<(5:Nat)→(chainF [SV.agg [SV.int
IntKind.i64 (5:Int),SV.int IntKind.i64 (0:Int),SV.int IntKind.i64 (30:Int)],SV.agg [SV.int IntKind.i64 (5:Int),SV.int IntKind.i64 (1:Int),SV.int IntKind.i64 (20:Int)],SV.agg [SV.int IntKind.i64 (8:Int),SV.int IntKind.i64 (-1:Int),SV.int IntKind.i64 (40:Int)],SV.agg [SV.int IntKind.i64 (9:Int),SV.int IntKind.i64 (1:Int),SV.int IntKind.i64 (15:Int)],SV.agg [SV.int IntKind.i64 (10:Int),SV.int IntKind.i64 (-1:Int),SV.int IntKind.i64 (20:Int)]] i).den=(y0.m.f i).sv.den∧True∧True∧True∧True)∧True):=by kernel_rfl
theorem awkG_vc (Y:Yd):awkG Y =
((0:Nat)<(1:Nat)∧(∀ (i:Nat),i<Y.c.1→True∧True∧True∧True∧True∧True∧True∧True∧True)∧(∀ (i:Nat),i<Y.m.1→True∧True∧True∧True)∧(SV.lst (8:Nat) Y.c.n fun i=>(Y.c.f i).sv)=(clOf Y.c.n fun i=>(Y.c.f i).sv).sv∧(SV.lst (3:Nat) Y.m.n fun i=>(Y.m.f i).sv)=(msOf Y.m.n fun i=>(Y.m.f i).sv).sv∧(Yd.mk (clOf Y.c.n fun i=>(Y.c.f i).sv) (msOf Y.m.n fun i=>(Y.m.f i).sv)=y0∧rE (1:Int))∧(0:Nat)<(1:Nat)∧(∀ (i:Nat),i<Y.c.1→True∧True∧True∧True∧True∧True∧True∧True∧True)∧(∀ (i:Nat),i<Y.m.1→True∧True∧True∧True)∧(SV.lst (8:Nat) Y.c.n fun i=>(Y.c.f i).sv)=(clOf Y.c.n fun i=>(Y.c.f i).sv).sv∧(SV.lst (3:Nat) Y.m.n fun i=>(Y.m.f i).sv)=(msOf Y.m.n fun i=>(Y.m.f i).sv).sv∧(Yd.mk (clOf Y.c.n fun i=>(Y.c.f i).sv) (msOf Y.m.n fun i=>(Y.m.f i).sv)=y0∧rE (1:Int))∧(0 :
Nat)<(1:Nat)∧(∀ (i:Nat),i<Y.c.1→True∧True∧True∧True∧True∧True∧True∧True∧True)∧(∀ (i:Nat),i<Y.m.1→True∧True∧True∧True)∧(SV.lst (8:Nat) Y.c.n fun i=>(Y.c.f i).sv)=(clOf Y.c.n fun i=>(Y.c.f i).sv).sv∧(SV.lst (3:Nat) Y.m.n fun i=>(Y.m.f i).sv)=(msOf Y.m.n fun i=>(Y.m.f i).sv).sv∧(Yd.mk (clOf Y.c.n fun i=>(Y.c.f i).sv) (msOf Y.m.n fun i=>(Y.m.f i).sv)=y0∧rE (0:Int)∧(0:Int)=(2:Int)*(0:Int)∧(rE (0:Int)∨(0:Int)=(1:Int)))∧(0:Nat)<(1:Nat)∧(∀ (i:Nat),i<Y.c.1→True∧True∧True∧True∧True∧True∧True∧True∧True)∧(∀ (i:Nat),i<Y.m.1→True∧True∧True∧True)∧(SV.lst (8:Nat) Y.c.n fun i=>(Y.c.f i).sv)=(clOf Y.c.n fun i=>(Y.c.f i).sv).sv∧(SV.lst (3:Nat) Y.m.n fun i=>(Y.m.f i).sv)=(msOf Y.m.n fun i=>(Y.m.f i).sv).sv∧(Yd.mk (clOf Y.c.n fun i =>
(Y.c.f i).sv) (msOf Y.m.n fun i=>(Y.m.f i).sv)=y0∧rE (1:Int)∧(2:Int)=(2:Int)*(1:Int)∧((1:Int)=(0:Int)∨(1:Int)=(1:Int)))∧(0:Nat)<(1:Nat)∧((∀ (i:Nat),rE true)∧True)∧(∀ (i:Nat),i<Y.c.1→True∧True∧True∧True∧True∧True∧True∧True∧True)∧(∀ (i:Nat),i<Y.m.1→True∧True∧True∧True)∧(∀ (i:Nat),i<(2:Nat)→True)∧(SV.lst (8:Nat) Y.c.n fun i=>(Y.c.f i).sv)=(clOf Y.c.n fun i=>(Y.c.f i).sv).sv∧(SV.lst (3:Nat) Y.m.n fun i=>(Y.m.f i).sv)=(msOf Y.m.n fun i=>(Y.m.f i).sv).sv∧(Yd.mk (clOf Y.c.n fun i=>(Y.c.f i).sv) (msOf Y.m.n fun i=>(Y.m.f i).sv)=y0∧rE (0:Int)∧rE (2:Nat)∧chainF [SV.int IntKind.i64 (25:Int),SV.int IntKind.i64 (15:Int)] (0:Nat)=i6 (25:Int)∧chainF [SV.int IntKind.i64 (25:Int),SV.int IntKind.i64 (15:Int)] (1:Nat)=i6 (15:Int))∧((∀ (i :
Nat),rE true)∧True)∧(∀ (i:Nat),i<(2:Nat)→True∧True∧True)∧(∀ (i:Nat),i<(2:Nat)→True∧True∧True)∧((SV.lst (2:Nat) (2:Nat) fun i=>(p0F i).sv)=twL (2:Nat) fun i=>tOf (p0F i).sv)∧(SV.lst (2:Nat) (2:Nat) (chainF [SV.agg [SV.int IntKind.i64 (0:Int),SV.int IntKind.i64 (10:Int)],SV.agg [SV.int IntKind.i64 (1:Int),SV.int IntKind.i64 (10:Int)]])=twL (2:Nat) fun i=>tOf (chainF [SV.agg [SV.int IntKind.i64 (0:Int),SV.int IntKind.i64 (10:Int)],SV.agg [SV.int IntKind.i64 (1:Int),SV.int IntKind.i64 (10:Int)]] i))∧((2:Nat)≤(1000:Nat)∧rE (2:Nat)∧∀ (i:Nat),i<(2:Nat)→((↑i:Int)=if i=(0:Nat) then (0:Int) else (1:Int))∧(10:Int)=if i=(0:Nat) then (10:Int) else (10:Int))∧(rE (0:Int)→((∀ (i:Nat),rE true)∧True)∧(∀ (i:Nat),i<(2:Nat)→True∧True∧True)∧(∀ (i :
Nat),i<(2:Nat)→True∧True∧True)∧((SV.lst (2:Nat) (2:Nat) fun i=>(t0F i).sv)=twL (2:Nat) fun i=>tOf (t0F i).sv)∧(SV.lst (2:Nat) (2:Nat) (chainF [SV.agg [SV.int IntKind.i64 (0:Int),SV.int IntKind.i64 (10:Int)],SV.agg [SV.int IntKind.i64 (10:Int),SV.int IntKind.i64 (20:Int)]])=twL (2:Nat) fun i=>tOf (chainF [SV.agg [SV.int IntKind.i64 (0:Int),SV.int IntKind.i64 (10:Int)],SV.agg [SV.int IntKind.i64 (10:Int),SV.int IntKind.i64 (20:Int)]] i))∧((2:Nat)≤(1000:Nat)∧rE (2:Nat)∧∀ (i:Nat),i<(2:Nat)→((10:Int)*(↑i:Int)=if i=(0:Nat) then (0:Int) else (10:Int))∧(10:Int)+(10:Int)*(↑i:Int)=if i=(0:Nat) then (10:Int) else (20:Int))∧(rE (0:Int)→(0:Nat)<(1:Nat)∧(rE (18000:Int)∧rE (23000:Int)→(rE (0:Int)→(0:Nat)<(1:Nat)∧(rE (400:Int)∧rE (800:Int)→(rE
(0:Int)→(rE (0:Int)↔true=true)∧True)∧(¬(0:Int)=(0:Int)→false=true∧True))∧(¬(rE (400:Int)∧rE (800:Int))→false=true∧True))∧(¬(0:Int)=(0:Int)→false=true∧True))∧(¬(rE (18000:Int)∧rE (23000:Int))→false=true∧True))∧(¬(0:Int)=(0:Int)→false=true∧True))∧(¬(0:Int)=(0:Int)→false=true∧True)):=by kernel_rfl
end Go.Proofs.Ytfiaadlgfjokjaa

set_option maxRecDepth 100000
namespace Go.Proofs.Ytfiaadlgfjokjaa
open Go Go.Lg
attribute [local irreducible] funS bodyH
theorem y0_c:okCl y0.c:=by
 refine ⟨by decide,by decide,fun i hi=>?_⟩
 have hi:i<2:=hi
 match i,hi with
 | 0,_=>exact ⟨⟨by decide,by decide,by decide⟩,⟨by decide,by decide,by decide⟩,⟨by decide,by decide,by decide⟩,⟨by decide,by decide,by decide⟩⟩
 | 1,_=>exact ⟨⟨by decide,by decide,by decide⟩,⟨by decide,by decide,by decide⟩,⟨by decide,by decide,by decide⟩,⟨by decide,by decide,by decide⟩⟩
theorem y0_m:okMs y0.c.n y0.m:=by
 refine ⟨by decide,fun i hi=>?_⟩
 have hi:i<5:=hi
 match i,hi with
 | 0,_=>exact ⟨by decide,by decide,by decide,by decide,by decide,by decide⟩
 | 1,_=>exact ⟨by decide,by decide,by decide,by decide,by decide,by decide⟩
 | 2,_=>exact ⟨by decide,by decide,by decide,by decide,by decide,by decide⟩
 | 3,_=>exact ⟨by decide,by decide,by decide,by decide,by decide,by decide⟩
 | 4,_=>exact ⟨by decide,by decide,by decide,by decide,by decide,by decide⟩
theorem y0_ck:ckY y0=0:=by
 have h:okSh y0.m y0.m.n:=by
  intro i hi hd
  have hi:i<5:=hi
  match i,hi with
  | 0,_=>exact absurd hd (by decide)
  | 1,_=>exact absurd hd (by decide)
  | 2,_=>show 0≤lf y0.m 3; simp [lf,sumJ,dl,y0,m0F]
  | 3,_=>exact absurd hd (by decide)
  | 4,_=>show 0≤lf y0.m 5; simp [lf,sumJ,dl,y0,m0F]
 unfold ckY
 rw [if_pos ⟨y0_c,y0_m⟩,if_pos h]
def l00:La:=⟨30,20,0,0,0,0,0,50⟩
def l01:La:=⟨0,15,0,0,0,0,50,65⟩
theorem y0_ly:lyL y0.m 5=[l00,l01]:=by
 simp [lyL,cuL,jnM,y0,m0F,La.add,nwL,zL,l00,l01]
theorem y0_dn:dn y0.m 5=2:=by simp [dn,y0,m0F]
theorem y0_dr {a:Int} (h:a=0∨a=1):drE y0 a a=0:=by
 have e:dn y0.m y0.m.n=2:=y0_dn
 unfold drE
 rw [y0_ck,if_pos rfl,e,if_neg (by omega)]
theorem y0_s0:drS y0 0 0=⟨0,40⟩:=by
 unfold drS
 rw [if_pos (y0_dr (.inl rfl))]
 simp [ds,sumJ,dsI,dn,y0,m0F]
theorem y0_s1:drS y0 1 1=⟨40,60⟩:=by
 unfold drS
 rw [if_pos (y0_dr (.inr rfl))]
 simp [ds,sumJ,dsI,dn,y0,m0F]
theorem y0_po (s:Tw):poS' y0.m s=poL (fun j=>[l00,l01].getD j zL) s 2:=by
 have e:lyL y0.m y0.m.n=[l00,l01]:=y0_ly
 unfold poS' poM lyN lyF
 rw [e]; rfl
theorem y0_p0:poS' y0.m ⟨0,40⟩=[⟨l00,0,40⟩]:=by
 rw [y0_po]
 have e0:cmT ⟨0,40⟩ l00.st=40:=by decide
 have e1:cmT ⟨0,40⟩ l01.st=0:=by decide
 simp [poL,e0,e1]
theorem y0_p1:poS' y0.m ⟨40,60⟩=[⟨l00,0,10⟩,⟨l01,1,10⟩]:=by
 rw [y0_po]
 have e0:cmT ⟨40,60⟩ l00.st=10:=by decide
 have e1:cmT ⟨40,60⟩ l01.st=10:=by decide
 simp [poL,e0,e1]
theorem y0_d0:dwL y0 0=[⟨l00,0,40⟩]:=by unfold dwL; rw [if_pos (y0_dr (.inl rfl)),y0_s0,y0_p0]
theorem y0_d1:dwL y0 1=[⟨l00,0,10⟩,⟨l01,1,10⟩]:=by unfold dwL; rw [if_pos (y0_dr (.inr rfl)),y0_s1,y0_p1]
def fA (w:Nat):Nat→Gr
 | 0=>gA w y0.c 0
 | _=>gA w y0.c 1
def fB (w:Nat):Nat→Gr
 | 0=>gB w y0.c 1
 | _=>gB w y0.c 0
theorem y0_sA {w:Nat} (h:w=0∨w=2):∀ k,k<2→stA w y0.c k=fA w k:=by
 intro k hk
 have:k=0∨k=1:=by omega
 rcases h with rfl | rfl <;> rcases this with rfl | rfl <;> simp [stA,stF,inF,fA,gA,spT,cmW,cmpI,y0,c0F]
theorem y0_sB {w:Nat} (h:w=0∨w=2):∀ k,k<2→stB w y0.c k=fB w k:=by
 intro k hk
 have:k=0∨k=1:=by omega
 rcases h with rfl | rfl <;> rcases this with rfl | rfl <;> simp [stB,stF,inF,swp,fB,gB,spT,cmW,cmpI,y0,c0F]
theorem fl_cg {p:Pn} {f g:Nat→Gr} {n:Nat} (h:∀ k,k<n→f k=g k):∀ k,k≤n→flR p f k=flR p g k∧flG p f k=flG p g k
 | 0,_=>⟨rfl,rfl⟩
 | k+1,hk=>by
  obtain ⟨i1,i2⟩:=fl_cg (p:=p) h k (by omega)
  simp only [flR,flG,i1,i2,h k (by omega),and_self]
theorem y0_yl {a w:Int} {l:List Pn} (hl:poS' y0.m (drS y0 a a)=l) (ha:a=0∨a=1) (hw:w.toNat=0∨w.toNat=2) (h0:0≤w) (h3:w≤3) :
  ylR y0 a a w=.tup [(Tw.mk (sumJ (fun i=>flG (l.getD i zP) (fA w.toNat) 2) l.length) (sumJ (fun i=>flG (l.getD i zP) (fB w.toNat) 2) l.length)).sv,i6 0]:=by
 have e:ylE y0 a a w=0:=ylE_0 (y0_dr ha) (by omega)
 unfold ylR
 rw [ylS_y e,e]
 have hp:ylP y0 a a=l:=hl
 unfold ylJ
 rw [hp]
 have n2:y0.c.n=2:=rfl
 have eA:∀ p:Pn,flG p (stA w.toNat y0.c) y0.c.n=flG p (fA w.toNat) 2:=fun p=>(fl_cg (y0_sA hw) 2 (Nat.le_refl _)).2
 have eB:∀ p:Pn,flG p (stB w.toNat y0.c) y0.c.n=flG p (fB w.toNat) 2:=fun p=>(fl_cg (y0_sB hw) 2 (Nat.le_refl _)).2
 simp only [eA,eB]
theorem y0_y0:ylR y0 0 0 0=.tup [(ys0 0).sv,i6 0]:=by
 rw [y0_yl (l:=[⟨l00,0,40⟩]) (by rw [y0_s0,y0_p0]) (.inl rfl) (.inl rfl) (by decide) (by decide)]
 have e1:sumJ (fun i=>flG ([(⟨l00,0,40⟩:Pn)].getD i zP) (fA (Int.toNat 0)) 2) 1=18000:=by decide +kernel
 have e2:sumJ (fun i=>flG ([(⟨l00,0,40⟩:Pn)].getD i zP) (fB (Int.toNat 0)) 2) 1=23000:=by decide +kernel
 show SV.tup [(Tw.mk (sumJ _ 1) (sumJ _ 1)).sv,i6 0]=_
 rw [e1,e2]; rfl
theorem y0_y2:ylR y0 1 1 2=.tup [(ys0 2).sv,i6 0]:=by
 rw [y0_yl (l:=[⟨l00,0,10⟩,⟨l01,1,10⟩]) (by rw [y0_s1,y0_p1]) (.inr rfl) (.inr rfl) (by decide) (by decide)]
 have e1:sumJ (fun i=>flG ([(⟨l00,0,10⟩:Pn),⟨l01,1,10⟩].getD i zP) (fA (Int.toNat 2)) 2) 2=400:=by decide +kernel
 have e2:sumJ (fun i=>flG ([(⟨l00,0,10⟩:Pn),⟨l01,1,10⟩].getD i zP) (fB (Int.toNat 2)) 2) 2=800:=by decide +kernel
 show SV.tup [(Tw.mk (sumJ _ 2) (sumJ _ 2)).sv,i6 0]=_
 rw [e1,e2]; rfl
theorem y0_be:(beR y0 1).den=(SV.tup [twL 2 t0F,i6 0]).den:=by
 have e:drE y0 1 1=0:=y0_dr (.inr rfl)
 have n:beN y0 1=2:=by unfold beN; rw [if_pos e]; rfl
 unfold beR
 rw [n,e,y0_d1]
 have h:∀ i,i<2→(bsS [⟨l00,0,10⟩,⟨l01,1,10⟩] i).sv=(t0F i).sv:=by
  intro i hi
  have:i=0∨i=1:=by omega
  rcases this with rfl | rfl
  ·have e1:(bsS [⟨l00,0,10⟩,⟨l01,1,10⟩] 0).lo=0:=by decide +kernel
   have e2:(bsS [⟨l00,0,10⟩,⟨l01,1,10⟩] 0).hi=10:=by decide +kernel
   unfold Tw.sv; rw [e1,e2]; rfl
  ·have e1:(bsS [⟨l00,0,10⟩,⟨l01,1,10⟩] 1).lo=10:=by decide +kernel
   have e2:(bsS [⟨l00,0,10⟩,⟨l01,1,10⟩] 1).hi=20:=by decide +kernel
   unfold Tw.sv; rw [e1,e2]; rfl
 show AV.tup [(twL 2 _).den,_]=AV.tup [(twL 2 _).den,_]
 rw [show (twL 2 (bsS [⟨l00,0,10⟩,⟨l01,1,10⟩])).den=(twL 2 t0F).den from lst_den h]
theorem y0_dw:(dwR y0 1).den=(SV.tup [ptL 2 p0F,i6 0]).den:=by
 unfold dwR
 rw [y0_dr (.inr rfl),y0_d1]
 have h:∀ i,i<2→(([(⟨l00,0,10⟩:Pn),⟨l01,1,10⟩].getD i zP).pt).sv=(p0F i).sv:=by
  intro i hi
  have:i=0∨i=1:=by omega
  rcases this with rfl | rfl <;> rfl
 show AV.tup [(ptL 2 _).den,_]=AV.tup [(ptL 2 _).den,_]
 rw [show (ptL 2 fun i=>([(⟨l00,0,10⟩:Pn),⟨l01,1,10⟩].getD i zP).pt).den=(ptL 2 p0F).den from lst_den h]
theorem sumJ_cg {f g:Nat→Int}:∀ {m:Nat},(∀ i,i<m→f i=g i)→sumJ f m=sumJ g m
 | 0,_=>rfl
 | m+1,h=>by
  show sumJ f m+f m=sumJ g m+g m
  rw [sumJ_cg (m:=m) fun i hi=>h i (by omega),h m (by omega)]
def bB (S:Int) (i:Nat):Bool:=decide (bitA .i64 (S.fdiv (shP (i:Int))) 1=1)
theorem ak_B (T:Tn) (S:Int) (i:Nat):akI T S i=if bB S i=true then T.f i else 0:=by
 unfold akI
 by_cases h:biP S i
 ·rw [if_pos h,if_pos (show bB S i=true from decide_eq_true (show bitA .i64 (S.fdiv (shP (i:Int))) 1=1 from h))]
 ·rw [if_neg h,if_neg (fun x:bB S i=true=>h (show bitA .i64 (S.fdiv (shP (i:Int))) 1=1 from of_decide_eq_true x))]
noncomputable def asB (T:Tn) (S:Int):Int:=sumJ (fun i=>if bB S i=true then T.f i else 0) T.n
theorem as_B (T:Tn) (S:Int):asS T S=asB T S:=sumJ_cg fun i _=>ak_B T S i
theorem y0_fr (S:Int) (T:Tn):roS (dwP y0 0) S=sumJ (fun i=>min ([(⟨l00,0,40⟩:Pn)].getD i zP).tn (asB (lyT ([(⟨l00,0,40⟩:Pn)].getD i zP).l) S)) 1:=by
 unfold roS roJ dwP
 rw [y0_d0]
 exact sumJ_cg fun i _=>by rw [as_B]
def tn0:Nat→Int
 | 0=>25
 | _=>15
theorem y0_ca:caP y0 0 ⟨2,tn0⟩∧caE y0 0 ⟨2,tn0⟩=0:=by
 have e:drE y0 0 0=0:=y0_dr (.inl rfl)
 have c:caE y0 0 ⟨2,tn0⟩=0:=by unfold caE; rw [if_pos e]; exact if_pos rfl
 refine ⟨⟨c,?_,?_⟩,c⟩
 ·rw [y0_s0]
  refine ⟨⟨fun i hi=>?_⟩,by decide +kernel⟩
  have hi:i<2:=hi
  have:i=0∨i=1:=by omega
  rcases this with rfl | rfl <;> decide +kernel
 ·show frR (dwP y0 0) ⟨2,tn0⟩ 2 0 0
  refine ⟨⟨?_,?_⟩,?_,?_⟩
  all_goals
   show asS _ _≤roS _ _
   rw [as_B,y0_fr _ ⟨2,tn0⟩]
   decide +kernel
end Go.Proofs.Ytfiaadlgfjokjaa

set_option maxRecDepth 100000
namespace Go.Proofs.Ytfiaadlgfjokjaa
open Go Go.Lg
attribute [local irreducible] funS bodyH
theorem spn_ok:spnC.Ok Try.prog:=by
 refine ⟨by kernel_rfl,fun x k hk=>?_⟩
 simp only [spnC] at hk
 split at hk
 ·rename_i a b
  have hh:spnG a b:=by rw [spnG_vc]; simp
  exact ⟨_,plainD nilS_cs nilS_x nilS_ic hh (by simp [plainS,plainS.plainL]),hk⟩
 ·exact hk.elim
theorem smp_true:smpG:=by
 rw [smpG_vc]
 simp only [rI,rE,and_true,true_and,Nat.zero_lt_one,implies_true]
 refine ⟨fun i hi=>?_,fun i hi=>?_⟩
 ·match i,hi with
  | 0,_=>rfl
  | 1,_=>rfl
 ·match i,hi with
  | 0,_=>rfl
  | 1,_=>rfl
  | 2,_=>rfl
  | 3,_=>rfl
  | 4,_=>rfl
theorem smp_ok:(smpC y0).OkF Try.prog:=by
 refine ⟨by kernel_rfl,fun x k hk=>?_⟩
 simp only [smpC] at hk
 split at hk
 ·exact ⟨_,funH_does (one_cs spn_ok) nilS_x nilS_ic mixed smp_true,hk⟩
 ·exact hk.elim
theorem dw0_ok:dw0C.OkF Try.prog:=by
 refine ⟨by kernel_rfl,fun x k hk=>?_⟩
 simp only [dw0C] at hk
 split at hk
 ·rename_i n f m g a
  obtain ⟨h1,h2,⟨h3,rfl⟩,hk⟩:=hk
  obtain ⟨r,hd,hr⟩:=dw_ok.2 [.agg [.lst 8 n f,.lst 3 m g],.int .i64 1] (fun r=>r.den=(dwR y0 1).den) ⟨h1,h2,by rw [h3]⟩
  rw [hr,y0_dw] at hd
  exact ⟨_,hd,hk⟩
 ·exact hk.elim
theorem be0_ok:be0C.Ok Try.prog:=by
 refine ⟨by kernel_rfl,fun x k hk=>?_⟩
 simp only [be0C] at hk
 split at hk
 ·rename_i n f m g a
  obtain ⟨h1,h2,⟨h3,rfl⟩,hk⟩:=hk
  obtain ⟨r,hd,hr⟩:=be_ok.2 [.agg [.lst 8 n f,.lst 3 m g],.int .i64 1] (fun r=>r.den=(beR y0 1).den) ⟨h1,h2,by rw [h3]⟩
  rw [hr,y0_be] at hd
  exact ⟨_,hd,hk⟩
 ·exact hk.elim
theorem yl0_ok:yl0C.Ok Try.prog:=by
 refine ⟨by kernel_rfl,fun x k hk=>?_⟩
 simp only [yl0C] at hk
 split at hk
 ·rename_i n f m g a b w
  obtain ⟨h1,h2,⟨h3,rfl,rfl,h4⟩,hk⟩:=hk
  obtain ⟨r,hd,hr⟩:=yl_ok.2 [.agg [.lst 8 n f,.lst 3 m g],.int .i64 a,.int .i64 a,.int .i64 (2*a)] (fun r=>r=ylR y0 a a (2*a)) ⟨h1,h2,by rw [h3]⟩
  subst hr
  rcases h4 with rfl | rfl
  ·exact ⟨_,hd,by rw [show (2*0:Int)=0 from rfl,y0_y0]; exact hk⟩
  ·exact ⟨_,hd,by rw [show (2*1:Int)=2 from rfl,y0_y2]; exact hk⟩
 ·exact hk.elim
theorem ca0_ok:ca0C.Ok Try.prog:=by
 refine ⟨by kernel_rfl,fun x k hk=>?_⟩
 simp only [ca0C] at hk
 split at hk
 ·rename_i n f m g a x y
  obtain ⟨h1,h2,⟨h3,rfl,rfl,h4,h5⟩,hk⟩:=hk
  obtain ⟨r,hd,hr⟩:=ca_ok.2 [.agg [.lst 8 n f,.lst 3 m g],.int .i64 0,.lst 1 2 y] (fun r=>r=.tup [.dec (caP y0 0 ⟨2,tn0⟩) (Classical.propDecidable _),i6 (caE y0 0 ⟨2,tn0⟩)]) ⟨h1,h2,tn0,fun i hi=>by
   match i,hi with
   | 0,_=>exact h4
   | 1,_=>exact h5,by rw [h3]⟩
  have e:r.den=(SV.tup [.bool true,i6 0]).den:=by
   rw [hr,y0_ca.2]
   simp only [SV.den,SV.denL]
   congr 2
   congr 2
   exact @decide_eq_true _ (Classical.propDecidable _) y0_ca.1
  rw [e] at hd
  exact ⟨_,hd,hk⟩
 ·exact hk.elim
theorem lt0_of {g:FuncId} (h:(ltC g).Ok Try.prog):(lt0C g).Ok Try.prog:=by
 refine ⟨h.1,fun x k hk=>?_⟩
 simp only [lt0C] at hk
 split at hk
 ·rename_i n f m z
  obtain ⟨h1,h2,⟨h3,h4,h5⟩,hk⟩:=hk
  obtain ⟨r,hd,hr⟩:=h.2 [.lst 2 n f,.lst 2 m z] (fun r=>r=.dec (n=m∧eqT n (fun i=>tOf (f i)) fun i=>tOf (z i)) (Classical.propDecidable _)) ⟨h1,h2,h3,rfl⟩
  have e:r.den=(SV.bool true).den:=by
   rw [hr]
   simp only [SV.den]
   congr 2
   exact @decide_eq_true _ (Classical.propDecidable _) ⟨h4,h5⟩
  rw [e] at hd
  exact ⟨_,hd,hk⟩
 ·exact hk.elim
theorem csO_sound:SoundS Try.prog (csO y0):=ctrsF_sound (ctrs_sound (by
 intro x hx
 simp at hx
 rcases hx with rfl | rfl | rfl | rfl | rfl | rfl
 ·exact spn_ok
 ·exact be0_ok
 ·exact yl0_ok
 ·exact ca0_ok
 ·exact lt0_of lt_ok
 ·exact lt0_of lt_ok')) (by
 intro x hx
 simp at hx
 rcases hx with rfl | rfl
 ·exact smp_ok
 ·exact dw0_ok)
theorem awk_true:awkG y0:=by
 rw [awkG_vc]
 have e0:Yd.mk (clOf y0.c.n fun i=>(y0.c.f i).sv) (msOf y0.m.n fun i=>(y0.m.f i).sv)=y0:=rfl
 have t2:∀ {P:Nat→Prop},P 0→P 1→∀ i,i<2→P i:=fun h0 h1 i hi=>by
  match i,hi with
  | 0,_=>exact h0
  | 1,_=>exact h1
 simp only [rI,rE,and_true,true_and,Nat.zero_lt_one,implies_true,e0,and_self,true_or,or_true,not_true,false_implies,forall_const,Bool.false_eq_true,iff_true,iff_self,Bool.true_eq_false]
 refine ⟨rfl,rfl,rfl,rfl,rfl,rfl,rfl,rfl,rfl,rfl,rfl,rfl,⟨rfl,rfl⟩,rfl,rfl,⟨by omega,?_⟩,rfl,rfl,by omega,?_⟩
 ·exact t2 ⟨rfl,rfl⟩ ⟨rfl,rfl⟩
 ·exact t2 ⟨rfl,rfl⟩ ⟨rfl,rfl⟩
theorem aw_does:Does Try.prog 10 false [] (.sc (.bool true)):=funH_does csO_sound nilS_x nilS_ic mixed awk_true
end Go.Proofs.Ytfiaadlgfjokjaa
