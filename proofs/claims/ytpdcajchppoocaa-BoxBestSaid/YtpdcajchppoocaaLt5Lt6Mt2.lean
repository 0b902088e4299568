import Derived.Test.YtpdcajchppoocaaC2
import Derived.Test.YtpdcajchppoocaaC3
set_option linter.unusedVariables false
set_option linter.unusedSimpArgs false
namespace Go.Lg
open Go.RowKit
variable {P:Program}
section
variable (ops:Array Oper) (St:Nat→List AV→Store→AV→Store→Prop) (cf:Nat→Nat→Bool)
def ampB (listed:Array Bool) (y:Nat):Bool:=(List.range ops.size).all fun z=>Nat.beq z y || listed.getD z true || !cf y z || (opAt ops z).after.toList.any fun e=>Region.binds .any e && Nat.beq e.on y
def TreeT (K:List AV→Store→Prop):Nat→Array Bool→List AV→Store→Prop
 | 0,listed,A,ρ=>Region.ready .any ops listed=[]∧K A ρ
 | f+1,listed,A,ρ=>(Region.ready .any ops listed=[]∧K A ρ) ∨
  (∃ y,y ∈ Region.ready .any ops listed∧ampB ops cf listed y=true∧∃ v ρ',St y A ρ v ρ'∧TreeT K f (listed.setIfInBounds y true) (putA A (opAt ops y).dst v) ρ') ∨
  (Region.ready .any ops listed≠[]∧∀ i ∈ Region.ready .any ops listed,∃ v ρ',St i A ρ v ρ'∧TreeT K f (listed.setIfInBounds i true) (putA A (opAt ops i).dst v) ρ')
variable {ops St cf}
theorem getD_set' (l:Array Bool) (i j:Nat) (x d:Bool) (h:i≠j):(l.setIfInBounds i x).getD j d=l.getD j d:=getD_set_ne _ _ _ _ _ h
theorem ready_set {listed:Array Bool} {i y:Nat} (h:i ∈ Region.ready .any ops listed) (hne:i≠y):i ∈ Region.ready .any ops (listed.setIfInBounds y true):=by
 obtain ⟨h1,h2,h3⟩:=mem_ready.1 h
 refine mem_ready.2 ⟨h1,by rw [getD_set' _ _ _ _ _ (fun e=>hne e.symm)]; exact h2,fun e he hb=>?_⟩
 have:=h3 e he hb
 by_cases e2:y=e.on
 ·subst e2
  have hlt:e.on<listed.size:=by
   apply Classical.byContradiction
   intro hn
   simp [Array.getD,hn] at this
  simp [Array.getD,hlt]
 ·rw [getD_set' _ _ _ _ _ e2]; exact this
theorem amp_set {listed:Array Bool} {i y:Nat} (h:ampB ops cf listed y=true) (hsz:listed.size=ops.size):ampB ops cf (listed.setIfInBounds i true) y=true:=by
 unfold ampB at h ⊢
 rw [List.all_eq_true] at h ⊢
 intro z hz
 have:=h z hz
 have hz:z<ops.size:=by simpa using hz
 simp only [Bool.or_eq_true] at this ⊢
 rcases this with ((h1 | h1) | h1) | h1
 ·exact .inl (.inl (.inl h1))
 ·refine .inl (.inl (.inr ?_))
  by_cases e:i=z
  ·subst e; simp [Array.getD,hsz,hz]
  ·rw [getD_set' _ _ _ _ _ e]; exact h1
 ·exact .inl (.inr h1)
 ·exact .inr h1
theorem amp_ready {listed:Array Bool} {i y:Nat} (h:ampB ops cf listed y=true) (hi:i ∈ Region.ready .any ops listed) (hy:y ∈ Region.ready .any ops listed) (hne:i≠y):cf y i=false:=by
 obtain ⟨h1,h2,h3⟩:=mem_ready.1 hi
 obtain ⟨y1,y2,_⟩:=mem_ready.1 hy
 unfold ampB at h
 rw [List.all_eq_true] at h
 have:=h i (by simpa using h1)
 simp only [Bool.or_eq_true,Bool.not_eq_true',List.any_eq_true,Bool.and_eq_true] at this
 rcases this with ((h4 | h4) | h4) | ⟨e,he,hb,hy'⟩
 ·exact absurd (Nat.eq_of_beq_eq_true h4) hne
 ·rw [h2] at h4; cases h4
 ·exact h4
 ·have hon:e.on=y:=Nat.eq_of_beq_eq_true hy'
  have h5:=h3 e he hb
  rw [hon] at h5
  have hlt:y<listed.size:=by
   apply Classical.byContradiction
   intro hn
   simp [Array.getD,hn] at h5
  simp [Array.getD,hlt] at h5 y2
  rw [h5] at y2; cases y2
theorem TreeT.step {K:List AV→Store→Prop}
  (hsw:∀ y i,y≠i→cf y i=false→∀ {A ρ vy ρ1 vi ρ2},St y A ρ vy ρ1→St i (putA A (opAt ops y).dst vy) ρ1 vi ρ2 →
   ∃ ρ1',St i A ρ vi ρ1'∧St y (putA A (opAt ops i).dst vi) ρ1' vy ρ2∧putA (putA A (opAt ops y).dst vy) (opAt ops i).dst vi=putA (putA A (opAt ops i).dst vi) (opAt ops y).dst vy) :
  ∀ (f:Nat) {listed:Array Bool} {A:List AV} {ρ:Store},listed.size=ops.size→TreeT ops St cf K (f+1) listed A ρ→∀ {i:Nat},i ∈ Region.ready .any ops listed →
   ∃ v ρ',St i A ρ v ρ'∧TreeT ops St cf K f (listed.setIfInBounds i true) (putA A (opAt ops i).dst v) ρ':=by
 intro f
 induction f with
 | zero =>
  intro listed A ρ hsz h i hi
  rcases h with ⟨h,_⟩ | ⟨y,hy,ha,v,ρ',h1,h2,h3⟩ | ⟨_,h⟩
  ·rw [h] at hi; cases hi
  ·by_cases e:i=y
   ·subst e; exact ⟨v,ρ',h1,h2,h3⟩
   ·have:=ready_set hi e
    rw [h2] at this; cases this
  ·exact h i hi
 | succ f ih =>
  intro listed A ρ hsz h i hi
  rcases h with ⟨h,_⟩ | ⟨y,hy,ha,v,ρ',h1,h2⟩ | ⟨_,h⟩
  ·rw [h] at hi; cases hi
  ·by_cases e:i=y
   ·subst e; exact ⟨v,ρ',h1,h2⟩
   ·obtain ⟨vi,ρ2,h3,h4⟩:=ih (by simpa using hsz) h2 (ready_set hi e)
    obtain ⟨ρ1',h5,h6,h7⟩:=hsw y i (fun h=>e h.symm) (amp_ready ha hi hy e) h1 h3
    refine ⟨vi,ρ1',h5,.inr (.inl ⟨y,ready_set hy (fun h=>e h.symm),amp_set ha hsz,v,ρ2,h6,?_⟩)⟩
    rw [← h7,set_comm' _ _ _ _ _ e]; exact h4
  ·exact h i hi
end
def pickA (ops:Array Oper) (cf:Nat→Nat→Bool) (listed:Array Bool):List Nat→Option Nat
 | []=>none
 | y :: l=>match ampB ops cf listed y with
  | true=>some y
  | false=>pickA ops cf listed l
theorem pickA_spec {ops:Array Oper} {cf:Nat→Nat→Bool} {listed:Array Bool}:∀ {l:List Nat} {y:Nat},pickA ops cf listed l=some y→y ∈ l∧ampB ops cf listed y=true
 | [],y,h=>by cases h
 | x :: l,y,h=>by
  unfold pickA at h
  split at h
  ·rename_i hx; cases h; exact ⟨by simp,hx⟩
  ·obtain ⟨h1,h2⟩:=pickA_spec h
   exact ⟨List.mem_cons_of_mem _ h1,h2⟩
def rowN (b0:Nat) (D:DS) (ops:Array Oper) (i:Nat) (A:List AV):Prop:=match D.lookup i with
 | none=>True
 | some r=>∃ p q,memOp (opAt ops i)=some p∧ptrRow (aev A p)=some q∧(r<b0→q=r)∧(b0≤r→b0≤q)
def stepN (P:Program) (W:WS) (ops:Array Oper) (b0:Nat) (D:DS) (i:Nat) (A:List AV) (ρ:Store) (v:AV) (ρ':Store):Prop:=stepV P W ops (opAt ops i) A ρ v ρ'∧rowN b0 D ops i A
def apartN (b0:Nat) (D:DS) (j i:Nat):Bool:=match D.lookup j,D.lookup i with
 | some a,some c=>(Nat.blt a b0 && Nat.blt c b0 && !Nat.beq a c) || (Nat.blt a b0 && Nat.ble b0 c) || (Nat.ble b0 a && Nat.blt c b0)
 | _,_=>false
def pastA (D:DS) (ops:Array Oper) (j i:Nat):Bool:=match D.lookup j with
 | some _=>(isAlloc (opAt ops i)).isSome
 | none=>false
def conflictN (W:WS) (ops:Array Oper) (b0:Nat) (D:DS) (j i:Nat):Bool:=conflictS ops (opAt ops j) (opAt ops i) || (conflictM W (opAt ops j) (opAt ops i) && !apartN b0 D j i && !pastA D ops j i)
theorem rowN_put {b0:Nat} {D:DS} {ops:Array Oper} {i:Nat} {A:List AV} {d:Option Tmp} {v:AV} (h:∀ t,d=some t→t ∉ rds ops (opAt ops i)):rowN b0 D ops i (putA A d v)↔rowN b0 D ops i A:=by
 unfold rowN
 split
 ·exact Iff.rfl
 ·rename_i r _
  have key:∀ p,memOp (opAt ops i)=some p→aev (putA A d v) p=aev A p:=by
   intro p hp
   cases p with
   | tmp t=>exact putA_get (fun e=>h t e (memOp_rds hp))
   | _=>rfl
  constructor
  ·rintro ⟨p,q,h1,h2,h3⟩; exact ⟨p,q,h1,by rw [← key p h1]; exact h2,h3⟩
  ·rintro ⟨p,q,h1,h2,h3⟩; exact ⟨p,q,h1,by rw [key p h1]; exact h2,h3⟩
theorem isAlloc_put {W:WS} {ops:Array Oper} {o:Oper} {d t z} (ha:isAlloc o=some (d,t)) {A:List AV} {ρ:Store} (hz:zeroA P t=some z) (h1:z.ok=true) (h2:z.cells.length=P.cellsOf t) :
  stepV P W ops o A ρ (.ptr ρ.length 0 0) (ρ ++ [some ⟨P.cellsOf t,[z],none⟩]):=by
 obtain ⟨e1,e2,e3⟩:=isAlloc_spec ha
 have hn:isW W o=none:=by unfold isW fnCall litDst; rw [e1]
 unfold stepV
 simp only [e2]
 refine .inl ⟨hn,?_⟩
 unfold aop
 simp only [e1]
 exact ⟨z,hz,h1,h2,rfl,rfl⟩
theorem swapN {W:WS} {ops:Array Oper} {b0:Nat} {D:DS} {x y:Nat} (hc:conflictN W ops b0 D x y=false) {A:List AV} {ρ ρ1 ρ2:Store} {vx vy:AV} (hx:stepN P W ops b0 D x A ρ vx ρ1) (hy:stepN P W ops b0 D y (putA A (opAt ops x).dst vx) ρ1 vy ρ2) :
  ∃ ρ1',stepN P W ops b0 D y A ρ vy ρ1'∧stepN P W ops b0 D x (putA A (opAt ops y).dst vy) ρ1' vx ρ2∧putA (putA A (opAt ops x).dst vx) (opAt ops y).dst vy=putA (putA A (opAt ops y).dst vy) (opAt ops x).dst vx:=by
 unfold conflictN at hc
 simp only [Bool.or_eq_false_iff] at hc
 obtain ⟨hS,hM⟩:=hc
 obtain ⟨s1,s2,s3⟩:=conflictS_slots hS
 have ryA:rowN b0 D ops y A:=(rowN_put s1).1 hy.2
 have rxA:rowN b0 D ops x (putA A (opAt ops y).dst vy):=(rowN_put s2).2 hx.2
 by_cases hm:conflictM W (opAt ops x) (opAt ops y)=false
 ·obtain ⟨ρ1',h1,h2,h3⟩:=swapI (P:=P) (W:=W) (D:=[]) (x:=x) (y:=y) (by unfold conflictI; rw [hS,hm]; rfl) ⟨hx.1,trivial⟩ ⟨hy.1,trivial⟩
  exact ⟨ρ1',⟨h1.1,ryA⟩,⟨h2.1,rxA⟩,h3⟩
 ·have hm:conflictM W (opAt ops x) (opAt ops y)=true:=by simpa using hm
  rw [hm] at hM
  simp only [Bool.true_and,Bool.and_eq_false_iff,Bool.not_eq_false'] at hM
  rcases hM with hM | hM
  ·unfold apartN at hM
   split at hM
   ·rename_i a c ha hcl
    have r1:=hx.2
    have r2:=hy.2
    have ryA':=ryA
    unfold rowN at r1 r2 ryA'
    simp only [ha] at r1
    simp only [hcl] at r2 ryA'
    obtain ⟨p1,q1,m1,t1,u1,w1⟩:=r1
    obtain ⟨p2,q2,m2,t2,u2,w2⟩:=r2
    simp only [Bool.or_eq_true,Bool.and_eq_true,Nat.blt_eq,Nat.ble_eq,Bool.not_eq_true'] at hM
    have hne:q1≠q2:=by
     rcases hM with (⟨⟨h1,h2⟩,h3⟩ | ⟨h1,h2⟩) | ⟨h1,h2⟩
     ·rw [u1 h1,u2 h2]; intro e; rw [e] at h3; simp at h3
     ·have:=u1 h1; have:=w2 h2; omega
     ·have:=w1 h1; have:=u2 h2; omega
    have hxy:y≠x:=by
     intro e; subst e
     rw [ha] at hcl; cases hcl
     rcases hM with (⟨⟨h1,h2⟩,h3⟩ | ⟨h1,h2⟩) | ⟨h1,h2⟩
     ·simp at h3
     ·omega
     ·omega
    have l1:([(x,q1),(y,q2)]:DS).lookup x=some q1:=by simp [List.lookup]
    have l2:([(x,q1),(y,q2)]:DS).lookup y=some q2:=by
     have:(y == x)=false:=by simpa using hxy
     simp [List.lookup,this]
    obtain ⟨ρ1',h1,h2,h3⟩:=swapI (P:=P) (W:=W) (D:=[(x,q1),(y,q2)]) (x:=x) (y:=y) (A:=A) (ρ:=ρ) (ρ1:=ρ1) (ρ2:=ρ2) (vx:=vx) (vy:=vy)
     (by
      have:Nat.beq q1 q2=false:=by
       cases hb:Nat.beq q1 q2 with
       | false=>rfl
       | true=>exact absurd (Nat.eq_of_beq_eq_true hb) hne
      unfold conflictI apartD; rw [hS,l1,l2]; simp [this])
     ⟨hx.1,by unfold rowOK; simp only [l1]; exact ⟨p1,m1,t1⟩⟩ ⟨hy.1,by unfold rowOK; simp only [l2]; exact ⟨p2,m2,t2⟩⟩
    exact ⟨ρ1',⟨h1.1,ryA⟩,⟨h2.1,rxA⟩,h3⟩
   ·cases hM
  ·unfold pastA at hM
   split at hM
   ·rename_i r hr
    obtain ⟨⟨d,t⟩,hal⟩:=Option.isSome_iff_exists.1 hM
    have r1:=hx.2
    unfold rowN at r1
    simp only [hr] at r1
    obtain ⟨p,q,m1,t1,_,_⟩:=r1
    obtain ⟨R,R',k1,k2,rfl⟩:=(mem_step m1 t1).1 hx.1
    have hql:=(List.getElem?_eq_some_iff.1 k1).1
    obtain ⟨z,hz,hzo,hzl,rfl,rfl⟩:=isAlloc_step hal hy.1
    have hyA:stepV P W ops (opAt ops y) A ρ (.ptr ρ.length 0 0) (ρ ++ [some ⟨P.cellsOf t,[z],none⟩]):=isAlloc_put hal hz hzo hzl
    have e:(ρ.set q (some R')).length=ρ.length:=by simp
    rw [e]
    refine ⟨_,⟨hyA,ryA⟩,⟨?_,by rw [e] at rxA; exact rxA⟩,putA_comm (by rw [e] at *; exact s3)⟩
    refine stepV_congr (fun t ht=>(putA_get (fun e=>s2 t e ht)).symm) ((mem_step m1 t1).2 ⟨R,R',?_,k2,?_⟩)
    ·rw [List.getElem?_append_left hql]; exact k1
    ·rw [List.set_append_left _ _ hql]
   ·cases hM
theorem TreeT.soundN {W:WS} {ops:Array Oper} {b0:Nat} {D:DS} {C:Ctx} {K:List AV→Store→Prop} {Q:Exit→Act→World→Prop} (hQ:∀ a w A ρ,SRel C a w A ρ→K A ρ→Q .normal a w) :
  ∀ (fuel:Nat) (listed:Array Bool) (A:List AV) (ρ:Store) (a:Act) (w:World),SRel C a w A ρ→listed.size=ops.size→TreeT ops (stepN P W ops b0 D) (conflictN W ops b0 D) K fuel listed A ρ→∀ nn,wpAnyIn (fz C.rd) nn P .any ops Q fuel listed a w
 | 0,listed,A,ρ,a,w,hs,hsz,h=>fun nn=>⟨h.1,hQ a w A ρ hs h.2⟩
 | fuel+1,listed,A,ρ,a,w,hs,hsz,h=>fun nn=>by
  refine ⟨fun hr=>?_,fun i hi=>?_⟩
  ·rcases h with ⟨_,h⟩ | ⟨y,hy,_⟩ | ⟨hne,_⟩
   ·exact hQ a w A ρ hs h
   ·rw [hr] at hy; cases hy
   ·exact absurd hr hne
  ·have sw:∀ y i,y≠i→conflictN W ops b0 D y i=false→∀ {A:List AV} {ρ:Store} {vy:AV} {ρ1:Store} {vi:AV} {ρ2:Store},stepN P W ops b0 D y A ρ vy ρ1→stepN P W ops b0 D i (putA A (opAt ops y).dst vy) ρ1 vi ρ2 →
     ∃ ρ1',stepN P W ops b0 D i A ρ vi ρ1'∧stepN P W ops b0 D y (putA A (opAt ops i).dst vi) ρ1' vy ρ2∧putA (putA A (opAt ops y).dst vy) (opAt ops i).dst vi=putA (putA A (opAt ops i).dst vi) (opAt ops y).dst vy :=
    fun y i _ hc {A ρ vy ρ1 vi ρ2} hy hi=>swapN (x:=y) (y:=i) hc hy hi
   obtain ⟨v,ρ',h1,h2⟩:=TreeT.step (St:=stepN P W ops b0 D) (cf:=conflictN W ops b0 D) sw fuel hsz h hi
   exact stepV_wp (opAt_get (mem_ready.1 hi).1) hs h1.1 (fun a' w' hs'=>TreeT.soundN hQ fuel _ _ _ a' w' hs' (by simpa using hsz) h2 nn) nn
end Go.Lg

namespace Go.Lg
open Go.RowKit
variable {P:Program}

theorem wpIn_mono2 {F:Fence} {n:Nat} {o:Oper} {a:Act} {w:World} {K K':Act→World→Prop} {Q Q':Exit→Act→World→Prop} (h:∀ a w,K a w→K' a w) (hp:∀ e a w,e≠.normal→¬ Q e a w)
  (hh:o.wpIn F n P a w K Q):o.wpIn F n P a w K' Q':=by
 have hl:¬ LetsOut Q:=fun ⟨a,w,h⟩=>hp _ a w (by simp) h
 unfold Oper.wpIn at *
 refine ⟨hh.1,?_⟩
 have hh:=hh.2
 generalize (o.semAt F.round a.eval).run P w=r at *
 cases r with
 | ok x w' =>
  cases x <;> simp only [Oper.uponIn] at hh ⊢ <;>
   first
    | exact h _ _ hh
    | exact ⟨hh.1,CallsIn.mono hh.2 (fun e w'' he=>by cases e <;> first | exact h _ _ he | exact absurd he (hp _ _ _ (by simp)) | exact absurd he hl)⟩
    | exact ⟨hh.1,RowsIn.mono hh.2 (fun _ _ he=>h _ _ he)⟩
    | exact ⟨hh.1,RoundIn.mono hh.2 (fun e w'' he=>by cases e <;> first | exact h _ _ he | exact absurd he (hp _ _ _ (by simp)) | exact absurd he hl)⟩
 | halt x w'=>cases x <;> simp only [Oper.uponIn] at hh ⊢ <;> first | exact absurd hh (hp _ _ _ (by simp)) | exact hh
def feedB (ops:Array Oper):Bool :=
 (List.range (ops.size - 1)).all (fun i=>(List.range ops.size).any fun j=>decide (i<j) && (opAt ops j).after.toList.any fun e=>Region.binds .any e && e.on == i) &&
 (List.range ops.size).all fun j=>(opAt ops j).after.toList.all fun e=>!Region.binds .any e || decide (e.on<j)
theorem feedB_spec {ops:Array Oper} (h:feedB ops=true):(∀ i,i<ops.size - 1→∃ j,j<ops.size∧i<j∧∃ e ∈ (opAt ops j).after.toList,Region.binds .any e=true∧e.on=i) ∧
  ∀ j,j<ops.size→∀ e ∈ (opAt ops j).after.toList,Region.binds .any e=true→e.on<j:=by
 unfold feedB at h
 simp only [Bool.and_eq_true,List.all_eq_true,List.any_eq_true,List.mem_range,decide_eq_true_eq,beq_iff_eq,Bool.or_eq_true,Bool.not_eq_true'] at h
 refine ⟨fun i hi=>?_,fun j hj e he hb=>?_⟩
 ·obtain ⟨j,h1,h2,e,h3,h4,h5⟩:=h.1 i hi
  exact ⟨j,h1,h2,e,h3,h4,h5⟩
 ·rcases h.2 j hj e he with h | h
  ·rw [h] at hb; cases hb
  ·exact h
theorem opAt_pop {ops:Array Oper} {i:Nat} (hi:i<ops.size - 1):opAt ops.pop i=opAt ops i:=by
 have:i<ops.size:=by omega
 simp [opAt,Array.getD,hi,this]
theorem pop_at {ops:Array Oper} {i:Nat} (hi:i<ops.size - 1):ops.pop[i]?=ops[i]?:=by
 have:i<ops.size:=by omega
 rw [Array.getElem?_pop,if_pos hi]
theorem getD_pop {l:Array Bool} {i:Nat} {d:Bool} (hi:i<l.size - 1):l.pop.getD i d=l.getD i d:=by
 have:i<l.size:=by omega
 simp [Array.getD,hi,this]
theorem pop_set {l:Array Bool} {i:Nat} {b:Bool} (hi:i<l.size - 1):(l.setIfInBounds i b).pop=l.pop.setIfInBounds i b:=by
 apply Array.ext
 ·simp
 ·intro j h1 h2
  simp at h1
  have hj:j<l.size:=by omega
  have e1:(l.setIfInBounds i b).pop[j]=(l.setIfInBounds i b)[j]'(by simpa using hj):=Array.getElem_pop _
  rw [e1]
  by_cases e:i=j
  ·subst e; simp
  ·have h3:j<l.pop.size:=by simpa using h1
   rw [Array.getElem_setIfInBounds_ne (by simpa using hj) e,Array.getElem_setIfInBounds_ne (by simpa using h3) e,Array.getElem_pop]
theorem yielded_pop {ops:Array Oper} {tmps:Array Value} {j:Nat} (hj:j<ops.size - 1):yielded ops.pop tmps j=yielded ops tmps j:=by
 unfold yielded; rw [pop_at hj]
theorem any_last {F:Fence} {n:Nat} {ops:Array Oper} {L:Act→World→Prop} {Q Qn:Exit→Act→World→Prop} (hz:0<ops.size) (hfeed:feedB ops=true) (hgd:∀ i,i<ops.size - 1→∀ j want,(opAt ops i).guard=some (j,want)→j<ops.size - 1)
  (hQn:∀ e a w,e≠.normal→¬ Qn e a w) (hL:∀ a w,Qn .normal a w→wpOpIn F n P ops Q (ops.size - 1) (fun a w=>Q .normal a w) a w) :
  ∀ (fuel:Nat) (listed:Array Bool) (a:Act) (w:World),listed.size=ops.size→listed.getD (ops.size - 1) true=false→Closed ops listed→wpAnyIn F n P .any ops.pop Qn fuel listed.pop a w→wpAnyIn F n P .any ops Q (fuel+1) listed a w:=by
 obtain ⟨f1,f2⟩:=feedB_spec hfeed
 intro fuel
 induction fuel with
 | zero =>
  intro listed a w hsz hl hcl h
  refine ⟨fun hr=>?_,fun i hi=>?_⟩
  ·exact absurd hr (ready_ne hz f2 hsz hl)
  ·obtain ⟨h1,h2,h3⟩:=mem_ready.1 hi
   by_cases him:i=ops.size - 1
   ·subst him
    exact last_op hz f1 hsz hcl h3 (hL a w h.2)
   ·exfalso
    have:i ∈ Region.ready .any ops.pop listed.pop:=mem_ready.2 (ready_pop hsz h1 him h2 h3 f2)
    rw [h.1] at this; cases this
 | succ fuel ih =>
  intro listed a w hsz hl hcl h
  refine ⟨fun hr=>?_,fun i hi=>?_⟩
  ·exact absurd hr (ready_ne hz f2 hsz hl)
  ·obtain ⟨h1,h2,h3⟩:=mem_ready.1 hi
   by_cases him:i=ops.size - 1
   ·subst him
    have hall:=all_listed hz f1 hsz hcl h3
    have hr:Region.ready .any ops.pop listed.pop=[]:=by
     rw [List.eq_nil_iff_forall_not_mem]
     intro j hj
     obtain ⟨g1,g2,_⟩:=mem_ready.1 hj
     have g1:j<ops.size - 1:=by simpa using g1
     rw [getD_pop (by omega),getD_d hsz (by omega) (d':=false),hall j g1] at g2
     cases g2
    exact last_op hz f1 hsz hcl h3 (hL a w (h.1 hr))
   ·have hlt:i<ops.size - 1:=by omega
    have hmem:i ∈ Region.ready .any ops.pop listed.pop:=mem_ready.2 (ready_pop hsz h1 him h2 h3 f2)
    have h4:=h.2 i hmem
    have hk:∀ a w,wpAnyIn F n P .any ops.pop Qn fuel (listed.pop.setIfInBounds i true) a w→wpAnyIn F n P .any ops Q (fuel+1) (listed.setIfInBounds i true) a w:=fun a w hh=>by
     refine ih _ a w (by simpa using hsz) ?_ ?_ (by rw [pop_set (by omega)]; exact hh)
     ·rw [getD_set_ne _ _ _ _ _ (by omega)]; exact hl
     ·intro k hk hkl e he hb
      have mono:listed.getD e.on false=true→(listed.setIfInBounds i true).getD e.on false=true:=fun h=>by
       by_cases e2:i=e.on
       ·have hin:e.on<listed.size:=by rw [hsz]; omega
        rw [e2]; simp [Array.getD,hin]
       ·rw [getD_set_ne _ _ _ _ _ e2]; exact h
      by_cases e2:k=i
      ·subst e2; exact mono (h3 e he hb)
      ·refine mono (hcl k hk ?_ e he hb)
       rwa [getD_set_ne _ _ _ _ _ (fun h=>e2 h.symm)] at hkl
    unfold wpOpIn at h4 ⊢
    rw [pop_at hlt] at h4
    rw [opAt_get h1] at h4 ⊢
    simp only at h4 ⊢
    have hw:Region.wanted (opAt ops i) (yielded ops.pop a.tmps)=Region.wanted (opAt ops i) (yielded ops a.tmps):=by
     unfold Region.wanted
     split
     ·rfl
     ·rename_i j want hg
      rw [yielded_pop (hgd i hlt j want hg)]
    rw [hw] at h4
    split
    ·rename_i hc
     rw [if_pos hc] at h4
     exact wpIn_mono2 hk hQn h4
    ·rename_i hc
     rw [if_neg hc] at h4
     exact ⟨h4.1,hk _ _ h4.2⟩
where
 getD_d {l:Array Bool} {ops:Array Oper} {i:Nat} {d d':Bool} (hsz:l.size=ops.size) (hi:i<ops.size):l.getD i d=l.getD i d':=by
  have:i<l.size:=by omega
  simp [Array.getD,this]
 ready_ne {ops:Array Oper} {listed:Array Bool} (hz:0<ops.size) (f2:∀ j,j<ops.size→∀ e ∈ (opAt ops j).after.toList,Region.binds .any e=true→e.on<j) (hsz:listed.size=ops.size) (hl:listed.getD (ops.size - 1) true=false):Region.ready .any ops listed≠[]:=by
  have key:∀ k,k<ops.size→listed.getD k true=false→∃ i,i ∈ Region.ready .any ops listed:=by
   intro k
   induction k using Nat.strongRecOn with
   | _ k ih =>
    intro hk hkl
    by_cases hex:∃ e ∈ (opAt ops k).after.toList,Region.binds .any e=true∧listed.getD e.on false=false
    ·obtain ⟨e,he,hb,hf⟩:=hex
     have:=f2 k hk e he hb
     exact ih e.on this (by omega) (by rw [any_last.getD_d hsz (by omega) (d':=false)]; exact hf)
    ·refine ⟨k,mem_ready.2 ⟨hk,hkl,fun e he hb=>?_⟩⟩
     cases hh:listed.getD e.on false with
     | true=>rfl
     | false=>exact absurd ⟨e,he,hb,hh⟩ hex
  obtain ⟨i,hi⟩:=key _ (by omega) hl
  intro h; rw [h] at hi; cases hi
 all_listed {ops:Array Oper} {listed:Array Bool} (hz:0<ops.size) (f1:∀ i,i<ops.size - 1→∃ j,j<ops.size∧i<j∧∃ e ∈ (opAt ops j).after.toList,Region.binds .any e=true∧e.on=i) (hsz:listed.size=ops.size) (hcl:Closed ops listed)
   (h3:∀ e ∈ (opAt ops (ops.size - 1)).after.toList,Region.binds .any e=true→listed.getD e.on false=true):∀ i,i<ops.size - 1→listed.getD i false=true:=by
  have key:∀ d i,i<ops.size - 1→ops.size - 1 - i≤d→listed.getD i false=true:=by
   intro d
   induction d with
   | zero=>intro i hi hd; omega
   | succ d ih =>
    intro i hi hd
    obtain ⟨j,hj,hij,e,he,hb,rfl⟩:=f1 i hi
    by_cases hjm:j=ops.size - 1
    ·subst hjm; exact h3 e he hb
    ·have:=ih j (by omega) (by omega)
     exact hcl j hj (by rw [any_last.getD_d hsz hj (d':=false)]; exact this) e he hb
  exact fun i hi=>key _ i hi (Nat.le_refl _)
 last_op {F:Fence} {n:Nat} {ops:Array Oper} {listed:Array Bool} {Q:Exit→Act→World→Prop} {fuel:Nat} {a:Act} {w:World} (hz:0<ops.size) (f1:∀ i,i<ops.size - 1→∃ j,j<ops.size∧i<j∧∃ e ∈ (opAt ops j).after.toList,Region.binds .any e=true∧e.on=i) (hsz:listed.size=ops.size) (hcl:Closed ops listed)
   (h3:∀ e ∈ (opAt ops (ops.size - 1)).after.toList,Region.binds .any e=true→listed.getD e.on false=true) (h:wpOpIn F n P ops Q (ops.size - 1) (fun a w=>Q .normal a w) a w) :
   wpOpIn F n P ops Q (ops.size - 1) (wpAnyIn F n P .any ops Q fuel (listed.setIfInBounds (ops.size - 1) true)) a w:=by
  have hall:=any_last.all_listed hz f1 hsz hcl h3
  refine wpOpIn_mono (fun a w hq=>?_) h
  have hr:Region.ready .any ops (listed.setIfInBounds (ops.size - 1) true)=[]:=by
   rw [List.eq_nil_iff_forall_not_mem]
   intro j hj
   obtain ⟨g1,g2,_⟩:=mem_ready.1 hj
   by_cases e:ops.size - 1=j
   ·subst e
    have:ops.size - 1<listed.size:=by omega
    simp [Array.getD,this] at g2
   ·rw [getD_set_ne _ _ _ _ _ e,any_last.getD_d hsz g1 (d':=false),hall j (by omega)] at g2
    cases g2
  cases fuel with
  | zero=>exact ⟨hr,hq⟩
  | succ fuel=>exact ⟨fun _=>hq,fun i hi=>by rw [hr] at hi; cases hi⟩
 ready_pop {ops:Array Oper} {listed:Array Bool} {i:Nat} (hsz:listed.size=ops.size) (h1:i<ops.size) (him:¬ i=ops.size - 1) (h2:listed.getD i true=false) (h3:∀ e ∈ (opAt ops i).after.toList,Region.binds .any e=true→listed.getD e.on false=true)
   (f2:∀ j,j<ops.size→∀ e ∈ (opAt ops j).after.toList,Region.binds .any e=true→e.on<j):i<ops.pop.size∧listed.pop.getD i true=false∧∀ e ∈ (opAt ops.pop i).after.toList,Region.binds .any e=true→listed.pop.getD e.on false=true:=by
  have hlt:i<ops.size - 1:=by omega
  refine ⟨by simpa using hlt,by rw [getD_pop (by omega)]; exact h2,fun e he hb=>?_⟩
  rw [opAt_pop hlt] at he
  have:=f2 i h1 e he hb
  rw [getD_pop (by omega)]
  exact h3 e he hb
def guardB (ops:Array Oper):Bool:=ops.pop.toList.all fun o=>match o.guard with
 | none=>true
 | some (j,_)=>decide (j<ops.size - 1)
end Go.Lg

namespace Go.Lg
open Go.RowKit
variable {P:Program}
end Go.Lg
