import Derived.Test.YtblomfkinjmjdaaMj
import Derived.Test.YtblomfkinjmjdaaMnMo
set_option linter.unusedVariables false
set_option linter.unusedSimpArgs false
set_option linter.unusedSectionVars false
set_option linter.unusedSectionVars false
namespace Go.Lg
open Go.RowKit
variable {P:Program}

theorem take_append_last {α:Type} {l:List α} {n:Nat} {s:α} (h:l.length=n+1) (hs:l[n]?=some s):l=l.take n ++ [s]:=by
 obtain ⟨hn,rfl⟩:=List.getElem?_eq_some_iff.1 hs
 rw [← List.take_succ_eq_append_getElem hn,List.take_of_length_le (by omega)]

theorem afterE_spec {A:Tr AV} {n:Nat} {st:List LS} {X:RowT} {x st2 A2 X2} (h:afterE A n st X=some (x,st2,A2,X2)) {Q:Exit→List LS→List AV→Store→Prop} {f:List AV} (hQ:Q x st2 f X2.L):A2=A∧X2=X∧afterLoop Q f st X.L:=by
 unfold afterE at h
 split at h <;> simp only [Option.some.injEq,Prod.mk.injEq,reduceCtorEq] at h
 all_goals
  rename_i h1 h2
  obtain ⟨rfl,rfl,rfl,rfl⟩:=h
  simp only [Nat.beq_eq] at h1
  refine ⟨rfl,rfl,_,_,take_append_last h1 h2,hQ⟩
theorem afterE_same {A:Tr AV} {n:Nat} {st:List LS} {X:RowT} {x st2 A2 X2} (h:afterE A n st X=some (x,st2,A2,X2)):A2=A∧X2=X:=by
 have:=afterE_spec h (Q:=fun _ _ _ _=>True) (f:=[]) trivial
 exact ⟨this.1,this.2.1⟩

theorem slotsB_spec {n n0:Nat} {ms:List Nat} {A Ac:Tr AV}:∀ {d i:Nat},slotsB n n0 ms A Ac d i=true→∀ k,i≤k→k<i+d→renA n0 ms 12 (evT n A (.tmp k))=some (evT n Ac (.tmp k))
 | 0,i,h,k,h1,h2=>by omega
 | d+1,i,h,k,h1,h2=>by
  have h:(match renA n0 ms 12 (evT n A (.tmp i)) with
   | some v=>(match eqA 12 v (evT n Ac (.tmp i)) with
    | true=>slotsB n n0 ms A Ac d (Nat.succ i)
    | false=>false)
   | none=>false)=true:=h
  split at h
  ·rename_i v hv
   split at h
   ·rename_i he
    by_cases e:k=i
    ·subst e; rw [hv,eqA_spec he]
    ·exact slotsB_spec h k (by show i+1≤k; omega) (by show k<i+1+d; omega)
   ·cases h
  ·cases h
theorem sameR_spec {n0:Nat} {ms:List Nat} {x y:Option Root} {ρ:Store} (h:sameR n0 ms x y=true):RenR false n0 (mS ms) ρ x y:=by
 unfold sameR at h
 split at h
 ·rename_i R hR
  rw [← eqRt_spec h]
  exact renO_spec hR
 ·cases h
theorem lowsB_spec {n0:Nat} {ms:List Nat} {t tc:Tr (Option Root)} {ρ:Store}:∀ {d r:Nat},lowsB n0 ms t tc d r=true→∀ k,r≤k→k<r+d→RenR false n0 (mS ms) ρ (Tr.get none (path 3 k) t) (Tr.get none (path 3 k) tc)
 | 0,r,h,k,h1,h2=>by omega
 | d+1,r,h,k,h1,h2=>by
  have h:(match sameR n0 ms (Tr.get none (path 3 r) t) (Tr.get none (path 3 r) tc) with
   | true=>lowsB n0 ms t tc d (Nat.succ r)
   | false=>false)=true:=h
  split at h
  ·rename_i he
   by_cases e:k=r
   ·subst e; exact sameR_spec he
   ·exact lowsB_spec h k (by show r+1≤k; omega) (by show k<r+1+d; omega)
  ·cases h
theorem hisB_spec {n0:Nat} {ms:List Nat} {t tc:Tr (Option Root)} {ρ:Store}:∀ {l:List Nat} {k:Nat},hisB n0 ms t tc l k=true→∀ i m,l[i]?=some m→RenR false n0 (mS ms) ρ (Tr.get none (path 3 m) t) (Tr.get none (path 3 (k+i)) tc)
 | [],k,h,i,m,hm=>by simp at hm
 | x :: l,k,h,i,m,hm=>by
  have h:(match sameR n0 ms (Tr.get none (path 3 x) t) (Tr.get none (path 3 k) tc) with
   | true=>hisB n0 ms t tc l (Nat.succ k)
   | false=>false)=true:=h
  split at h
  ·rename_i he
   cases i with
   | zero=>simp at hm; subst hm; exact sameR_spec he
   | succ i =>
    have:=hisB_spec (ρ:=ρ) h i m (by simpa using hm)
    rw [show k+(i+1)=Nat.succ k+i by omega]
    exact this
  ·cases h
theorem rowL_get {X:RowT} {r:Nat} {x:Option Root} (h:X.L[r]?=some x):r<X.n∧x=Tr.get none (path 3 r) X.t:=by
 have hr:r<X.n:=by
  have:=(List.getElem?_eq_some_iff.1 h).1
  rwa [RowT.length] at this
 refine ⟨hr,?_⟩
 simp [RowT.L,hr] at h
 exact h.symm
theorem rowL_at {X:RowT} {r:Nat} (h:r<X.n):X.L[r]?=some (Tr.get none (path 3 r) X.t):=by simp [RowT.L,h]
theorem renL_get {b nr ms ρ}:∀ {A A':List AV},A'.length=A.length→(∀ i,i<A.length→RenV b nr ms ρ (A.getD i .any) (A'.getD i .any))→RenL b nr ms ρ A A'
 | [],[],_,_=>.nil
 | [],_ :: _,h,_=>by simp at h
 | _ :: _,[],h,_=>by simp at h
 | v :: A,v' :: A',hl,h=>.cons (h 0 (by simp)) (renL_get (by simpa using hl) fun i hi=>h (i+1) (by simpa using hi))
theorem evT_get (n:Nat) (A:Tr AV) (i:Nat):evT n A (.tmp i)=(fL n A).getD i .any:=(fL_get n A i).symm
theorem chkT_norm {C:Ctx} {n n0:Nat} {ms:List Nat} {A Ac:Tr AV} {X Xc:RowT} (h:chkT n n0 ms A X Ac Xc=true) (hC:C.n0≤n0):Norm C (fL n A) X.L (fL n Ac) Xc.L:=by
 unfold chkT at h
 simp only [Bool.and_eq_true,Nat.beq_eq,Nat.ble_eq] at h
 obtain ⟨⟨⟨⟨⟨⟨h1,h2⟩,h3⟩,h4⟩,h5⟩,h6⟩,h7⟩:=h
 have h3:n0+ms.length=Xc.n:=h3
 have hw:=withinN_spec h2
 refine ⟨false,n0,mS ms,by simp,hC,by rw [RowT.length]; exact h4,fun m hm=>?_,?_,renL_get (by rw [fL_length,fL_length]) fun i hi=>?_,by rw [RowT.length,← h3]; simp [mS],fun r x y hr hx hy=>?_,fun i y hy=>?_⟩
 ·have:m ∈ ms:=by simpa [mS] using hm
  rw [RowT.length]
  exact hw m this
 ·have:(mS ms).filterMap id=ms:=by simp [mS,List.filterMap_map]
  rw [this]; exact distinctN_spec h1
 ·rw [fL_length] at hi
  have:=slotsB_spec h5 i (Nat.zero_le _) (by omega)
  rw [evT_get,evT_get] at this
  exact (renA_spec this).1
 ·obtain ⟨_,rfl⟩:=rowL_get hx
  obtain ⟨_,rfl⟩:=rowL_get hy
  exact lowsB_spec h6 r (Nat.zero_le _) (by omega)
 ·obtain ⟨hlt,rfl⟩:=rowL_get hy
  have hi:i<ms.length:=by omega
  have hm:ms[i]?=some ms[i]:=List.getElem?_eq_getElem hi
  have hmem:ms[i] ∈ ms:=List.getElem_mem hi
  exact .inl ⟨ms[i],_,mS_get hm,rowL_at (hw _ hmem).2,hisB_spec h7 i _ hm⟩
def wpD (P:Program) (C:Ctx) (ops:Array Oper) (K:List AV→Store→Prop) (A:List AV) (ρ:Store):Prop :=
 ∀ Qx:Exit→Act→World→Prop,(∀ a w A' ρ',SRel C a w A' ρ'→K A' ρ'→Qx .normal a w)→∀ a w,SRel C a w A ρ→∀ nn,wpAnyIn (fz C.rd) nn P .any ops Qx ops.size (Array.replicate ops.size false) a w
theorem wpA_of_D {C:Ctx} {Q:Exit→List AV→Store→Prop} {A:List AV} {ρ:Store} {id:Nat} {ops:Array Oper} (hm:P.follows .mixedOrders=true) (h:wpD P C ops (Q .normal) A ρ):wpA P C (.region id ops true) Q A ρ :=
 fun a w hs nn=>wpIn_region_any hm (h _ (fun a w A' ρ' hs hk=>⟨A',ρ',hs,hk⟩) a _ hs.drawn nn)
theorem wpD_drawJ {W:WS} {C:Ctx} {K:List AV→Store→Prop} {A:List AV} {ρ:Store} {ops:Array Oper} {D:DS} {f:Nat} {ord:List Nat} (hB:drawOKJ W ops D f ord=true) (hl:lowOK (befB ops) ops.size=true)
  (h:RunI P W ops D K ord A ρ):wpD P C ops K A ρ:=by
 intro Qx hQ a w hs nn
 have hJ:=drawJ hB
 have hrem:ordL ord (Array.replicate ops.size false)=ord:=List.filter_eq_self.2 (fun i hi=>by
  have:i<ops.size:=(hJ.mem i).1 hi
  simp [Array.getD,this])
 refine any_soundJ (P:=P) (K:=K) hJ (lowOK_spec hl) (fun a w A ρ hs hq=>hQ a w A ρ hs hq) ops.size (Array.replicate ops.size false) a _ (.inl ⟨A,ρ,hs,?_⟩) ?_ (by simp) ?_ nn
 ·rw [hrem]; exact h
 ·rw [hrem]; exact hJ.len.symm
 ·intro i hi hl
  simp [Array.getD,hi] at hl
theorem wpD_treeN {W:WS} {C:Ctx} {Q:List AV→Store→Prop} {A:List AV} {ρ:Store} {ops:Array Oper} {b0:Nat} {D:DS} {K:List AV→Store→Prop}
  (hK:C.n0≤ρ.length→∀ A' ρ',K A' ρ'→∃ A2 ρ2,(∀ a w,SRel C a w A' ρ'→SRel C a w A2 ρ2)∧Q A2 ρ2)
  (h:TreeT ops (stepN P W ops b0 D) (conflictN W ops b0 D) K ops.size (Array.replicate ops.size false) A ρ):wpD P C ops Q A ρ:=by
 intro Qx hQ a w hs nn
 have h0:C.n0≤ρ.length:=by
  obtain ⟨I,β,_,h0,_⟩:=hs
  exact h0.hN
 refine TreeT.soundN (K:=K) (fun a w A ρ hs hq=>?_) ops.size (Array.replicate ops.size false) A ρ a _ hs (by simp) h nn
 obtain ⟨A2,ρ2,h1,h2⟩:=hK h0 A ρ hq
 exact hQ _ _ _ _ (h1 _ _ hs) h2
theorem any_last' {F:Fence} {nn:Nat} {ops:Array Oper} {Q Qn:Exit→Act→World→Prop} (hz:0<ops.size) (hf:feedB ops=true) (hg:guardB ops=true)
  (hQn:∀ e a w,e≠.normal→¬ Qn e a w) (hL:∀ a w,Qn .normal a w→wpOpIn F nn P ops Q (ops.size - 1) (fun a w=>Q .normal a w) a w) {a:Act} {w:World}
  (key:wpAnyIn F nn P .any ops.pop Qn ops.pop.size (Array.replicate ops.pop.size false) a w):wpAnyIn F nn P .any ops Q ops.size (Array.replicate ops.size false) a w:=by
 have e1:ops.size=ops.pop.size+1:=by simp; omega
 have e2:(Array.replicate ops.size false).pop=Array.replicate ops.pop.size false:=by
  apply Array.ext
  ·simp
  ·intro i h1 h2; simp
 have:=any_last (P:=P) (F:=F) (n:=nn) (ops:=ops) (L:=fun _ _=>True) (Q:=Q) (Qn:=Qn) hz hf (fun i hi j want hgi=>by
  unfold guardB at hg
  rw [List.all_eq_true] at hg
  have hi2:i<ops.pop.size:=by simpa using hi
  have:=hg (ops.pop[i]) (Array.mem_def.1 (Array.getElem_mem hi2))
  rw [← opAt_pop hi] at hgi
  have e:opAt ops.pop i=ops.pop[i]:=by simp [opAt,Array.getD,hi]
  rw [e] at hgi
  simp only [hgi,decide_eq_true_eq] at this
  exact this) hQn hL ops.pop.size (Array.replicate ops.size false) a w (by simp) (by simp [Array.getD]; omega) (fun i hi hl=>by simp [Array.getD,hi] at hl) (by rw [e2]; exact key)
 rw [← e1] at this
 exact this
theorem last2B_spec {ops:Array Oper} {o1 o2:Oper} (h:last2B ops=some (o1,o2)):1<ops.size∧feedB ops=true∧guardB ops=true∧feedB ops.pop=true∧guardB ops.pop=true ∧
  ops[ops.size - 1]?=some o2∧ops.pop[ops.pop.size - 1]?=some o1∧o1.guard=none∧o2.guard=none:=by
 unfold last2B at h
 split at h
 ·rename_i hc
  simp only [Bool.and_eq_true,Nat.blt_eq] at hc
  obtain ⟨⟨⟨⟨c1,c2⟩,c3⟩,c4⟩,c5⟩:=hc
  split at h
  ·rename_i q2 q1 h2 h1
   split at h
   ·rename_i g1 g2
    cases h
    refine ⟨c1,c2,c3,c4,c5,h2,?_,g1,g2⟩
    have e:ops.pop.size - 1=ops.size - 2:=by simp; omega
    rw [e,pop_at (by omega)]; exact h1
   ·cases h
  ·cases h
 ·cases h
theorem wpG_last2 {C:Ctx} {L:List LoopV} {st:List LS} {Q:Exit→List LS→List AV→Store→Prop} {A:List AV} {ρ:Store} {id:Nat} {ops:Array Oper} {o1 o2:Oper} (hm:P.follows .mixedOrders=true) (hb:last2B ops=some (o1,o2))
  (h:∀ C',C'.rd=C.rd∧C'.n0=C.n0∧(C.own→C'.own)→wpD P C' ops.pop.pop (fun A1 ρ1=>opX P L o1 (fun v st2 ρ2=>opX P L o2 (fun v2 st3 ρ3=>Q .normal st3 (putA (putA A1 o1.dst v) o2.dst v2) ρ3) (fun _ _ _=>False) st2 (putA A1 o1.dst v) ρ2) (fun _ _ _=>False) st A1 ρ1) A ρ) :
  wpG P C L (.region id ops true) Q st A ρ:=by
 intro a w hs nn
 obtain ⟨c1,f1,g1,f2,g2,e2,e1,n1,n2⟩:=last2B_spec hb
 obtain ⟨C',hC,h1,h2⟩:=hs.drawn.open
 refine wpIn_region_any hm ?_
 let R:Exit→Act→World→Prop:=fun e a' w'=>∃ st' A' ρ',SRelG C L st' a' w' A' ρ'∧Q e st' A' ρ'
 let Qn1:Exit→Act→World→Prop:=fun e a w=>e=.normal∧wpOpIn (fz C.rd) nn P ops R (ops.size - 1) (fun a w=>R .normal a w) a w
 let Qn2:Exit→Act→World→Prop:=fun e a w=>e=.normal∧wpOpIn (fz C.rd) nn P ops.pop Qn1 (ops.pop.size - 1) (fun a w=>Qn1 .normal a w) a w
 refine any_last' (Qn:=Qn1) (by omega) f1 g1 (fun e a w he hq=>he hq.1) (fun a w hq=>hq.2) ?_
 refine any_last' (Qn:=Qn2) (by simp; omega) f2 g2 (fun e a w he hq=>he hq.1) (fun a w hq=>hq.2) ?_
 have:=h C' hC Qn2 ?_ a _ h1 nn
 ·rw [hC.1] at this; exact this
 ·intro a w A1 ρ1 hs1 hk
  refine ⟨rfl,?_⟩
  unfold wpOpIn
  rw [e1]
  simp only
  rw [if_pos (by simp [Region.wanted,n1])]
  refine opX_wp (h2 _ _ _ _ hs1) hk (fun v st' ρ' a' w' hk' hs'=>⟨rfl,?_⟩) (fun e st' ρ' w' hk' _=>hk'.elim) nn
  unfold wpOpIn
  rw [e2]
  simp only
  rw [if_pos (by simp [Region.wanted,n2])]
  exact opX_wp hs' hk' (fun v st' ρ' a' w' hk' hs'=>⟨_,_,_,hs',hk'⟩) (fun e st' ρ' w' hk' _=>hk'.elim) nn
section
variable {call:CallF} (hC:SoundC P call) {n:Nat} (hn:n≤512)
include hC hn
theorem stepTr_spec {W:WS} {ops:Array Oper} {b0:Nat} {D:DS} {i:Nat} {k:Tr AV→RowT→OutE} {A:Tr AV} {X:RowT} {out} (hX:X.n≤512) (h:stepTr P call W n ops b0 D i k A X=some out) :
  ∃ v A2 X2,stepN P W ops b0 D i (fL n A) X.L v X2.L∧fL n A2=putA (fL n A) (opAt ops i).dst v∧X2.n≤512∧k A2 X2=some out:=by
 unfold stepTr at h
 obtain ⟨hrow,h⟩:=ifB_spec h
 have hrow:rowN b0 D ops i (fL n A):=by
  unfold rowNB at hrow
  unfold rowN
  split
  ·trivial
  ·rename_i r hr
   simp only [hr] at hrow
   split at hrow
   ·rename_i p hp
    split at hrow
    ·rename_i q hq
     refine ⟨p,q,hp,by rw [evT_eq]; exact hq,?_⟩
     split at hrow
     ·rename_i hb
      have hb:r<b0:=by simpa [Nat.blt_eq] using hb
      exact ⟨fun _=>Nat.eq_of_beq_eq_true hrow,fun h=>by omega⟩
     ·rename_i hb
      have hb:¬ r<b0:=fun h=>by rw [← Nat.blt_eq,hb] at h; cases h
      exact ⟨fun h=>absurd h hb,fun _=>by simpa [Nat.ble_eq] using hrow⟩
    ·cases hrow
   ·cases hrow
 split at h
 ·rename_i hg
  obtain ⟨v,X1,h1,h2,h3⟩:=stepA_spec hC hX h
  exact ⟨v,_,X1,⟨by unfold stepV; simp only [hg]; exact h1,hrow⟩,(putT_eq hn _ _ _).symm,h2.ok,h3⟩
 ·rename_i j want hg
  obtain ⟨b,hb,h | h⟩:=gvalK_spec h
  ·obtain ⟨v,X1,h1,h2,h3⟩:=stepA_spec hC hX h.2
   exact ⟨v,_,X1,⟨by unfold stepV; simp only [hg]; exact ⟨b,hb,.inl ⟨h.1,h1⟩⟩,hrow⟩,(putT_eq hn _ _ _).symm,h2.ok,h3⟩
  ·have h7:=h.2
   simp only [putTK_eq] at h7
   exact ⟨uA,_,X,⟨by unfold stepV; simp only [hg]; exact ⟨b,hb,.inr ⟨h.1,.inr trivial,trivial⟩⟩,hrow⟩,(putT_eq hn _ _ _).symm,hX,h7⟩
theorem evTree_sound {W:WS} {ops:Array Oper} {b0:Nat} {D:DS} {st:List LS} {ord:List Nat} {Ac:Tr AV} {Xc:RowT}:∀ {fuel:Nat} {listed:Array Bool} {A:Tr AV} {X:RowT} {out},evTree P call W n ops b0 D st ord Ac Xc fuel listed A X=some out→X.n≤512 →
  out=(.normal,st,Ac,Xc)∧TreeT ops (stepN P W ops b0 D) (conflictN W ops b0 D) (fun A' ρ'=>∃ ms t X',A'=fL n t∧ρ'=X'.L∧chkT n b0 ms t X' Ac Xc=true) fuel listed (fL n A) X.L:=by
 have leaf:∀ {A:Tr AV} {X:RowT} {out},leafT n ops b0 st ord Ac Xc A X=some out→out=(.normal,st,Ac,Xc)∧∃ ms t X',fL n A=fL n t∧X.L=X'.L∧chkT n b0 ms t X' Ac Xc=true:=by
  intro A X out h
  unfold leafT at h
  rw [forceL_eq (fun x k=>forceNat_eq x k)] at h
  obtain ⟨h1,h2⟩:=ifB_spec h
  cases h2
  exact ⟨rfl,_,A,X,rfl,rfl,h1⟩
 intro fuel
 induction fuel with
 | zero =>
  intro listed A X out h hX
  have h:(match Region.ready .any ops listed with
   | []=>leafT n ops b0 st ord Ac Xc A X
   | _=>none)=some out:=h
  split at h
  ·rename_i hr
   obtain ⟨h1,h2⟩:=leaf h
   exact ⟨h1,hr,h2⟩
  ·cases h
 | succ fuel ih =>
  intro listed A X out h hX
  have h:(match Region.ready .any ops listed with
   | []=>leafT n ops b0 st ord Ac Xc A X
   | x :: l=>(match pickA ops (conflictN W ops b0 D) listed (x :: l) with
    | some y=>stepTr P call W n ops b0 D y (evTree P call W n ops b0 D st ord Ac Xc fuel (listed.setIfInBounds y true)) A X
    | none=>List.rec (motive:=fun _=>OutE) (some (.normal,st,Ac,Xc)) (fun i _ r=>match stepTr P call W n ops b0 D i (evTree P call W n ops b0 D st ord Ac Xc fuel (listed.setIfInBounds i true)) A X with
     | some _=>r
     | none=>none) (x :: l)))=some out:=h
  have step:∀ {i:Nat} {out},stepTr P call W n ops b0 D i (evTree P call W n ops b0 D st ord Ac Xc fuel (listed.setIfInBounds i true)) A X=some out→out=(.normal,st,Ac,Xc) ∧
    ∃ v ρ',stepN P W ops b0 D i (fL n A) X.L v ρ'∧TreeT ops (stepN P W ops b0 D) (conflictN W ops b0 D) (fun A' ρ'=>∃ ms t X',A'=fL n t∧ρ'=X'.L∧chkT n b0 ms t X' Ac Xc=true) fuel (listed.setIfInBounds i true) (putA (fL n A) (opAt ops i).dst v) ρ':=by
   intro i out h
   obtain ⟨v,A2,X2,h1,h2,h3,h4⟩:=stepTr_spec hC hn hX h
   obtain ⟨h5,h6⟩:=ih h4 h3
   exact ⟨h5,v,_,h1,by rw [← h2]; exact h6⟩
  split at h
  ·rename_i hr
   obtain ⟨h1,h2⟩:=leaf h
   exact ⟨h1,.inl ⟨hr,h2⟩⟩
  ·rename_i x l hr
   split at h
   ·rename_i y hy
    obtain ⟨m1,m2⟩:=pickA_spec hy
    obtain ⟨h1,h2⟩:=step h
    exact ⟨h1,.inr (.inl ⟨y,by rw [hr]; exact m1,m2,h2⟩)⟩
   ·have key:∀ (l:List Nat) {out},List.rec (motive:=fun _=>OutE) (some (.normal,st,Ac,Xc)) (fun i _ r=>match stepTr P call W n ops b0 D i (evTree P call W n ops b0 D st ord Ac Xc fuel (listed.setIfInBounds i true)) A X with
      | some _=>r
      | none=>none) l=some out→out=(.normal,st,Ac,Xc)∧∀ i ∈ l,∃ v ρ',stepN P W ops b0 D i (fL n A) X.L v ρ'∧TreeT ops (stepN P W ops b0 D) (conflictN W ops b0 D) (fun A' ρ'=>∃ ms t X',A'=fL n t∧ρ'=X'.L∧chkT n b0 ms t X' Ac Xc=true) fuel (listed.setIfInBounds i true) (putA (fL n A) (opAt ops i).dst v) ρ':=by
     intro l
     induction l with
     | nil=>intro out h; cases h; exact ⟨rfl,fun i hi=>by cases hi⟩
     | cons z l ihl =>
      intro out h
      have h:(match stepTr P call W n ops b0 D z (evTree P call W n ops b0 D st ord Ac Xc fuel (listed.setIfInBounds z true)) A X with
       | some _=>List.rec (motive:=fun _=>OutE) (some (.normal,st,Ac,Xc)) (fun i _ r=>match stepTr P call W n ops b0 D i (evTree P call W n ops b0 D st ord Ac Xc fuel (listed.setIfInBounds i true)) A X with
        | some _=>r
        | none=>none) l
       | none=>none)=some out:=h
      split at h
      ·rename_i o ho
       obtain ⟨h1,h2⟩:=ihl h
       refine ⟨h1,fun i hi=>?_⟩
       rcases List.mem_cons.1 hi with rfl | hi
       ·exact (step ho).2
       ·exact h2 i hi
      ·cases h
    obtain ⟨h1,h2⟩:=key (x :: l) (out:=out) h
    exact ⟨h1,.inr (.inr ⟨by rw [hr]; simp,fun i hi=>h2 i (by rw [← hr]; exact hi)⟩)⟩
theorem evE_sound {ops:Array Oper} {st:List LS} {A:Tr AV} {X:RowT} {x st' A' X'} (h:evE P call n ops st A X=some (x,st',A',X')) (hX:X.n≤512) :
  x=.normal∧st'=st∧Good X X'∧∀ (C:Ctx) (K:List AV→Store→Prop),K (fL n A') X'.L→wpD P C ops K (fL n A) X.L:=by
 unfold evE at h
 split at h
 ·rename_i W ord hpl
  obtain ⟨⟨f,h1⟩,h2⟩:=planE_spec hpl
  obtain ⟨h5,h6,h3,h4⟩:=evOpsD_sound hC hn h hX
  exact ⟨h5,h6,h3,fun C K hK=>wpD_drawJ h1 h2 (h4 _ hK)⟩
 ·cases h
theorem evDraw_sound {ops:Array Oper} {st:List LS} {A:Tr AV} {X:RowT} {x st' A' X'} (h:evDraw P call n ops st A X=some (x,st',A',X')) (hX:X.n≤512) :
  x=.normal∧st'=st∧Good X X'∧∀ (C:Ctx) (K:List AV→Store→Prop),K (fL n A') X'.L→wpD P C ops K (fL n A) X.L:=by
 have fin:∀ {W:WS} {D:DS} {f:Nat} {ord:List Nat},drawOKJ W ops D f ord=true→lowOK (befB ops) ops.size=true→evOpsD P call W n ops D st ord A X=some (x,st',A',X') →
   x=.normal∧st'=st∧Good X X'∧∀ (C:Ctx) (K:List AV→Store→Prop),K (fL n A') X'.L→wpD P C ops K (fL n A) X.L:=by
  intro W D f ord h1 h2 h
  obtain ⟨h5,h6,h3,h4⟩:=evOpsD_sound hC hn h hX
  exact ⟨h5,h6,h3,fun C K hK=>wpD_drawJ h1 h2 (h4 _ hK)⟩
 unfold evDraw at h
 split at h
 ·rename_i W ord hpl
  obtain ⟨⟨f,h1⟩,h2⟩:=planJ_spec hpl
  split at h
  ·rename_i r hr
   cases h
   exact fin h1 h2 hr
  ·exact evE_sound hC hn h hX
 ·unfold evDyn at h
  rw [forceL_eq (fun x k=>forceW_eq x k),forceL_eq (fun x k=>forceNat_eq x k)] at h
  split at h
  ·rename_i A1 X1 hcan
   rw [forceL_eq (fun x k=>forceP_eq x k)] at h
   split at h
   ·rename_i f h1 h2
    exact fin (findF_spec h1) h2 h
   ·rw [forceNat_eq] at h
    obtain ⟨_,_,hgood,_⟩:=evOpsD_sound hC hn hcan hX
    obtain ⟨heq,htree⟩:=evTree_sound hC hn h hX
    cases heq
    refine ⟨rfl,rfl,hgood,fun C K hQ=>wpD_treeN (fun h0 A' ρ' hk=>?_) htree⟩
    obtain ⟨ms,t,X',rfl,rfl,hc⟩:=hk
    rw [RowT.length] at h0
    exact ⟨_,_,fun a w hs=>hs.norm (chkT_norm hc h0),hQ⟩
  ·cases h
end

def SoundK (P:Program) (E:List LoopE) (n:Nat) (c:Code) (st:List LS) (A:Tr AV) (X:RowT) (x:Exit) (st':List LS) (A':Tr AV) (X':RowT):Prop :=
 Good X X'∧∀ L,Emap L E→∀ C:Ctx,(∀ l0,C.rd=some l0→∃ e ∈ L,e.l=l0)→(C.rg=true∨noRange c=true)→∀ Q:Exit→List LS→List AV→Store→Prop,Q x st' (fL n A') X'.L→wpG P C L c Q st (fL n A) X.L

section
variable {call:CallF} {yld:YieldF} (hC:SoundC P call) (hY:SoundY P yld) (hm:P.follows .mixedOrders=true) {E:List LoopE} (hE:∀ x ∈ E,x.n≤512) {n:Nat} (hn:n≤512)

theorem evLoop_sound {c:Code} {f:List LS→Tr AV→RowT→OutE} (hf:∀ st A X x st' A' X',f st A X=some (x,st',A',X')→X.n≤512→SoundK P E n c st A X x st' A' X') :
  ∀ {k:Nat} {st A X x st' A' X'},evLoop f k st A X=some (x,st',A',X')→X.n≤512→SoundK P E n (.loop c) st A X x st' A' X':=by
 have good:∀ {k:Nat} {st A X x st' A' X'},evLoop f k st A X=some (x,st',A',X')→X.n≤512→Good X X':=by
  intro k
  induction k with
  | zero=>intro st A X x st' A' X' h; cases h
  | succ k ih =>
   intro st A X x st' A' X' h hX
   have h:(match f st A X with
    | some (.normal,st,A,X)=>evLoop f k st A X
    | r=>r)=some (x,st',A',X'):=h
   split at h
   ·rename_i st1 A1 X1 hr
    have h1:=(hf _ _ _ _ _ _ _ hr hX).1
    exact h1.trans (ih h h1.ok)
   ·exact (hf _ _ _ _ _ _ _ h hX).1
 intro k st A X x st' A' X' h hX
 refine ⟨good h hX,fun L hL C hrd hrg Q hQ=>?_⟩
 refine wpG_loop (fun m st A ρ=>∃ t X,A=fL n t∧ρ=X.L∧X.n≤512∧evLoop f m st t X=some (x,st',A',X')) k st (fL n A) X.L (fun _ _ h=>h) ⟨A,X,rfl,rfl,hX,h⟩ ?_
 rintro m st A ρ ⟨t,X,rfl,rfl,hX,h⟩
 cases m with
 | zero=>cases h
 | succ m =>
  have h:(match f st t X with
   | some (.normal,st,A,X)=>evLoop f m st A X
   | r=>r)=some (x,st',A',X'):=h
  split at h
  ·rename_i st1 A1 X1 hr
   obtain ⟨h1,h3⟩:=hf _ _ _ _ _ _ _ hr hX
   exact h3 L hL C hrd hrg _ ⟨m,st1,fL n A1,X1.L,by omega,fun _ _ h=>h,A1,X1,rfl,rfl,h1.ok,h⟩
  ·rename_i hne
   obtain ⟨h1,h3⟩:=hf _ _ _ _ _ _ _ h hX
   refine h3 L hL C hrd hrg _ ?_
   cases x with
   | normal=>exact absurd h (hne _ _ _)
   | _=>exact hQ

include hC hY hE hn hm
theorem evCode_sound {k:Nat}:∀ (c:Code) {st A X x st' A' X'},evCode P call yld E n k c st A X=some (x,st',A',X')→X.n≤512→SoundK P E n c st A X x st' A' X':=by
 intro c
 induction c with
 | skip=>intro st A X x st' A' X' h hX; cases h; exact ⟨Good.refl hX,fun L hL C hrd hrg Q hQ=>wpG_skip hQ⟩
 | ret=>intro st A X x st' A' X' h hX; cases h; exact ⟨Good.refl hX,fun L hL C hrd hrg Q hQ=>wpG_ret hQ⟩
 | exit id=>intro st A X x st' A' X' h hX; cases h; exact ⟨Good.refl hX,fun L hL C hrd hrg Q hQ=>wpG_exit hQ⟩
 | label l=>intro st A X x st' A' X' h hX; cases h; exact ⟨Good.refl hX,fun L hL C hrd hrg Q hQ=>wpG_label hQ⟩
 | goto l=>intro st A X x st' A' X' h hX; cases h
 | refuse w=>intro st A X x st' A' X' h hX; cases h
 | seq a b iha ihb =>
  intro st A X x st' A' X' h hX
  have h:evSeq (evCode P call yld E n k a st A X) (evCode P call yld E n k b)=some (x,st',A',X'):=h
  unfold evSeq at h
  split at h
  ·rename_i st1 A1 X1 hr
   obtain ⟨h1,h2⟩:=iha hr hX
   obtain ⟨h3,h4⟩:=ihb h h1.ok
   exact ⟨h1.trans h3,fun L hL C hrd hrg Q hQ=>wpG_seq (h2 L hL C hrd (hrg.imp id fun h=>(Bool.and_eq_true _ _ ▸ (show (noRange a && noRange b)=true from h)).1) _ (h4 L hL C hrd (hrg.imp id fun h=>(Bool.and_eq_true _ _ ▸ (show (noRange a && noRange b)=true from h)).2) Q hQ))⟩
  ·rename_i hne
   obtain ⟨h1,h2⟩:=iha h hX
   refine ⟨h1,fun L hL C hrd hrg Q hQ=>wpG_seq (h2 L hL C hrd (hrg.imp id fun h=>(Bool.and_eq_true _ _ ▸ (show (noRange a && noRange b)=true from h)).1) _ ?_)⟩
   cases x with
   | normal=>exact absurd h (hne _ _ _)
   | _=>exact hQ
 | cond c a b iha ihb =>
  intro st A X x st' A' X' h hX
  have h:evCond (evT n A c) (evCode P call yld E n k a st A X) (evCode P call yld E n k b st A X)=some (x,st',A',X'):=h
  unfold evCond at h
  split at h
  ·rename_i hc
   obtain ⟨h1,h2⟩:=iha h hX
   exact ⟨h1,fun L hL C hrd hrg Q hQ=>wpG_cond (b:=true) (by rw [evT_eq]; exact hc) (fun _=>h2 L hL C hrd (hrg.imp id fun h=>(Bool.and_eq_true _ _ ▸ (show (noRange a && noRange b)=true from h)).1) Q hQ) (fun h=>by cases h)⟩
  ·rename_i hc
   obtain ⟨h1,h2⟩:=ihb h hX
   exact ⟨h1,fun L hL C hrd hrg Q hQ=>wpG_cond (b:=false) (by rw [evT_eq]; exact hc) (fun h=>by cases h) (fun _=>h2 L hL C hrd (hrg.imp id fun h=>(Bool.and_eq_true _ _ ▸ (show (noRange a && noRange b)=true from h)).2) Q hQ)⟩
  ·cases h
 | block id a ih =>
  intro st A X x st' A' X' h hX
  have h:evBlock id (evCode P call yld E n k a st A X)=some (x,st',A',X'):=h
  unfold evBlock at h
  split at h
  ·rename_i i st1 A1 X1 hr
   obtain ⟨h1,h2⟩:=ih hr hX
   split at h
   ·rename_i hb
    simp only [Nat.beq_eq] at hb
    cases h
    exact ⟨h1,fun L hL C hrd hrg Q hQ=>wpG_block (h2 L hL C hrd hrg _ (by simp only [inBlockG,hb,if_true]; exact hQ))⟩
   ·rename_i hb
    have hb:i≠id:=fun e=>by rw [e] at hb; simp at hb
    cases h
    exact ⟨h1,fun L hL C hrd hrg Q hQ=>wpG_block (h2 L hL C hrd hrg _ (by simp only [inBlockG,hb,if_false]; exact hQ))⟩
  ·rename_i hne
   obtain ⟨h1,h2⟩:=ih h hX
   refine ⟨h1,fun L hL C hrd hrg Q hQ=>wpG_block (h2 L hL C hrd hrg _ ?_)⟩
   cases x with
   | exit i=>exact absurd h (hne _ _ _ _)
   | _=>exact hQ
 | scope a ih =>
  intro st A X x st' A' X' h hX
  have h:evScope (evCode P call yld E n k a st A X)=some (x,st',A',X'):=h
  unfold evScope at h
  split at h
  ·cases h
  ·rename_i hne
   obtain ⟨h1,h2⟩:=ih h hX
   refine ⟨h1,fun L hL C hrd hrg Q hQ=>wpG_scope (h2 L hL C hrd hrg _ ?_)⟩
   cases x with
   | goto l=>exact absurd h (hne _ _ _ _)
   | _=>exact hQ
 | loop a ih =>
  intro st A X x st' A' X' h hX
  exact evLoop_sound (fun st A X x st' A' X' h hX=>ih h hX) h hX
 | region id ops draw =>
  intro st A X x st' A' X' h hX
  have h:evRegion P call yld E n ops draw st A X=some (x,st',A',X'):=h
  unfold evRegion at h
  split at h
  ·obtain ⟨h2,h3⟩:=evOps_sound hC hY hE hn h hX
   exact ⟨h2,fun L hL C hrd hrg Q hQ=>by obtain ⟨l⟩:=ops; exact wpG_regionX (h3 L hL (Q .normal) Q (fun e=>by subst e; exact hQ) (fun _=>hQ))⟩
  ·split at h
   ·rename_i W b hbar
    unfold evBar at h
    split at h
    ·rename_i st0 A1 X1 hev
     obtain ⟨_,rfl,h3,h4⟩:=evOpsA_sound hC hn hev hX
     have bar:stepO P call yld E n (opAt ops b) st0 A1 X1 (fun st2 A2 X2=>evOpsA P call W n ops st2 ((highL ops b).map (opAt ops)) A2 X2)=some (x,st',A',X')→Good X1 X'∧∀ L,Emap L E→∀ Q:Exit→List LS→List AV→Store→Prop,Q x st' (fL n A') X'.L →
       opX P L (opAt ops b) (fun v st' ρ'=>RunL P W ops (Q .normal st') ((highL ops b).map (opAt ops)) (putA (fL n A1) (opAt ops b).dst v) ρ') (fun e st' ρ'=>Q e st' (fL n A1) ρ') st0 (fL n A1) X1.L:=by
      intro h
      rcases stepO_spec hC hY hE h3.ok h with ⟨v,st1,X2,h5,h6,h7⟩ | ⟨ch,st1,X2,h5,h6,h7⟩
      ·obtain ⟨rfl,rfl,h8,h9⟩:=evOpsA_sound hC hn h6 h5.ok
       refine ⟨h5.trans h8,fun L hL Q hQ=>h7 L hL _ _ ?_⟩
       rw [putT_eq hn]
       exact h9 _ hQ
      ·cases h5
       exact ⟨h6,fun L hL Q hQ=>h7 L hL _ _ hQ⟩
     split at h
     ·rename_i hg
      obtain ⟨g1,g2⟩:=bar h
      refine ⟨h3.trans g1,fun L hL C hrd hrg Q hQ=>wpG_bar hm (barOf_spec hbar) (h4 _ ?_)⟩
      unfold opXg
      simp only [hg]
      exact g2 L hL Q hQ
     ·rename_i j want hg
      obtain ⟨bb,hb,h | h⟩:=gvalK_spec h
      ·obtain ⟨g1,g2⟩:=bar h.2
       refine ⟨h3.trans g1,fun L hL C hrd hrg Q hQ=>wpG_bar hm (barOf_spec hbar) (h4 _ ?_)⟩
       unfold opXg
       simp only [hg,hb]
       exact ⟨fun _=>g2 L hL Q hQ,fun hw=>by rw [h.1] at hw; cases hw⟩
      ·have h7:=h.2
       simp only [putTK_eq] at h7
       obtain ⟨rfl,rfl,h8,h9⟩:=evOpsA_sound hC hn h7 h3.ok
       refine ⟨h3.trans h8,fun L hL C hrd hrg Q hQ=>wpG_bar hm (barOf_spec hbar) (h4 _ ?_)⟩
       unfold opXg
       simp only [hg,hb]
       refine ⟨fun hw=>(by rw [h.1] at hw; cases hw),fun _=>?_⟩
       rw [putT_eq hn]
       exact h9 _ hQ
    ·cases h
   ·split at h
    ·rename_i W hd
     split at h
     ·rename_i r hr
      cases h
      obtain ⟨rfl,rfl,h3,h4⟩:=evOpsA_sound hC hn hr hX
      exact ⟨h3,fun L hL C hrd hrg Q hQ=>wpG_drawW hm (drawSet_spec hd) (h4 _ hQ)⟩
     ·obtain ⟨rfl,rfl,h3,h4⟩:=evE_sound hC hn h hX
      exact ⟨h3,fun L hL C hrd hrg Q hQ=>wpG_lift (fun C' _=>wpA_of_D hm (h4 C' _ hQ))⟩
    ·split at h
     ·rename_i r hr
      cases h
      obtain ⟨rfl,rfl,h3,h4⟩:=evDraw_sound hC hn hr hX
      exact ⟨h3,fun L hL C hrd hrg Q hQ=>wpG_lift (fun C' _=>wpA_of_D hm (h4 C' _ hQ))⟩
     ·unfold evLast2 at h
      split at h
      ·rename_i o1 o2 hb
       split at h
       ·rename_i st0 A1 X1 hd
        obtain ⟨_,rfl,h3,h4⟩:=evDraw_sound hC hn hd hX
        split at h
        ·rename_i st2 A2 X2 hs1
         split at h
         ·rename_i st3 A3 X3 hs2
          cases h
          rcases stepO_spec hC hY hE h3.ok hs1 with ⟨v,st2',X2',h5,h6,h7⟩ | ⟨ch,st2',X2',h5,h6,h7⟩
          ·cases h6
           rcases stepO_spec hC hY hE h5.ok hs2 with ⟨v2,st3',X3',h8,h9,h10⟩ | ⟨ch,st3',X3',h8,h9,h10⟩
           ·cases h9
            refine ⟨(h3.trans h5).trans h8,fun L hL C hrd hrg Q hQ=>wpG_last2 hm hb (fun C' _=>h4 C' _ (h7 L hL _ _ ?_))⟩
            rw [putT_eq hn]
            refine h10 L hL _ _ ?_
            rw [putT_eq hn]
            exact hQ
           ·cases h8
          ·cases h5
         ·cases h
        ·cases h
       ·cases h
      ·cases h
 | rangeFunc g ps a b iha ihb =>
  intro st A X x st' A' X' h hX
  have h:evRange P call E n (evT n A g) ps a b st A X=some (x,st',A',X'):=h
  unfold evRange at h
  split at h
  ·rename_i gf args hfn
   obtain ⟨hc,h⟩:=ifB_spec h
   simp only [Bool.and_eq_true] at hc
   obtain ⟨hcb,hr⟩:=hc
   have hr:=roomy_spec hr
   rw [RowT.pushK_eq] at h
   split at h
   ·rename_i v st1 X1 hcall
    have hg0:=Good.push hr none
    obtain ⟨hg1,hd⟩:=hC _ _ _ _ _ _ _ _ (fun x hx=>by
     rcases List.mem_append.1 hx with hx | hx
     ·exact hE x hx
     ·simp at hx; rw [hx]; exact hn) hcall hg0.ok
    obtain ⟨rfl,rfl⟩:=afterE_same h
    refine ⟨hg0.trans hg1,fun L hL C hrd hrg Q hQ=>?_⟩
    obtain ⟨_,_,haf⟩:=afterE_spec h hQ
    refine wpG_rangeFunc (gf:=gf) (args:=args) (by rw [evT_eq,X.length]; exact hfn) hcb (hrg.elim id fun h=>by cases h) hrd (fun e h1 h2 h3 h4 h5=>?_)
    have hte:toE e ⟨X.n,ps,a,b,n,A'⟩:=⟨by rw [h1,X.length],h2,h3,h4,h5,hn⟩
    have:=hd (L ++ [e]) (hL.snoc hte)
    rw [RowT.push_L hr] at this
    refine this.ret.mono ?_
    rintro _ _ _ ⟨rfl,rfl,rfl⟩
    exact haf
   ·cases h
  ·cases h
end

theorem resE_spec {n:Nat} {A:Tr AV} {X:RowT}:∀ {l:List ResultVar} {vs:List AV},resE P (evT n A) X l=some vs→resA P (fL n A) X.L l vs
 | [],vs,h=>by simp [resE] at h; subst h; rfl
 | .tmp t :: l,vs,h=>by
  unfold resE at h
  split at h
  ·rename_i vr hr
   cases h
   exact ⟨vr,by rw [fL_get]; rfl,resE_spec hr⟩
  ·cases h
 | .cell a t :: l,vs,h=>by
  unfold resE at h
  obtain ⟨v,h1,h2⟩:=loadK_spec h
  split at h2
  ·rename_i vr hr
   cases h2
   exact ⟨v,vr,rfl,by rw [fL_get]; exact h1,resE_spec hr⟩
  ·cases h2

theorem deferOf_spec {c:Code} {ops l o f} (h:deferOf c=some (ops,l,o,f)):∃ id,c=.region id ops false∧ops.toList=l ++ [o]∧o.guard=none∧∃ c',o.op=.defer c'∧c'.callee=.value f∧c'.args=#[]:=by
 unfold deferOf at h
 split at h
 ·rename_i id ops'
  split at h
  ·rename_i o' hl
   split at h
   ·rename_i c' ho hg
    split at h
    ·rename_i f' hc ha
     cases h
     obtain ⟨ys,hys⟩:=List.getLast?_eq_some_iff.1 hl
     exact ⟨id,rfl,by rw [hys]; simp,hg,c',ho,hc,Array.ext' ha⟩
    ·cases h
   ·cases h
  ·cases h
 ·cases h

section
variable {call:CallF} {yld:YieldF} (hC:SoundC P call) (hY:SoundY P yld) (hm:P.follows .mixedOrders=true) {E:List LoopE} (hE:∀ x ∈ E,x.n≤512) {n:Nat} (hn:n≤512)
include hC hY hm hE hn

theorem evCode_srelD {k:Nat} {c:Code} {ds st A X e st' A' X'} (h:evCode P call yld E n k c st A X=some (e,st',A',X')) (hX:X.n≤512) :
  Good X X'∧∀ L,Emap L E→∀ (C:Ctx) a w,C.rd=none→SRelD C L ds st a w (fL n A) X.L→c.wpIn (fz none) 0 P (fun x a' w'=>x=e∧SRelD C L ds st' a' w' (fL n A') X'.L) a w:=by
 obtain ⟨h1,h2⟩:=evCode_sound hC hY hm hE hn c h hX
 refine ⟨h1,fun L hL C a w hrd hs=>?_⟩
 obtain ⟨C',⟨hr,hg⟩,hs',hb⟩:=hs.open
 have hr:C'.rd=none:=hr.trans hrd
 have:=h2 L hL C' (fun l0 h=>by rw [hr] at h; cases h) (.inl hg) (fun x s B r=>x=e∧s=st'∧B=fL n A'∧r=X'.L) ⟨rfl,rfl,rfl,rfl⟩ a w hs' 0
 rw [hr] at this
 refine wpIn_mono this ?_
 rintro x a' w' ⟨_,_,_,hs2,rfl,rfl,rfl,rfl⟩
 exact ⟨rfl,hb _ _ _ _ _ hs2⟩

theorem evSpine_sound {k:Nat}:∀ (c:Code) {ds st A X e ds' st' A' X'},evSpine P call yld E n k c ds st A X=some (e,ds',st',A',X')→X.n≤512 →
  Good X X'∧∀ L,Emap L E→∀ (C:Ctx) a w,C.rd=none→SRelD C L ds st a w (fL n A) X.L→c.wpIn (fz none) 0 P (fun x a' w'=>x=e∧SRelD C L ds' st' a' w' (fL n A') X'.L) a w:=by
 intro c
 have tail:∀ {c:Code} {ds st A X e ds' st' A' X'},evTail (evCode P call yld E n k c st A X) ds=some (e,ds',st',A',X')→X.n≤512 →
   Good X X'∧∀ L,Emap L E→∀ (C:Ctx) a w,C.rd=none→SRelD C L ds st a w (fL n A) X.L→c.wpIn (fz none) 0 P (fun x a' w'=>x=e∧SRelD C L ds' st' a' w' (fL n A') X'.L) a w:=by
  intro c ds st A X e ds' st' A' X' h hX
  unfold evTail at h
  split at h
  ·rename_i hev
   cases h
   exact evCode_srelD hC hY hm hE hn hev hX
  ·cases h
 induction c with
 | seq a b iha ihb =>
  intro ds st A X e ds' st' A' X' h hX
  replace h:(match deferOf a with
   | some (ops,l,o,f)=>(match evOps P call yld E n ops l st A X with
    | some (.normal,st1,A1,X1)=>(match fnOf (evT n A1 f) [] with
     | some g=>putTK n A1 o.dst uA fun A2=>evSpine P call yld E n k b (g :: ds) st1 A2 X1
     | none=>none)
    | _=>none)
   | none=>(match evCode P call yld E n k a st A X with
    | some (.normal,st1,A1,X1)=>evSpine P call yld E n k b ds st1 A1 X1
    | some (e,st1,A1,X1)=>some (e,ds,st1,A1,X1)
    | none=>none))=some (e,ds',st',A',X'):=h
  split at h
  ·rename_i ops l o f hdf
   split at h
   ·rename_i st1 A1 X1 hev
    split at h
    ·rename_i g hfn
     obtain ⟨g,args⟩:=g
     rw [putTK_eq] at h
     obtain ⟨id,rfl,hops,hg,c',ho,hc,ha⟩:=deferOf_spec hdf
     obtain ⟨h1,h2⟩:=evOps_sound hC hY hE hn hev hX
     obtain ⟨h3,h4⟩:=ihb h h1.ok
     refine ⟨h1.trans h3,fun L hL C a w hrd hs=>?_⟩
     refine wpIn_seq (wpIn_region_list ?_)
     obtain ⟨C',⟨hr,hgg⟩,hs',hback⟩:=hs.open
     have hr:C'.rd=none:=hr.trans hrd
     have hrun:=h2 L hL (fun s B r=>s=st1∧B=fL n A1∧r=X1.L) (fun _ _ _ _=>False) (fun _=>⟨rfl,rfl,rfl⟩) (fun h=>absurd rfl h)
     rw [hops]
     have:=runX_sound (C:=C') (L:=L) (tail:=[o]) (Q':=Exit.then (b.wpIn (fz none) 0 P (fun x a' w'=>x=e∧SRelD C L ds' st' a' w' (fL n A') X'.L)) (fun x a' w'=>x=e∧SRelD C L ds' st' a' w' (fL n A') X'.L)) (ops:=ops)
      (K:=fun s B r=>s=st1∧B=fL n A1∧r=X1.L) (Q:=fun _ _ _ _=>False) ?_ (fun _ _ _ _ _ _ _ h=>h.elim) l st (fL n A) X.L a w hs' hrun 0
     ·rw [hr] at this; exact this
     ·rintro a1 w1 s B r hs1 ⟨rfl,rfl,rfl⟩ m
      rw [hr]
      unfold wpListIn
      rw [if_pos (by simp [Region.wanted,hg])]
      have hsd:=hback _ _ _ _ _ hs1
      refine defer_srelD hsd hrd ho hc ha (by rw [evT_eq]; exact hfn) (fun a2 hs2=>?_) m
      show Exit.then _ _ .normal a2 w1
      rw [putT_eq hn] at hs2
      exact h4 L hL C a2 w1 hrd hs2
    ·cases h
   ·cases h
  ·split at h
   ·rename_i st1 A1 X1 hev
    obtain ⟨h1,h2⟩:=evCode_srelD (ds:=ds) hC hY hm hE hn hev hX
    obtain ⟨h3,h4⟩:=ihb h h1.ok
    refine ⟨h1.trans h3,fun L hL C a w hrd hs=>wpIn_seq (wpIn_mono (h2 L hL C a w hrd hs) ?_)⟩
    rintro x a' w' ⟨rfl,hs'⟩
    exact h4 L hL C a' w' hrd hs'
   ·rename_i e1 st1 A1 X1 hne hev
    cases h
    obtain ⟨h1,h2⟩:=evCode_srelD (ds:=ds) hC hY hm hE hn hev hX
    refine ⟨h1,fun L hL C a w hrd hs=>wpIn_seq (wpIn_mono (h2 L hL C a w hrd hs) ?_)⟩
    rintro x a' w' ⟨rfl,hs'⟩
    cases x with
    | normal=>exact (hne rfl).elim
    | _=>exact ⟨rfl,hs'⟩
   ·cases h
 | skip=>intro ds st A X e ds' st' A' X' h hX; cases h; exact ⟨Good.refl hX,fun L hL C a w hrd hs=>wpIn_skip ⟨rfl,hs⟩⟩
 | exit id=>intro ds st A X e ds' st' A' X' h hX; cases h; exact ⟨Good.refl hX,fun L hL C a w hrd hs=>wpIn_exit ⟨rfl,hs⟩⟩
 | ret=>intro ds st A X e ds' st' A' X' h hX; cases h; exact ⟨Good.refl hX,fun L hL C a w hrd hs=>wpIn_ret ⟨rfl,hs⟩⟩
 | label l=>intro ds st A X e ds' st' A' X' h hX; cases h; exact ⟨Good.refl hX,fun L hL C a w hrd hs=>wpIn_label ⟨rfl,hs⟩⟩
 | goto l=>intro ds st A X e ds' st' A' X' h hX; cases h
 | refuse l=>intro ds st A X e ds' st' A' X' h hX; cases h
 | region id ops draw=>intro ds st A X e ds' st' A' X' h hX; exact tail h hX
 | cond c x y _ _=>intro ds st A X e ds' st' A' X' h hX; exact tail h hX
 | block id c _=>intro ds st A X e ds' st' A' X' h hX; exact tail h hX
 | loop c _=>intro ds st A X e ds' st' A' X' h hX; exact tail h hX
 | rangeFunc g ps a b _ _=>intro ds st A X e ds' st' A' X' h hX; exact tail h hX
 | scope c _=>intro ds st A X e ds' st' A' X' h hX; exact tail h hX
end

section
variable {call:CallF} {yld:YieldF} (hC:SoundC P call) (hY:SoundY P yld) (hm:P.follows .mixedOrders=true) {E:List LoopE} (hE:∀ x ∈ E,x.n≤512)
include hC hY hm hE

theorem evDef_sound {k:Nat} {g:FuncId} {args:List AV} {x:Option Value} {st:List LS} {X:RowT} {st' X'} (h:evDef P call yld k E g args x st X=some (st',X')) (hX:X.n≤512) :
  callable P g=true∧Good X X'∧∀ L,Emap L E→DoesD P L g args st X.L (modeOf false x) (modeOf true x) (fun s r=>s=st'∧r=X'.L):=by
 unfold evDef at h
 split at h
 ·rename_i fn hf
  split at h
  ·rename_i id ops rest hb
   split at h
   ·rename_i o0 l hops
    split at h
    ·rename_i c y ho hg hx
     split at h
     ·rename_i hc
      obtain ⟨hcc,h⟩:=ifB_spec h
      simp only [Bool.and_eq_true,Nat.ble_eq] at hcc
      obtain ⟨⟨⟨hn,hal⟩,hnr⟩,hcb⟩:=hcc
      rw [forceNat_eq,putTK_eq] at h
      have hops':ops=(o0 :: l).toArray:=Array.ext' hops
      subst hops'
      split at h
      ·rename_i st1 A1 X1 hev
       obtain ⟨h1,h2⟩:=evOps_sound hC hY hE hn hev hX
       have key:∀ e st2 A2 X2,(e=.normal∨e=.ret)→evCode P call yld E fn.ntmps k rest st1 A1 X1=some (e,st2,A2,X2)→(∃ vs,resE P (evT fn.ntmps A2) X2 fn.results.toList=some vs)→callable P g=true∧Good X X2∧∀ L,Emap L E→DoesD P L g args st X.L (modeOf false x) (modeOf true x) (fun s r=>s=st2∧r=X2.L):=by
        rintro e st2 A2 X2 he hev2 ⟨vs,hvs⟩
        obtain ⟨h3,h4⟩:=evCode_sound hC hY hm hE hn rest hev2 h1.ok
        refine ⟨hcb,h1.trans h3,fun L hL=>DoesD.of hf hb ho hc hg hx (fun C hrd hrg=>?_)⟩
        have:=h2 L hL (wpG P C L rest (fun e st' A' ρ'=>(e=.normal∨e=.ret)∧∃ vs,resA P A' ρ' fn.results.toList vs∧(st'=st2∧ρ'=X2.L))) (fun _ _ _ _=>False)
         (fun _=>h4 L hL C (fun l0 h=>by rw [hrd] at h; cases h) (.inr hnr) _ ⟨he,vs,resE_spec hvs,rfl,rfl⟩) (fun h=>absurd rfl h)
        rw [← putT_eq hn,frm_eq hn args hal] at this
        exact this
       split at h
       ·rename_i st2 A2 X2 hev2
        split at h
        ·rename_i vs hvs; cases h; exact key .normal _ _ _ (.inl rfl) hev2 ⟨_,hvs⟩
        ·cases h
       ·rename_i st2 A2 X2 hev2
        split at h
        ·rename_i vs hvs; cases h; exact key .ret _ _ _ (.inr rfl) hev2 ⟨_,hvs⟩
        ·cases h
       ·cases h
      ·cases h
     ·cases h
    ·cases h
   ·cases h
  ·cases h
 ·cases h

theorem settle_modeOf (x:Option Value):settle (modeOf true x)=modeOf false none:=by cases x <;> rfl
theorem evLeave_sound {k:Nat}:∀ {ds:List (FuncId × List AV)} {x:Option Value} {st:List LS} {X:RowT} {x' st' X'},evLeave P call yld k E ds x st X=some (x',st',X')→X.n≤512 →
  Good X X'∧∀ L,Emap L E→∀ R:FrameMode→List LS→Store→Prop,R (modeOf false x') st' X'.L→LeaveD P L ds (modeOf false x) st X.L R
 | [],x,st,X,x',st',X',h,hX=>by
  cases h
  exact ⟨Good.refl hX,fun L hL R hR=>hR⟩
 | (g,args) :: ds,x,st,X,x',st',X',h,hX=>by
  unfold evLeave at h
  split at h
  ·rename_i st1 X1 hev
   obtain ⟨h0,h1,h2⟩:=evDef_sound hC hY hm hE hev hX
   obtain ⟨h3,h4⟩:=evLeave_sound h h1.ok
   refine ⟨h1.trans h3,fun L hL R hR=>⟨h0,_,by rw [settle_modeOf hC hY hm hE]; simp [modeOf],(h2 L hL).mono ?_⟩⟩
   rintro s r ⟨rfl,rfl⟩
   rw [settle_modeOf hC hY hm hE]
   exact h4 L hL R hR
  ·cases h
end

theorem evFun_sound {call:CallF} {yld:YieldF} (hC:SoundC P call) (hY:SoundY P yld) (hm:P.follows .mixedOrders=true) (k:Nat):SoundC P (evFun P call yld k):=by
 intro E g args st X v st' X' hE h hX
 unfold evFun at h
 split at h
 ·rename_i fn hf
  split at h
  ·rename_i c hb
   obtain ⟨hc,h⟩:=ifB_spec h
   simp only [Bool.and_eq_true,Nat.ble_eq] at hc
   obtain ⟨hn,hal⟩:=hc
   rw [forceNat_eq] at h
   unfold evBody at h
   split at h
   ·rename_i e ds st1 A X1 hev
    obtain ⟨hg,hw⟩:=evSpine_sound hC hY hm hE hn c hev hX
    have hX0:(⟨X.n,X.n,X.t⟩:RowT).L=X.L:=rfl
    -- how it ends
    have fin:∀ (x:Option Value),endM e=some (modeOf false x)→finE P fn.ntmps X.n X.lo fn.results.toList A (evLeave P call yld k E ds x st1 X1)=some (v,st',X')→Good X X'∧∀ L,Emap L E→DoesX P L g args st X.L v st' X'.L:=by
     intro x he h
     unfold finE at h
     have body:∀ (x2:Option Value) st2 X2 (res:Res),evLeave P call yld k E ds x st1 X1=some (x2,st2,X2)→(match modeOf false x2 with
       | .returning=>∃ vs,resA P (fL fn.ntmps A) X2.L fn.results.toList vs∧res=.ret (one? vs)
       | .panicking ch=>∃ x,ch=[{ v:=x,recovered:=false }]∧res=.pan x
       | .run=>False)→Good ⟨X.n,X.n,X.t⟩ X2∧∀ L,Emap L E→DoesX P L g args st X.L res st2 X2.L:=by
      intro x2 st2 X2 res hlv hE2
      obtain ⟨h3,h4⟩:=evLeave_sound hC hY hm hE hlv hg.ok
      refine ⟨hg.trans h3,fun L hL=>DoesX.ofD hf hb (fun C a w hrd hs=>?_)⟩
      rw [← frm_eq hn args hal] at hs
      refine wpIn_mono (hw L hL C a w hrd hs) ?_
      rintro y a' w' ⟨rfl,hs'⟩
      exact ⟨ds,st1,_,X1.L,_,hs',he,h4 L hL _ ⟨rfl,rfl,hE2⟩⟩
     split at h
     ·rename_i st2 X2 hlv
      split at h
      ·rename_i vs hres
       obtain ⟨hg2,hd⟩:=body none st2 X2 (.ret (one? vs)) hlv ⟨vs,resE_spec hres,rfl⟩
       obtain ⟨n1,lo1,t1⟩:=X2
       unfold retE at h
       simp only at h
       split at h
       ·rename_i hbb
        simp only [Bool.and_eq_true] at hbb
        rw [forceNat_eq] at h
        cases h
        refine ⟨⟨Nat.le_refl _,by show minN X.lo lo1≤X.lo; rw [minN_eq]; omega,fun r h1 h2=>hg2.same r h1 ?_,hX⟩,fun L hL=>?_⟩
        ·have h2:r<minN X.lo lo1:=h2
         rw [minN_eq] at h2
         show r<lo1; omega
        have hle:X.n≤n1:=hg2.le
        have hL':(⟨X.n,minN X.lo lo1,t1⟩:RowT).L=(⟨n1,lo1,t1⟩:RowT).L.take X.n:=by
         apply List.ext_getElem
         ·simp [RowT.L]; omega
         ·intro i h1 h2; simp [RowT.L]
        rw [hL']
        have:=(hd L hL).ret.back (fun _ r hr=>?_) (by rw [X.length]; exact belB_spec hbb.1)
        ·rw [X.length] at this; exact this
        ·rw [X.length] at hr
         have e1:(⟨n1,lo1,t1⟩:RowT).L[r]?=some (Tr.get none (path 3 r) t1):=by simp [RowT.L,show r<n1 by omega]
         by_cases hlo:r<lo1
         ·left
          rw [e1]
          have e2:X.L[r]?=some (Tr.get none (path 3 r) X.t):=by simp [RowT.L,hr]
          rw [e2]; congr 1; exact hg2.same r hr hlo
         ·right
          intro R hR
          rw [e1] at hR
          have hR:Tr.get none (path 3 r) t1=some R:=by simpa using hR
          have:=belRows_spec hbb.2 r (by omega) (by show r<lo1+(X.n - lo1); omega)
          rw [hR] at this
          rw [X.length]; exact belR_spec this
       ·split at h
        ·rename_i v1 m t2 hgc
         rw [forceNat_eq] at h
         cases h
         obtain ⟨a1,a2,a3,a4⟩:=gcE_spec (lo':=minN X.lo lo1) hgc hg2.ok hg2.le
         refine ⟨⟨a1,by show minN X.lo lo1≤X.lo; rw [minN_eq]; omega,fun r h1 h2=>?_,Nat.le_trans a2 hg2.ok⟩,fun L hL=>(hd L hL).ret.norm (fun C hC=>a4 C (by rw [hC,X.length]))⟩
         have h2:r<minN X.lo lo1:=h2
         rw [minN_eq] at h2
         exact (a3 r h1 (by omega)).trans (hg2.same r h1 (by show r<lo1; omega))
        ·rw [forceNat_eq] at h
         cases h
         have hlo:X.n≤X.n∧lo1≤X.n:=⟨Nat.le_refl _,hg2.lo⟩
         refine ⟨⟨hg2.le,by show minN X.lo lo1≤X.lo; rw [minN_eq]; omega,fun r h1 h2=>hg2.same r h1 ?_,hg2.ok⟩,fun L hL=>hd L hL⟩
         have h2:r<minN X.lo lo1:=h2
         rw [minN_eq] at h2
         show r<lo1; omega
      ·cases h
     ·rename_i x2 st2 n1 lo1 t1 hlv
      obtain ⟨hg2,hd⟩:=body (some x2) st2 ⟨n1,lo1,t1⟩ (.pan x2) hlv ⟨x2,rfl,rfl⟩
      rw [forceNat_eq] at h
      cases h
      refine ⟨⟨hg2.le,by show minN X.lo lo1≤X.lo; rw [minN_eq]; omega,fun r h1 h2=>hg2.same r h1 ?_,hg2.ok⟩,fun L hL=>hd L hL⟩
      have h2:r<minN X.lo lo1:=h2
      rw [minN_eq] at h2
      show r<lo1; omega
     ·cases h
    split at h
    ·exact fin none rfl h
    ·exact fin none rfl h
    ·rename_i x; exact fin (some x) rfl h
    ·cases h
   ·cases h
  ·cases h
 ·cases h

theorem setT_eq {n:Nat} (hn:n≤512):∀ (ps:List Tmp) (xs:List AV) (t:Tr AV),(ps.zip xs).foldl (fun t p=>t.set p.1 p.2) (fL n t)=fL n (setT n t ps xs)
 | [],xs,t=>by simp [setT]
 | p :: ps,[],t=>by simp [setT]
 | p :: ps,x :: xs,t=>by
  simp only [List.zip_cons_cons,List.foldl_cons,setT]
  rw [fL_set hn]
  exact setT_eq hn ps xs _

theorem evYield_sound {call:CallF} {yld:YieldF} (hC:SoundC P call) (hY:SoundY P yld) (hm:P.follows .mixedOrders=true) (k:Nat):∀ E i x xs st X b st' X',(∀ x ∈ E,x.n≤512)→evYield P call yld k E i x xs st X=some (b,st',X')→X.n≤512→x.n≤512 →
  Good X X'∧∀ L e,Emap L E→L[i]?=some e→toE e x→YieldG P L i e xs st X.L (fun c s ρ=>c=b∧s=st'∧ρ=X'.L):=by
 intro E i x xs st X b st' X' hE h hX hxn
 unfold evYield at h
 split at h
 ·rename_i hst
  obtain ⟨hc,h⟩:=ifB_spec h
  simp only [Bool.and_eq_true,Nat.beq_eq,Nat.ble_eq] at hc
  split at h
  ·rename_i st1 A1 X1 hev1
   obtain ⟨hg1,hw1⟩:=evCode_sound hC hY hm hE hc.2 _ hev1 hX
   split at h
   ·rename_i hst1
    split at h
    ·rename_i y st2 A2 X2 hev2
     obtain ⟨hg2,hw2⟩:=evCode_sound hC hY hm hE hc.2 _ hev2 hg1.ok
     split at h
     ·rename_i b' s hst2 hrn
      cases h
      refine ⟨hg1.trans hg2,fun L e hL hLi hte=>⟨hst,by rw [hte.2.1]; exact hc.1,fun Cb hrd hn0 hgg=>?_⟩⟩
      have hrd':∀ l0,Cb.rd=some l0→∃ e ∈ L,e.l=l0:=fun l0 h=>⟨e,List.mem_of_getElem? hLi,by rw [hrd] at h; cases h; rfl⟩
      obtain ⟨t1,t2,t3,t4,t5,t6⟩:=hte
      unfold setPs
      rw [t5,t2,t3,t4,setT_eq hc.2]
      exact hw1 L hL Cb hrd' (.inl hgg) _ ⟨hst1,hw2 L hL Cb hrd' (.inl hgg) _ ⟨hst2,b,s,hrn,rfl,rfl,rfl⟩⟩
     ·cases h
    ·cases h
   ·cases h
  ·cases h
 ·cases h

end Go.Lg

namespace Go.Lg
open Go.RowKit
variable {P:Program}

structure Fact where
 g:FuncId
 args:List AV
 n:Nat
 t:Tr (Option Root)
 v:AV
 n':Nat
 lo':Nat
 t':Tr (Option Root)
structure FactOK (P:Program) (F:Fact):Prop where
 hn:F.n≤F.n'
 hn':F.n'≤512
 same:∀ r,r<F.n→r<F.lo'→Tr.get none (path 3 r) F.t'=Tr.get none (path 3 r) F.t
 does:DoesS P F.g F.args (⟨F.n,F.n,F.t⟩:RowT).L (fun a ρ=>a=F.v∧ρ=(⟨F.n',F.lo',F.t'⟩:RowT).L)
theorem facts_nil:∀ F ∈ ([]:List Fact),FactOK P F:=fun F h=>by cases h
noncomputable def lookT (T:List Fact) (g:FuncId) (args:List AV) (X:RowT):Option Fact :=
 List.rec (motive:=fun _=>Option Fact) none (fun F _ ih=>match Nat.beq F.g g with
  | true=>(match Nat.beq F.n X.n && eqL (eqA 12) F.args args && eqRows F.t X.t F.n 0 with
   | true=>some F
   | false=>ih)
  | false=>ih) T
theorem lookT_spec {g args X F}:∀ {T:List Fact},lookT T g args X=some F→F ∈ T∧F.g=g∧F.n=X.n∧F.args=args∧∀ r,r<X.n→Tr.get none (path 3 r) F.t=Tr.get none (path 3 r) X.t
 | [],h=>by cases h
 | F0 :: T,h=>by
  have h:(match Nat.beq F0.g g with
   | true=>(match Nat.beq F0.n X.n && eqL (eqA 12) F0.args args && eqRows F0.t X.t F0.n 0 with
    | true=>some F0
    | false=>lookT T g args X)
   | false=>lookT T g args X)=some F:=h
  split at h
  ·rename_i hg
   split at h
   ·rename_i hb
    cases h
    simp only [Bool.and_eq_true,Nat.beq_eq] at hb hg
    obtain ⟨⟨h1,h2⟩,h3⟩:=hb
    refine ⟨by simp,hg,h1,eqL_spec (fun x y=>eqA_spec) h2,fun r hr=>eqRows_spec h3 r (by omega) (by omega)⟩
   ·obtain ⟨h1,h2⟩:=lookT_spec h
    exact ⟨by simp [h1],h2⟩
  ·obtain ⟨h1,h2⟩:=lookT_spec h
   exact ⟨by simp [h1],h2⟩
noncomputable def callT (T:List Fact) (base:CallF):CallF:=fun E g args st X=>match lookT T g args X with
 | some F=>forceNat (minN X.lo F.lo') fun lo=>some (.ret F.v,st,⟨F.n',lo,F.t'⟩)
 | none=>base E g args st X
theorem callT_sound {T:List Fact} {base:CallF} (hb:SoundC P base) (hT:∀ F ∈ T,FactOK P F):SoundC P (callT T base):=by
 intro E g args st X v st' X' hE h hX
 unfold callT at h
 split at h
 ·rename_i F hF
  obtain ⟨h1,rfl,h3,rfl,h5⟩:=lookT_spec hF
  have ok:=hT F h1
  rw [forceNat_eq] at h
  cases h
  refine ⟨⟨by show X.n≤F.n'; have:=ok.hn; omega,by show minN X.lo F.lo'≤X.lo; rw [minN_eq]; omega,fun r h1 h2=>?_,ok.hn'⟩,fun L hL=>?_⟩
  ·have h2:r<minN X.lo F.lo':=h2
   rw [minN_eq] at h2
   rw [← h5 r h1]
   exact ok.same r (by omega) (by omega)
  ·have e:(⟨F.n,F.n,F.t⟩:RowT).L=X.L:=by
    apply List.ext_getElem
    ·simp [RowT.L,h3]
    ·intro i a b
     simp [RowT.L]
     exact h5 i (by simpa [RowT.L] using b)
   have:=ok.does
   rw [e] at this
   show DoesG _ _ _ _ _ _ _
   refine this.toG.mono ?_
   rintro a s ρ ⟨rfl,rfl,rfl⟩
   exact ⟨rfl,rfl,rfl⟩
 ·exact hb E g args st X v st' X' hE h hX

noncomputable def evF (P:Program) (T:List Fact) (n:Nat):CallF × YieldF :=
 Nat.rec (motive:=fun _=>CallF × YieldF) (fun _ _ _ _ _=>none,fun _ _ _ _ _ _=>none) (fun n ih=>(callT T (evFun P ih.1 ih.2 n),evYield P ih.1 ih.2 n)) n
theorem evF_sound (hm:P.follows .mixedOrders=true) {T:List Fact} (hT:∀ F ∈ T,FactOK P F):∀ n,SoundC P (evF P T n).1∧SoundY P (evF P T n).2
 | 0=>⟨fun E g args st X v st' X' _ h=>(by cases h),fun E i x xs st X b st' X' _ h=>(by cases h)⟩
 | n+1=>by
  obtain ⟨hC,hY⟩:=evF_sound hm hT n
  exact ⟨callT_sound (evFun_sound hC hY hm n) hT,fun E i x xs st X b st' X' hE h hX hx=>evYield_sound hC hY hm n E i x xs st X b st' X' hE h hX hx⟩

end Go.Lg
