import Derived.Test.YtpdcajchppoocaaLq
set_option linter.unusedVariables false
set_option linter.unusedSimpArgs false
namespace Go.Lg
variable {P:Program}

def gslot (ops:Array Oper) (o:Oper):Option Nat:=match o.guard with
 | some (j,_)=>(ops[j]?).bind (·.dst)
 | none=>none
def tmpOf:Operand→Option Nat
 | .tmp t=>some t
 | _=>none
def rds (ops:Array Oper) (o:Oper):List Nat:=o.op.operands.toList.filterMap tmpOf ++ (gslot ops o).toList

variable {W:WS}
def stepV (P:Program) (W:WS) (ops:Array Oper) (o:Oper) (A:List AV) (ρ:Store) (v:AV) (ρ':Store):Prop:=match o.guard with
 | none=>bop P W o (aev A) ρ v ρ'
 | some (j,want)=>∃ b,gvalS ops A j want=some b∧((b=true∧bop P W o (aev A) ρ v ρ')∨(b=false∧(v=.any∨v=uA)∧ρ'=ρ))

theorem stepV_congr {ops:Array Oper} {o:Oper} {A A1:List AV} {ρ v ρ'} (h:∀ t ∈ rds ops o,A.getD t .any=A1.getD t .any) (hs:stepV P W ops o A ρ v ρ'):stepV P W ops o A1 ρ v ρ':=by
 have hev:∀ x ∈ o.op.operands.toList,aev A x=aev A1 x:=by
  intro x hx
  cases x with
  | tmp t=>exact h t (List.mem_append_left _ (List.mem_filterMap.2 ⟨_,hx,rfl⟩))
  | _=>rfl
 unfold stepV at hs ⊢
 cases hg:o.guard with
 | none=>rw [hg] at hs; exact bop_congr hev hs
 | some q =>
  obtain ⟨j,want⟩:=q
  rw [hg] at hs
  obtain ⟨b,h1,h2⟩:=hs
  refine ⟨b,?_,h2.imp (fun h=>⟨h.1,bop_congr hev h.2⟩) id⟩
  rw [← h1]
  unfold gvalS
  cases hd:(ops[j]?).bind (·.dst) with
  | none=>rfl
  | some d =>
   have:A.getD d .any=A1.getD d .any:=h d (List.mem_append_right _ (by simp [gslot,hg,hd]))
   simp only [this]
theorem stepV_keeps {ops:Array Oper} {o:Oper} {A:List AV} {ρ v ρ'} (hk:(mkindW W o).keeps=true) (hs:stepV P W ops o A ρ v ρ'):ρ'=ρ:=by
 unfold stepV at hs
 split at hs
 ·exact bop_keeps hk hs
 ·obtain ⟨b,_,h⟩:=hs
  rcases h with ⟨_,h⟩ | ⟨_,_,h⟩
  ·exact bop_keeps hk h
  ·exact h
theorem stepV_free {ops:Array Oper} {o:Oper} {A:List AV} {ρ v ρ'} (hk:mkindW W o=.n) (hs:stepV P W ops o A ρ v ρ') (ρ2:Store):stepV P W ops o A ρ2 v ρ2:=by
 unfold stepV at hs ⊢
 cases hg:o.guard with
 | none=>rw [hg] at hs; exact bop_free hk hs ρ2
 | some q =>
  obtain ⟨j,want⟩:=q
  rw [hg] at hs
  obtain ⟨b,h1,h⟩:=hs
  refine ⟨b,h1,?_⟩
  rcases h with ⟨h2,h3⟩ | ⟨h2,h3,_⟩
  ·exact .inl ⟨h2,bop_free hk h3 ρ2⟩
  ·exact .inr ⟨h2,h3,rfl⟩

theorem stepV_more {ops:Array Oper} {o:Oper} {A:List AV} {ρ v} (hk:mkindW W o=.r∨mkindW W o=.q) (hs:stepV P W ops o A ρ v ρ) (x:List (Option Root)):stepV P W ops o A (ρ ++ x) v (ρ ++ x):=by
 unfold stepV at hs ⊢
 cases hg:o.guard with
 | none=>rw [hg] at hs; exact bop_more hk hs x
 | some q =>
  obtain ⟨j,want⟩:=q
  rw [hg] at hs
  obtain ⟨b,h1,h⟩:=hs
  refine ⟨b,h1,?_⟩
  rcases h with ⟨h2,h3⟩ | ⟨h2,h3,_⟩
  ·exact .inl ⟨h2,bop_more hk h3 x⟩
  ·exact .inr ⟨h2,h3,rfl⟩
theorem stepV_made {ops:Array Oper} {o:Oper} {A:List AV} {ρ v ρ'} (hk:mkindW W o=.a) (hs:stepV P W ops o A ρ v ρ'):ρ'=ρ∨∃ x,ρ'=ρ ++ x:=by
 unfold stepV at hs
 split at hs
 ·exact .inr (bop_made hk hs)
 ·obtain ⟨b,_,h⟩:=hs
  rcases h with ⟨_,h⟩ | ⟨_,_,h⟩
  ·exact .inr (bop_made hk h)
  ·exact .inl h

def clash (x y:MK):Bool:=match x,y with
 | .n,_=>false
 | _,.n=>false
 | .r,.a=>false
 | .q,.a=>false
 | x,y=>!(x.keeps && y.keeps)
def conflictM (W:WS) (x y:Oper):Bool:=clash (mkindW W x) (mkindW W y)
def conflictS (ops:Array Oper) (x y:Oper):Bool :=
 (match x.dst with | some d=>(rds ops y).contains d | none=>false) || (match y.dst with | some d=>(rds ops x).contains d | none=>false) ||
 (match x.dst,y.dst with | some d,some d'=>d == d' | _,_=>false)
def conflictB (W:WS) (ops:Array Oper) (x y:Oper):Bool:=conflictM W x y || conflictS ops x y

theorem putA_get {A:List AV} {d:Option Tmp} {v:AV} {t:Nat} (h:d≠some t):(putA A d v).getD t .any=A.getD t .any:=by
 cases d with
 | none=>rfl
 | some d =>
  have:d≠t:=fun e=>h (by rw [e])
  simp [putA,List.getD,List.getElem?_set_ne this]
theorem putA_comm {A:List AV} {d d':Option Tmp} {v v':AV} (h:∀ t,¬ (d=some t∧d'=some t)):putA (putA A d v) d' v'=putA (putA A d' v') d v:=by
 cases d with
 | none=>rfl
 | some d =>
  cases d' with
  | none=>rfl
  | some d' =>
   have:d≠d':=fun e=>h d ⟨rfl,by rw [e]⟩
   simp only [putA]
   exact List.set_comm _ _ this

theorem swap {ops:Array Oper} {x y:Oper} (hc:conflictB W ops x y=false) {A:List AV} {ρ ρ1 ρ2 vx vy} (hx:stepV P W ops x A ρ vx ρ1) (hy:stepV P W ops y (putA A x.dst vx) ρ1 vy ρ2) :
  ∃ ρ1',stepV P W ops y A ρ vy ρ1'∧stepV P W ops x (putA A y.dst vy) ρ1' vx ρ2∧putA (putA A x.dst vx) y.dst vy=putA (putA A y.dst vy) x.dst vx:=by
 simp only [conflictB,conflictS,Bool.or_eq_false_iff] at hc
 obtain ⟨hm,⟨h1,h2⟩,h3⟩:=hc
 have hy':stepV P W ops y A ρ1 vy ρ2:=stepV_congr (fun t ht=>by
  refine putA_get (fun e=>?_)
  rw [e] at h1
  simp only at h1
  rw [List.contains_iff_mem.2 ht] at h1; cases h1) hy
 have hx':∀ ρ ρ1,stepV P W ops x A ρ vx ρ1→stepV P W ops x (putA A y.dst vy) ρ vx ρ1:=fun ρ ρ1 h=>stepV_congr (fun t ht=>by
  refine (putA_get (fun e=>?_)).symm
  rw [e] at h2
  simp only at h2
  rw [List.contains_iff_mem.2 ht] at h2; cases h2) h
 have hp:putA (putA A x.dst vx) y.dst vy=putA (putA A y.dst vy) x.dst vx:=putA_comm (fun t ⟨e1,e2⟩=>by rw [e1,e2] at h3; simp at h3)
 by_cases ky:mkindW W y=.n
 ·have e2:=stepV_keeps (by rw [ky]; rfl) hy'
  subst e2
  exact ⟨ρ,stepV_free ky hy' ρ,hx' _ _ hx,hp⟩
 by_cases kx:mkindW W x=.n
 ·have e1:=stepV_keeps (by rw [kx]; rfl) hx
  subst e1
  exact ⟨ρ2,hy',hx' _ _ (stepV_free kx hx ρ2),hp⟩
 have hm:clash (mkindW W x) (mkindW W y)=false:=hm
 by_cases kr:(mkindW W x=.r∨mkindW W x=.q)∧mkindW W y=.a
 ·have e1:=stepV_keeps (by rcases kr.1 with h | h <;> rw [h] <;> rfl) hx
  subst e1
  rcases stepV_made kr.2 hy' with e2 | ⟨z,e2⟩
  ·subst e2; exact ⟨_,hy',hx' _ _ hx,hp⟩
  ·subst e2
   exact ⟨_,hy',hx' _ _ (stepV_more kr.1 hx z),hp⟩
 ·have hk:(mkindW W x).keeps=true∧(mkindW W y).keeps=true:=by
   cases h1:mkindW W x <;> cases h2:mkindW W y <;> simp_all [clash,MK.keeps]
  have e1:=stepV_keeps hk.1 hx
  subst e1
  have e2:=stepV_keeps hk.2 hy'
  subst e2
  exact ⟨_,hy',hx' _ _ hx,hp⟩

def RunL (P:Program) (W:WS) (ops:Array Oper) (K:List AV→Store→Prop):List Oper→List AV→Store→Prop
 | [],A,ρ=>K A ρ
 | o :: r,A,ρ=>∃ v ρ',stepV P W ops o A ρ v ρ'∧RunL P W ops K r (putA A o.dst v) ρ'

theorem noW (o:Oper):isW [] o=none:=by unfold isW; cases fnCall o <;> (try rfl); cases litDst o <;> rfl
theorem RunL.front {ops:Array Oper} {K:List AV→Store→Prop} {y:Oper}:∀ (pre post:List Oper) (A:List AV) (ρ:Store),(∀ x ∈ pre,conflictB W ops x y=false) →
  RunL P W ops K (pre ++ y :: post) A ρ→∃ v ρ',stepV P W ops y A ρ v ρ'∧RunL P W ops K (pre ++ post) (putA A y.dst v) ρ'
 | [],post,A,ρ,_,h=>h
 | x :: pre,post,A,ρ,hc,h=>by
  obtain ⟨vx,ρ1,hx,h⟩:=h
  obtain ⟨vy,ρ2,hy,h⟩:=RunL.front pre post _ _ (fun z hz=>hc z (by simp [hz])) h
  obtain ⟨ρ1',h1,h2,h3⟩:=swap (hc x (by simp)) hx hy
  exact ⟨vy,ρ1',h1,vx,ρ2,h2,by rw [← h3]; exact h⟩

theorem stepV_wp {ops:Array Oper} {o:Oper} {i:Nat} (hi:ops[i]?=some o) {C a w A ρ v ρ'} (hs:SRel C a w A ρ) (h:stepV P W ops o A ρ v ρ') {K:Act→World→Prop} {Q:Exit→Act→World→Prop}
  (hK:∀ a' w',SRel C a' w' (putA A o.dst v) ρ'→K a' w') (n:Nat):wpOpIn (fz C.rd) n P ops Q i K a w:=by
 unfold wpOpIn
 simp only [hi]
 unfold stepV at h
 split at h
 ·rename_i hg
  rw [if_pos (by simp [Region.wanted,hg])]
  exact bop_srel hs h hK n
 ·rename_i j want hg
  obtain ⟨b,hb,h⟩:=h
  have hy:=gvalS_spec hb hs
  rcases h with ⟨hw,h⟩ | ⟨hw,hv,rfl⟩
  ·rw [hw] at hy
   rw [if_pos (by simp only [Region.wanted,hg]; exact hy)]
   exact bop_srel hs h hK n
  ·rw [hw] at hy
   rw [if_neg (by simp only [Region.wanted,hg]; rw [hy]; simp)]
   rcases hv with rfl | rfl
   ·exact ⟨fun _ _=>trivial,hK _ _ (hs.skip o.dst)⟩
   ·exact ⟨fun _ _=>trivial,hK _ _ (hs.skipU o.dst)⟩

def opAt (ops:Array Oper) (i:Nat):Oper:=ops.getD i default
def bitB (B:Array Nat) (i j:Nat):Bool:=(B.getD i 0).testBit j
def drawB (W:WS) (ops:Array Oper) (B:Array Nat):Bool :=
 (List.range ops.size).all fun i =>
  ((opAt ops i).after.toList.all fun e=>!Region.binds .any e || decide (e.on<i)) &&
  (List.range i).all fun j=>(!bitB B i j || (opAt ops i).after.toList.any fun e=>Region.binds .any e && (e.on == j || (decide (j<e.on) && bitB B e.on j))) && (!conflictB W ops (opAt ops j) (opAt ops i) || bitB B i j)
def drawOKW (W:WS) (ops:Array Oper):Bool:=drawB W ops (Region.before ops)
def remL (ops:Array Oper) (listed:Array Bool):List Nat:=(List.range ops.size).filter fun i=>!listed.getD i true
def Closed (ops:Array Oper) (listed:Array Bool):Prop:=∀ i,i<ops.size→listed.getD i true=true→∀ e ∈ (opAt ops i).after.toList,Region.binds .any e=true→listed.getD e.on false=true

theorem opAt_get {ops:Array Oper} {i:Nat} (h:i<ops.size):ops[i]?=some (opAt ops i):=by simp [opAt,Array.getD,h]

theorem drawB_edge {ops:Array Oper} {B:Array Nat} (hB:drawB W ops B=true) {i:Nat} (hi:i<ops.size) {e:Edge} (he:e ∈ (opAt ops i).after.toList) (hb:Region.binds .any e=true):e.on<i:=by
 unfold drawB at hB
 rw [List.all_eq_true] at hB
 have:=hB i (by simp [hi])
 simp only [Bool.and_eq_true,List.all_eq_true] at this
 have:=this.1 e he
 simpa [hb] using this
theorem drawB_pair {ops:Array Oper} {B:Array Nat} (hB:drawB W ops B=true) {i j:Nat} (hi:i<ops.size) (hj:j<i) :
  (bitB B i j=true→∃ e ∈ (opAt ops i).after.toList,Region.binds .any e=true∧(e.on=j∨(j<e.on∧bitB B e.on j=true)))∧(conflictB W ops (opAt ops j) (opAt ops i)=true→bitB B i j=true):=by
 unfold drawB at hB
 rw [List.all_eq_true] at hB
 have:=hB i (by simp [hi])
 simp only [Bool.and_eq_true,List.all_eq_true] at this
 have:=this.2 j (by simp [hj])
 simp only [Bool.or_eq_true,Bool.not_eq_true',List.any_eq_true,Bool.and_eq_true,beq_iff_eq,decide_eq_true_eq] at this
 refine ⟨fun h=>?_,fun h=>?_⟩
 ·rcases this.1 with h' | ⟨e,he,h1,h2⟩
  ·rw [h] at h'; cases h'
  ·exact ⟨e,he,h1,h2⟩
 ·rcases this.2 with h' | h'
  ·rw [h] at h'; cases h'
  ·exact h'

theorem before_listed {ops:Array Oper} {B:Array Nat} (hB:drawB W ops B=true) {listed:Array Bool} (hsz:listed.size=ops.size) (hcl:Closed ops listed):∀ i,i<ops.size →
  (∀ e ∈ (opAt ops i).after.toList,Region.binds .any e=true→listed.getD e.on false=true)→∀ j,j<i→bitB B i j=true→listed.getD j false=true:=by
 intro i
 induction i using Nat.strongRecOn with
 | _ i ih =>
  intro hi hpre j hj hb
  obtain ⟨e,he,h1,h2⟩:=(drawB_pair hB hi hj).1 hb
  have hlt:=drawB_edge hB hi he h1
  have hl:=hpre e he h1
  rcases h2 with rfl | ⟨hj2,h2⟩
  ·exact hl
  ·have hon:e.on<ops.size:=by omega
   have hl':listed.getD e.on true=true:=by
    have:e.on<listed.size:=by omega
    simpa [Array.getD,this] using hl
   exact ih e.on hlt hon (hcl e.on hon hl') j hj2 h2
end Go.Lg
