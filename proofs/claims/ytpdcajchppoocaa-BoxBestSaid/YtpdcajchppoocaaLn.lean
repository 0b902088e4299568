import Derived.Scope
import Derived.Test.YtpdcajchppoocaaLmLm2
set_option linter.unusedVariables false
set_option linter.unusedSimpArgs false
namespace Go.Lg
variable {P:Program}

theorem aPure_walk {o:Oper} {w F I β a A ρ v ρ'} (hs:FRel w F I β a A ρ) (h:aPure P o (aev A) ρ v∧ρ'=ρ):StepW P o a w F I β ρ v ρ':=by
 obtain ⟨h,rfl⟩:=h
 obtain ⟨u,hr,hv⟩:=aPure_run h hs
 intro K Q hK r n
 exact Oper.wpIn_value hr (hK u w I β (Keeps.refl _ _) (Grow.refl _ _ _ _) hs.sr hv)

theorem aCall_walk {o:Oper} {c:Call} {w F I β a A ρ v ρ'} (ho:o.op=.call c) (hs:FRel w F I β a A ρ) (h:aCall P c (aev A) ρ v ρ'):StepW P o a w F I β ρ v ρ':=by
 unfold aCall at h
 split at h
 ·rename_i hc
  split at h
  ·rename_i s x t t' ha ht
   obtain ⟨⟨e',hd⟩,h⟩:=h
   exact (aAppend_step ho hc (Array.ext' ha) (Array.ext' ht) hd hs h).walk
  ·exact h.elim
 ·rename_i hc
  split at h
  ·rename_i d s t t' ha ht
   exact (aCopy_step ho hc ha ht hs h).walk
  ·exact h.elim
 ·rename_i hc
  split at h
  ·rename_i x t ha ht
   exact (aClear_step ho hc ha ht hs h).walk
  ·exact h.elim
 ·rename_i b _ _ _ hc
  refine aPure_walk hs ⟨?_,h.2⟩
  unfold aPure
  simp only [ho,hc]
  exact h.1
 ·rename_i f hc
  have hf:=hs.eval f
  have hl:=RelL.of_map A a.eval hs.eval c.args.toList
  split at h
  ·rename_i g fs cs he
   obtain ⟨rfl,rfl,⟨h1,h2⟩,rfl⟩:=h
   rw [he] at hf
   generalize hvf:a.eval f=vf at hf
   cases hf
   refine aDoes_wp (f:=g) (vals:=c.args.map a.eval) hs ?_ (by simpa using hl) h2
   have e0:(resolve a.eval c o.type).run P w=.ok { target:=.fn (.func g) #[],args:=c.args.map a.eval } w:=by
    unfold resolve; rw [hc]; simp [hvf,Deferred.ofValue]
   unfold execOp
   simp [ho,e0,invoke,run_callFunc h1]
  ·rename_i g fs cs he
   obtain ⟨⟨h1,h2⟩,rfl⟩:=h
   rw [he] at hf
   generalize hvf:a.eval f=vf at hf
   cases hf with
   | clo _ _ _ us vs hm hu hn hv =>
    have hus:RelL (cellf w) I ρ'.length β fs us.toList:=⟨by simpa using hm,fun j hj=>by
     have:=hu j hj
     have hj':j<us.size:=by omega
     simpa [Array.getD,List.getD,hj'] using this⟩
    have hvs:RelL (cellf w) I ρ'.length β cs vs.toList:=⟨by simpa using hn,fun j hj=>by
     have:=hv j hj
     have hj':j<vs.size:=by omega
     simpa [Array.getD,List.getD,hj'] using this⟩
    refine aDoes_wp (f:=g) (vals:=us ++ c.args.map a.eval ++ vs) hs ?_ (by simpa using (hus.append hl).append hvs) h2
    have e0:(resolve a.eval c o.type).run P w=.ok { target:=.fn (.func g) vs,args:=us ++ c.args.map a.eval } w:=by
     unfold resolve; rw [hc]; simp [hvf,Deferred.ofValue]
    unfold execOp
    simp [ho,e0,invoke,run_callFunc h1]
  ·rename_i name t y fs cs he
   obtain ⟨g,hm,⟨h1,h2⟩,rfl⟩:=h
   obtain ⟨vals,hr,hrel⟩:=meth_run hs ho hc he hm h1
   exact aDoes_wp hs hr hrel h2
  ·exact h.elim
 ·rename_i r name hc
  split at h
  ·rename_i t y hr
   obtain ⟨g,hm,⟨h1,h2⟩,rfl⟩:=h
   obtain ⟨vals,hr,hrel⟩:=inv_run hs ho hc hr hm h1
   exact aDoes_wp hs hr hrel h2
  ·exact h.elim

def aCallW (P:Program) (o:Oper) (ev:Operand→AV) (ρ:Store) (v:AV) (ρ':Store):Prop:=match o.op with
 | .call c=>(match c.callee with
  | .value f=>(match ev f with
   | .sc (.func (.func g) fs cs)=>fs=#[]∧cs=#[]∧callable P g=true∧DoesS P g (c.args.toList.map ev) ρ (fun x s=>x=v∧s=ρ')
   | .clo (.func g) fs cs=>callable P g=true∧DoesS P g (fs ++ c.args.toList.map ev ++ cs) ρ (fun x s=>x=v∧s=ρ')
   | .clo (.method name) (.ifc t y :: fs) _=>∃ g,methodOf P t name=some g∧callable P g=true∧DoesS P g (y :: (fs ++ c.args.toList.map ev)) ρ (fun x s=>x=v∧s=ρ')
   | _=>False)
  | .invoke r name=>(match ev r with
   | .ifc t y=>∃ g,methodOf P t name=some g∧callable P g=true∧DoesS P g (y :: c.args.toList.map ev) ρ (fun x s=>x=v∧s=ρ')
   | _=>False)
  | _=>False)
 | _=>False
theorem aCallW_walk {o:Oper} {w F I β a A ρ v ρ'} (hs:FRel w F I β a A ρ) (h:aCallW P o (aev A) ρ v ρ'):StepW P o a w F I β ρ v ρ':=by
 unfold aCallW at h
 split at h
 ·rename_i c ho
  split at h
  ·rename_i f hc
   have hf:=hs.eval f
   have hl:=RelL.of_map A a.eval hs.eval c.args.toList
   split at h
   ·rename_i g fs cs he
    obtain ⟨rfl,rfl,h1,h2⟩:=h
    rw [he] at hf
    generalize hvf:a.eval f=vf at hf
    cases hf
    refine aDoesW_wp (f:=g) (vals:=c.args.map a.eval) hs ?_ (by simpa using hl) h2
    have e0:(resolve a.eval c o.type).run P w=.ok { target:=.fn (.func g) #[],args:=c.args.map a.eval } w:=by
     unfold resolve; rw [hc]; simp [hvf,Deferred.ofValue]
    unfold execOp
    simp [ho,e0,invoke,run_callFunc h1]
   ·rename_i g fs cs he
    obtain ⟨h1,h2⟩:=h
    rw [he] at hf
    generalize hvf:a.eval f=vf at hf
    cases hf with
    | clo _ _ _ us vs hm hu hn hv =>
     have hus:RelL (cellf w) I ρ.length β fs us.toList:=⟨by simpa using hm,fun j hj=>by
      have:=hu j hj
      have hj':j<us.size:=by omega
      simpa [Array.getD,List.getD,hj'] using this⟩
     have hvs:RelL (cellf w) I ρ.length β cs vs.toList:=⟨by simpa using hn,fun j hj=>by
      have:=hv j hj
      have hj':j<vs.size:=by omega
      simpa [Array.getD,List.getD,hj'] using this⟩
     refine aDoesW_wp (f:=g) (vals:=us ++ c.args.map a.eval ++ vs) hs ?_ (by simpa using (hus.append hl).append hvs) h2
     have e0:(resolve a.eval c o.type).run P w=.ok { target:=.fn (.func g) vs,args:=us ++ c.args.map a.eval } w:=by
      unfold resolve; rw [hc]; simp [hvf,Deferred.ofValue]
     unfold execOp
     simp [ho,e0,invoke,run_callFunc h1]
   ·rename_i name t y fs cs he
    obtain ⟨g,hm,h1,h2⟩:=h
    obtain ⟨vals,hr,hrel⟩:=meth_run hs ho hc he hm h1
    exact aDoesW_wp hs hr hrel h2
   ·exact h.elim
  ·rename_i r name hc
   split at h
   ·rename_i t y hr
    obtain ⟨g,hm,h1,h2⟩:=h
    obtain ⟨vals,hr,hrel⟩:=inv_run hs ho hc hr hm h1
    exact aDoesW_wp hs hr hrel h2
   ·exact h.elim
  ·exact h.elim
 ·exact h.elim

theorem aop_walk {o:Oper} {w F I β a A ρ v ρ'} (hs:FRel w F I β a A ρ) (h:aop P o (aev A) ρ v ρ'):StepW P o a w F I β ρ v ρ':=by
 unfold aop at h
 split at h
 ·rename_i ho; exact (aAlloc_step ho hs h).walk
 ·rename_i ho; exact (aBox_step ho hs h).walk
 ·rename_i ho; exact (aStore_step ho hs h).walk
 ·rename_i ho; exact (aMakeSlice_step ho hs h).walk
 ·rename_i ho; exact (aLit_step ho hs h).walk
 ·rename_i ho; exact aCall_walk ho hs h
 ·rename_i ho; exact (aMakeMap_step ho hs h).walk
 ·rename_i ho; exact (aMapUpdate_step (.inl ho) hs h).walk
 ·rename_i ho; exact (aMapUpdate_step (.inr ho) hs h).walk
 ·rename_i ho
  obtain ⟨h,rfl⟩:=h
  obtain ⟨u,h1,h2⟩:=aLookup_run (P:=P) h hs.sr (hs.eval _) (hs.eval _)
  exact fun K Q hK r n=>Oper.wpIn_value (by unfold execOp; simp [ho,h1]) (hK u w I β (Keeps.refl _ _) (Grow.refl _ _ _ _) hs.sr h2)
 ·rename_i ho
  obtain ⟨h,rfl⟩:=h
  obtain ⟨u,h1,h2⟩:=aMakeIfc_run (P:=P) (w:=w) h (hs.eval _)
  exact fun K Q hK r n=>Oper.wpIn_value (by unfold execOp; simp [ho,h1]) (hK u w I β (Keeps.refl _ _) (Grow.refl _ _ _ _) hs.sr h2)
 ·rename_i ho
  obtain ⟨h,rfl⟩:=h
  obtain ⟨u,h1,h2⟩:=aTypeAssert_run (P:=P) (w:=w) h (hs.eval _)
  exact fun K Q hK r n=>Oper.wpIn_value (by unfold execOp; simp [ho,h1]) (hK u w I β (Keeps.refl _ _) (Grow.refl _ _ _ _) hs.sr h2)
 ·exact aPure_walk hs h

theorem aop_srel {o:Oper} {C a w A ρ v ρ'} (hs:SRel C a w A ρ) (h:aop P o (aev A) ρ v ρ') {K:Act→World→Prop} {Q:Exit→Act→World→Prop}
  (hK:∀ a' w',SRel C a' w' (putA A o.dst v) ρ'→K a' w') (n:Nat):o.wpIn (fz C.rd) n P a w K Q:=by
 obtain ⟨I,β,hk,h0,F',hFF,hf⟩:=hs
 exact aop_walk hf h K Q (fun u w' I' β' hk' hg hsr hv=>hK _ _ ⟨I',β',hk.trans (hk'.sub hFF.1),h0.trans hg,F',⟨hFF.1,(by cases o.dst <;> exact hFF.2)⟩,hg.frame hf o.dst hsr hv hk'⟩) C.rd n

inductive MK where | n | r | c | q | a | w
 deriving DecidableEq
abbrev WS:=List (Nat × MK)
def fnCall (o:Oper):Option Nat:=match o.op with
 | .call c=>(match c.callee with
  | .value _=>o.dst
  | .invoke _ _=>o.dst
  | _=>none)
 | _=>none
def litDst (o:Oper):Option Nat:=match o.op with
 | .buildSlice _ _ _=>o.dst
 | _=>none
def aLitO (P:Program) (o:Oper) (ev:Operand→AV) (ρ:Store) (v:AV) (ρ':Store):Prop:=match o.op with
 | .buildSlice t len parts=>aLitR P t len (parts.toList.map fun p=>(p.1,ev p.2)) ρ v ρ'
 | _=>False
def isW (W:WS) (o:Oper):Option MK:=match fnCall o with
 | some d=>W.lookup d
 | none=>(match litDst o with
  | some d=>(match W.lookup d with
   | some .a=>some .a
   | _=>none)
  | none=>none)
def bop (P:Program) (W:WS) (o:Oper) (ev:Operand→AV) (ρ:Store) (v:AV) (ρ':Store):Prop :=
 (isW W o=none∧aop P o ev ρ v ρ')∨(isW W o=some .q∧ρ'=ρ∧∀ xs,aop P o ev (ρ ++ xs) v (ρ ++ xs))∨(isW W o=some .w∧aCallW P o ev ρ v ρ')∨(isW W o=some .a∧(aCallW P o ev ρ v ρ'∨aLitO P o ev ρ v ρ')∧∃ xs,ρ'=ρ ++ xs)
theorem bop_srel {W:WS} {o:Oper} {C a w A ρ v ρ'} (hs:SRel C a w A ρ) (h:bop P W o (aev A) ρ v ρ') {K:Act→World→Prop} {Q:Exit→Act→World→Prop}
  (hK:∀ a' w',SRel C a' w' (putA A o.dst v) ρ'→K a' w') (n:Nat):o.wpIn (fz C.rd) n P a w K Q:=by
 have h:aop P o (aev A) ρ v ρ'∨aCallW P o (aev A) ρ v ρ'∨aLitO P o (aev A) ρ v ρ':=by
  rcases h with h | h | h | h
  ·exact .inl h.2
  ·obtain ⟨_,rfl,h⟩:=h
   have:=h []
   simp only [List.append_nil] at this
   exact .inl this
  ·exact .inr (.inl h.2)
  ·exact .inr h.2.1
 rcases h with h | h | h
 ·exact aop_srel hs h hK n
 ·obtain ⟨I,β,hk,h0,F',hFF,hf⟩:=hs
  exact aCallW_walk hf h K Q (fun u w' I' β' hk' hg hsr hv=>hK _ _ ⟨I',β',hk.trans (hk'.sub hFF.1),h0.trans hg,F',⟨hFF.1,(by cases o.dst <;> exact hFF.2)⟩,hg.frame hf o.dst hsr hv hk'⟩) C.rd n
 ·obtain ⟨I,β,hk,h0,F',hFF,hf⟩:=hs
  unfold aLitO at h
  split at h
  ·rename_i ho
   exact (aLitR_step ho hf h).walk K Q (fun u w' I' β' hk' hg hsr hv=>hK _ _ ⟨I',β',hk.trans (hk'.sub hFF.1),h0.trans hg,F',⟨hFF.1,(by cases o.dst <;> exact hFF.2)⟩,hg.frame hf o.dst hsr hv hk'⟩) C.rd n
  ·exact h.elim

def gval (ops:Array Oper) (A:List AV) (j:Nat):Option Bool :=
 match (ops[j]?).bind (·.dst) with
 | some d=>(match A.getD d .any with
  | .sc (.bool b)=>some b
  | _=>none)
 | none=>none

def uA:AV:=.sc undef
def gvalS (ops:Array Oper) (A:List AV) (j:Nat) (want:Bool):Option Bool :=
 match (ops[j]?).bind (·.dst) with
 | some d=>(match A.getD d .any with
  | .sc (.bool b)=>some (b == want)
  | .sc (.tuple vs)=>if vs.isEmpty then some false else none
  | _=>none)
 | none=>none
theorem gvalS_of {ops:Array Oper} {A:List AV} {j:Nat} {want b:Bool} (h:gval ops A j=some b):gvalS ops A j want=some (b == want):=by
 unfold gval at h
 unfold gvalS
 cases hd:(ops[j]?).bind (·.dst) with
 | none=>simp [hd] at h
 | some d =>
  simp only [hd] at h ⊢
  split at h
  ·rename_i b' he; cases h; simp only [he]
  ·cases h
theorem gvalS_spec {ops:Array Oper} {C a w A ρ j want b} (h:gvalS ops A j want=some b) (hs:SRel C a w A ρ):(yielded ops a.tmps j == some want)=b:=by
 unfold gvalS at h
 obtain ⟨I,β,_,_,_,_,hf⟩:=hs
 unfold yielded
 cases hd:(ops[j]?).bind (·.dst) with
 | none=>simp [hd] at h
 | some d =>
  simp only [hd] at h
  by_cases hlt:d<A.length
  ·have h1:=hf.rel d hlt
   have hlt2:d<a.tmps.size:=by rw [hf.size]; exact hlt
   have e1:a.tmps.getD d undef=a.tmps[d]:=by simp [Array.getD,hlt2]
   rw [e1] at h1
   split at h
   ·rename_i b' he
    cases h
    rw [he] at h1
    generalize hq:a.tmps[d]=q at h1
    cases h1
    cases b' <;> cases want <;> simp [hlt2,hq]
   ·rename_i vs he
    split at h
    ·cases h
     rw [he] at h1
     generalize hq:a.tmps[d]=q at h1
     cases h1
     simp [hlt2,hq]
    ·cases h
   ·cases h
  ·have:A.getD d .any=.any:=by simp [List.getD,List.getElem?_eq_none (Nat.le_of_not_lt hlt)]
   rw [this] at h
   cases h
theorem SRel.skipU {C a w A ρ} (hs:SRel C a w A ρ) (dst:Option Tmp):SRel C (a.put dst undef) w (putA A dst uA) ρ:=by
 obtain ⟨I,β,hk,h0,F',hFF,hf⟩:=hs
 exact ⟨I,β,hk,h0,F',⟨hFF.1,(by cases dst <;> exact hFF.2)⟩,hf.put0 dst (.sc _)⟩
theorem SRel.skip {C a w A ρ} (hs:SRel C a w A ρ) (dst:Option Tmp):SRel C (a.put dst undef) w (putA A dst .any) ρ:=by
 obtain ⟨I,β,hk,h0,F',hFF,hf⟩:=hs
 exact ⟨I,β,hk,h0,F',⟨hFF.1,(by cases dst <;> exact hFF.2)⟩,hf.put0 dst (.any _)⟩

def gset (ops:Array Oper) (A:List AV) (j:Nat) (b:Bool):List AV :=
 match (ops[j]?).bind (·.dst) with
 | some d=>A.set d (.sc (.bool b))
 | none=>A
theorem gset_same {ops:Array Oper} {A:List AV} {j:Nat} {b:Bool} (h:gval ops A j=some b):gset ops A j b=A:=by
 unfold gval at h
 unfold gset
 cases hd:(ops[j]?).bind (·.dst) with
 | none=>rfl
 | some d =>
  simp only [hd] at h ⊢
  split at h
  ·rename_i b' he
   cases h
   apply List.ext_getElem
   ·simp
   ·intro i h1 h2
    by_cases e:d=i
    ·subst e
     simp only [List.getElem_set_self]
     have:A.getD d .any=A[d]:=by unfold List.getD; rw [List.getElem?_eq_getElem h2]; rfl
     rw [← this,he]
    ·rw [List.getElem_set_ne e]
  ·cases h

section scope
variable {F:Fence} {n:Nat} {b:Frame} {a:Act} {k:List Item} {cs:List Frame} {w:World} {Q:Exit→Act→World→Prop}
theorem stepR_scope {c:Code}:step P (lone (b.atR a (.code (.scope c) :: k)) cs w)=.next (lone (b.atR a (.code c :: .inScope c :: k)) cs w) :=
 step_lone_go (by simp [stepG,stepG.exec,Frame.atR])
theorem stepR_inScope {c:Code}:step P (lone (b.atR a (.inScope c :: k)) cs w)=.next (lone (b.atR a k) cs w) :=
 step_lone_go (by simp [stepG,stepG.exec,Frame.atR])
theorem wpIn_scope {c:Code} (h:c.wpIn F n P (Exit.noGoto Q) a w):(Code.scope c).wpIn F n P Q a w:=by
 intro b k cs hro hb hr
 have h0:(lone (b.atR a (.code (.scope c) :: k)) cs w).fenced P F:=fenced_calm hb hr rfl
 obtain ⟨e,a₁,w₁,hq,harr⟩:=h b (.inScope c :: k) cs hro hb hr
 cases e with
 | normal=>exact ⟨.normal,a₁,w₁,hq,.head h0 stepR_scope (StepsIn.trans harr (.one (fenced_calm hb hr rfl) stepR_inScope))⟩
 | exit id' =>
  have hx:exitTo id' (.inScope c :: k)=exitTo id' k:=by simp [exitTo]
  exact ⟨.exit id',a₁,w₁,hq,fun k' hk=>.head h0 stepR_scope (harr.1 k' (by rw [hx]; exact hk)),
   fun hr' hk=>let ⟨k₁,h1,h2⟩:=harr.2 hr' (by rw [hx]; exact hk); ⟨k₁,h1,.head h0 stepR_scope h2⟩⟩
 | goto l=>exact hq.elim
 | ret=>exact ⟨_,a₁,w₁,hq,.of_steps (.one h0 stepR_scope) harr⟩
 | panic ch=>exact ⟨_,a₁,w₁,hq,.of_steps (.one h0 stepR_scope) harr⟩
 | outgrown=>exact ⟨_,a₁,w₁,hq,.of_steps (.one h0 stepR_scope) harr⟩
end scope

def wpA (P:Program) (C:Ctx) (c:Code) (Q:Exit→List AV→Store→Prop) (A:List AV) (ρ:Store):Prop :=
 ∀ a w,SRel C a w A ρ→∀ n,c.wpIn (fz C.rd) n P (fun e a' w'=>∃ A' ρ',SRel C a' w' A' ρ'∧Q e A' ρ') a w

section
variable {C:Ctx} {Q:Exit→List AV→Store→Prop} {A:List AV} {ρ:Store}

end
end Go.Lg
