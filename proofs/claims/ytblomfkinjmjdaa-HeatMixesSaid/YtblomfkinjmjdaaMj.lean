import Derived.Test.YtblomfkinjmjdaaMiMi2
set_option linter.unusedVariables false
set_option linter.unusedSimpArgs false
namespace Go.Lg
open Go.RowKit
variable {P:Program}

def toE (e:LoopV) (x:LoopE):Prop:=e.r=x.r∧e.ps=x.ps∧e.assign=x.assign∧e.body=x.body∧e.A=fL x.n x.A∧x.n≤512
def Emap (L:List LoopV) (E:List LoopE):Prop:=L.length=E.length∧∀ (k:Nat) e x,L[k]?=some e→E[k]?=some x→toE e x
theorem Emap.snoc {L E e x} (h:Emap L E) (hx:toE e x):Emap (L ++ [e]) (E ++ [x]):=by
 refine ⟨by simp [h.1],fun k e' x' h1 h2=>?_⟩
 rcases getElem?_snoc h1 with ⟨h3,h4⟩ | ⟨h3,h4⟩ <;> rcases getElem?_snoc h2 with ⟨h5,h6⟩ | ⟨h5,h6⟩
 ·exact h.2 k e' x' h4 h6
 ·have:=h.1; omega
 ·have:=h.1; omega
 ·subst h4 h6; exact hx
theorem Emap.nil:Emap [] []:=⟨rfl,fun k e x h=>by simp at h⟩

theorem DoesX.ret {L f args st ρ v st' ρ'} (h:DoesX P L f args st ρ (.ret v) st' ρ'):DoesG P L f args st ρ (fun a s r=>a=v∧s=st'∧r=ρ'):=h
def SoundC (P:Program) (call:CallF):Prop:=∀ E g args st X v st' X',(∀ x ∈ E,x.n≤512)→call E g args st X=some (v,st',X')→X.n≤512→Good X X'∧∀ L,Emap L E→DoesX P L g args st X.L v st' X'.L
def SoundY (P:Program) (yld:YieldF):Prop:=∀ E i x xs st X b st' X',(∀ x ∈ E,x.n≤512)→yld E i x xs st X=some (b,st',X')→X.n≤512→x.n≤512→Good X X'∧∀ L e,Emap L E→L[i]?=some e→toE e x→YieldG P L i e xs st X.L (fun c s ρ=>c=b∧s=st'∧ρ=X'.L)

theorem findLoop_spec {r:Nat}:∀ {E:List LoopE} {k i:Nat} {x:LoopE},findLoop r E k=some (i,x)→k≤i∧E[i - k]?=some x∧x.r=r
 | [],k,i,x,h=>by cases h
 | e :: E,k,i,x,h=>by
  unfold findLoop at h
  split at h
  ·rename_i hb
   cases h
   simp only [Nat.beq_eq] at hb
   exact ⟨Nat.le_refl _,by simp,hb⟩
  ·obtain ⟨h1,h2,h3⟩:=findLoop_spec h
   refine ⟨by omega,?_,h3⟩
   rw [show i - k=(i - (k+1))+1 by omega]; simpa using h2

section
variable {β:Type}
theorem builtinK_spec {o:Oper} {c:Call} {b:Builtin} {ev:Operand→AV} {X:RowT} {k:AV→RowT→Option β} {out} (hX:X.n≤512) (ho:o.op=.call c) (hc:c.callee=.builtin b) (h:builtinK P b c ev X k=some out):Did P o ev X k out:=by
 obtain ⟨dst,op,type,pos,after,guard⟩:=o
 simp only at ho
 subst ho
 have gen:b≠.append→(mapK ev c.args.toList fun args=>pureK (eBuiltin P b c.argTypes args) X k)=some out→Did P ⟨dst,.call c,type,pos,after,guard⟩ ev X k out:=by
  intro hb h
  rw [mapK_eq] at h
  obtain ⟨v,h1,h2⟩:=plainK_spec h
  refine ⟨v,X,?_,Good.refl hX,h2⟩
  have h1:=eBuiltin_spec h1
  simp only [aop,aCall,hc]
  cases b <;> first | exact absurd rfl hb | exact ⟨h1,trivial⟩ | exact ⟨h1,rfl⟩ | exact (show False from h1).elim
 by_cases hb:b=.append
 ·subst hb
  simp only [builtinK] at h
  split at h
  ·rename_i s x t t' ha ht
   obtain ⟨h1,h⟩:=ifB_spec h
   obtain ⟨q,hq⟩:=Option.isSome_iff_exists.1 h1
   obtain ⟨v,X',h2,h3,h4⟩:=appendK_spec hX h
   refine ⟨v,X',?_,h3,h4⟩
   simp only [aop,aCall,hc,ha,ht]
   exact ⟨⟨_,(slElem_spec hq).1⟩,h2⟩
  ·cases h
 ·by_cases hb2:b=.copy
  ·subst hb2
   simp only [builtinK] at h
   split at h
   ·rename_i d s t t' ha ht
    obtain ⟨v,X',h2,h3,h4⟩:=copyBK_spec hX h
    refine ⟨v,X',?_,h3,h4⟩
    simp only [aop,aCall,hc,ha,ht]
    exact h2
   ·cases h
  ·by_cases hb3:b=.clear
   ·subst hb3
    simp only [builtinK] at h
    split at h
    ·rename_i x t ha ht
     obtain ⟨v,X',h2,h3,h4⟩:=clearBK_spec hX h
     refine ⟨v,X',?_,h3,h4⟩
     simp only [aop,aCall,hc,ha,ht]
     exact h2
    ·cases h
   ·refine gen hb ?_
    cases b <;> first | exact absurd rfl hb | exact absurd rfl hb2 | exact absurd rfl hb3 | exact h

theorem goK_opX {call:CallF} (hC:SoundC P call) {E:List LoopE} (hE:∀ x ∈ E,x.n≤512) {n:Nat} {A:Tr AV} {o:Oper} {c:Call} {g:FuncId} {args:List AV} {st:List LS} {X:RowT} {k:AV→List LS→RowT→Option β} {kp:Value→List LS→RowT→Option β} {out}
  (hX:X.n≤512) (ho:o.op=.call c) (ht:targetOf P c (evT n A)=some (g,args)) (h:goK P call E g args st X k kp=some out) :
  (∃ v st' X',Good X X'∧k v st' X'=some out∧∀ L,Emap L E→∀ (K:AV→List LS→Store→Prop) (Kp:Exit→List LS→Store→Prop),K v st' X'.L→opX P L o K Kp st (fL n A) X.L) ∨
  (∃ x st' X',Good X X'∧kp x st' X'=some out∧∀ L,Emap L E→∀ (K:AV→List LS→Store→Prop) (Kp:Exit→List LS→Store→Prop),Kp (.panic [{ v:=x,recovered:=false }]) st' X'.L→opX P L o K Kp st (fL n A) X.L):=by
 unfold goK at h
 obtain ⟨h1,h⟩:=ifB_spec h
 split at h
 ·rename_i v st' X' hcall
  obtain ⟨hg,hd⟩:=hC _ _ _ _ _ _ _ _ hE hcall hX
  refine .inl ⟨v,st',X',hg,h,fun L hL K Kp hK=>.inr (.inl ⟨c,g,args,ho,by rw [evT_eq]; exact ht,h1,(hd L hL).ret.mono ?_⟩)⟩
  rintro a s ρ ⟨rfl,rfl,rfl⟩; exact hK
 ·rename_i x st' X' hcall
  obtain ⟨hg,hd⟩:=hC _ _ _ _ _ _ _ _ hE hcall hX
  have hd:∀ L,Emap L E→DoesP P L g args st X.L x (fun s r=>s=st'∧r=X'.L):=hd
  refine .inr ⟨x,st',X',hg,h,fun L hL K Kp hK=>.inr (.inr (.inl ⟨c,g,args,x,ho,by rw [evT_eq]; exact ht,h1,(hd L hL).mono ?_⟩))⟩
  rintro s ρ ⟨rfl,rfl⟩; exact hK
 ·cases h

theorem callK_opX {call:CallF} {yld:YieldF} (hC:SoundC P call) (hY:SoundY P yld) {E:List LoopE} (hE:∀ x ∈ E,x.n≤512) {n:Nat} {A:Tr AV} {o:Oper} {c:Call} {st:List LS} {X:RowT} {k:AV→List LS→RowT→Option β} {kp:Value→List LS→RowT→Option β} {out}
  (hX:X.n≤512) (ho:o.op=.call c) (h:callK P call yld E c (evT n A) st X k kp=some out) :
  (∃ v st' X',Good X X'∧k v st' X'=some out∧∀ L,Emap L E→∀ (K:AV→List LS→Store→Prop) (Kp:Exit→List LS→Store→Prop),K v st' X'.L→opX P L o K Kp st (fL n A) X.L) ∨
  (∃ x st' X',Good X X'∧kp x st' X'=some out∧∀ L,Emap L E→∀ (K:AV→List LS→Store→Prop) (Kp:Exit→List LS→Store→Prop),Kp (.panic [{ v:=x,recovered:=false }]) st' X'.L→opX P L o K Kp st (fL n A) X.L):=by
 unfold callK at h
 split at h
 ·rename_i b hc
  obtain ⟨v,X',h1,h2,h3⟩:=builtinK_spec (P:=P) hX ho hc h
  exact .inl ⟨v,st,X',h2,h3,fun L hL K Kp hK=>.inl ⟨v,X'.L,by rw [evT_eq]; exact h1,hK⟩⟩
 ·rename_i f hc
  rw [mapK_eq] at h
  unfold fnK at h
  split at h
  ·rename_i r hf
   split at h
   ·rename_i i e hfl
    split at h
    ·rename_i b st' X' hy
     obtain ⟨h1,h2,h3⟩:=findLoop_spec hfl
     simp only [Nat.sub_zero] at h2
     obtain ⟨hg,hyy⟩:=hY _ _ _ _ _ _ _ _ _ hE hy hX (hE _ (List.mem_of_getElem? h2))
     refine .inl ⟨_,st',X',hg,h,fun L hL K Kp hK=>?_⟩
     have hi:i<L.length:=by have:=hL.1; have:=(List.getElem?_eq_some_iff.1 h2).1; omega
     have hLi:L[i]?=some L[i]:=List.getElem?_eq_getElem hi
     have hte:=hL.2 i _ _ hLi h2
     refine .inr (.inr (.inr (.inl ⟨c,f,i,L[i],ho,hc,hLi,by rw [evT_eq,hf,hte.1,h3],?_⟩)))
     rw [evT_eq]
     obtain ⟨b1,b2,b3⟩:=hyy L _ hL hLi hte
     refine ⟨b1,b2,fun Cb hr hn' hg'=>wpG_mono (b3 Cb hr hn' hg') ?_⟩
     intro x st1 A1 ρ1 hq
     cases x with
     | normal =>
      obtain ⟨h4,h5⟩:=hq
      refine ⟨h4,wpG_mono h5 fun x st2 A2 ρ2 ⟨h6,b',s,h7,h8⟩=>⟨h6,b',s,h7,?_⟩⟩
      obtain ⟨rfl,rfl,rfl⟩:=h8; exact hK
     | _=>exact hq
    ·cases h
   ·cases h
  ·split at h
   ·rename_i g args hfn
    exact goK_opX hC hE hX ho (by unfold targetOf; simp only [hc]; exact hfn) h
   ·cases h
 ·rename_i r name hc
  split at h
  ·rename_i t v hr
   split at h
   ·rename_i g hm
    rw [mapK_eq] at h
    exact goK_opX hC hE hX ho (by unfold targetOf; simp only [hc,hr,hm]) h
   ·cases h
  ·cases h

theorem quietK_spec {call:CallF} (hC:SoundC P call) {o:Oper} {c:Call} {ev:Operand→AV} {X:RowT} {k:AV→RowT→Option β} {tgt:Option (FuncId × List AV)} {out}
  (hX:X.n≤512) (ho:o.op=.call c) (ht:tgt=targetOf P c ev) (h:quietK P call tgt X k=some out):Did P o ev X k out:=by
 unfold quietK at h
 split at h
 ·rename_i g args
  have hfn:=ht.symm
  obtain ⟨hcb,h⟩:=ifB_spec h
  have fin:∀ v,aDoesB P g args X.L v→aop P o ev X.L v X.L:=fun v hv=>aop_target ho hfn hcb hv
  split at h
  ·rename_i hp
   split at h
   ·rename_i v st' X' hcall
    split at h
    ·rename_i v' hsn
     obtain ⟨hg,hd⟩:=hC _ _ _ _ _ _ _ _ (fun x hx=>by simp at hx) hcall (by simp)
     have hd:=hd [] Emap.nil
     have hd:DoesG P [] g args [] [] (fun a s ρ=>a=v∧s=st'∧ρ=X'.L):=hd
     have hdoes:=hd.toDoes (snapE_spec (fun _ _ _ _ _=>trivial) hsn)
     exact ⟨v',X,fin v' (.inl (.inr ⟨fun j hj=>pureB_spec (allL_spec hp _ (getD_memA hj)),hdoes⟩)),Good.refl hX,h⟩
    ·cases h
   ·cases h
  ·split at h
   ·rename_i v st' n lo t hcall
    obtain ⟨hb,h⟩:=ifB_spec h
    simp only [Bool.and_eq_true,Nat.beq_eq] at hb
    obtain ⟨hlo,hn⟩:=hb
    obtain ⟨hg,hd⟩:=hC _ _ _ _ _ _ _ _ (fun x hx=>by simp at hx) hcall hX
    have hd:=hd [] Emap.nil
    have hL:(⟨n,lo,t⟩:RowT).L=X.L:=by
     have h1:=hg.L (by show X.n≤lo; omega)
     have h2:(⟨n,lo,t⟩:RowT).L.take X.n=X.L:=h1
     rw [← h2,List.take_of_length_le (by rw [RowT.length]; show n≤X.n; omega)]
    have hds:=(DoesG.toS hd.ret).mono (R':=fun x s=>x=v∧s=X.L) (fun a ρ ⟨s,h1,h2,h3⟩=>⟨h1,by rw [h3,hL]⟩)
    exact ⟨v,X,fin v (.inr hds),Good.refl hX,h⟩
   ·cases h
 ·cases h

theorem quietQ_spec {W:WS} {call:CallF} (hC:SoundC P call) {o:Oper} {c:Call} {ev:Operand→AV} {X:RowT} {k:AV→RowT→Option β} {tgt:Option (FuncId × List AV)} {out}
  (hw:isW W o=some .q) (hX:X.n≤512) (ho:o.op=.call c) (ht:tgt=targetOf P c ev) (h:quietQ P call tgt X k=some out):∃ v X',bop P W o ev X.L v X'.L∧Good X X'∧k v X'=some out:=by
 unfold quietQ at h
 split at h
 ·rename_i g args
  have hfn:=ht.symm
  obtain ⟨hcb,h⟩:=ifB_spec h
  have fin:∀ v ρ,aDoesB P g args ρ v→aop P o ev ρ v ρ:=fun v ρ hv=>aop_target ho hfn hcb hv
  split at h
  ·rename_i hp
   split at h
   ·rename_i v st' X' hcall
    split at h
    ·rename_i v' hsn
     obtain ⟨hg,hd⟩:=hC _ _ _ _ _ _ _ _ (fun x hx=>by simp at hx) hcall (by simp)
     have hd:=hd [] Emap.nil
     have hd:DoesG P [] g args [] [] (fun a s ρ=>a=v∧s=st'∧ρ=X'.L):=hd
     have hdoes:=hd.toDoes (snapE_spec (fun _ _ _ _ _=>trivial) hsn)
     exact ⟨v',X,.inr (.inl ⟨hw,rfl,fun xs=>fin v' _ (.inl (.inr ⟨fun j hj=>pureB_spec (allL_spec hp _ (getD_memA hj)),hdoes⟩))⟩),Good.refl hX,h⟩
    ·cases h
   ·cases h
  ·split at h
   ·rename_i v st' n lo t hcall
    obtain ⟨hb,h⟩:=ifB_spec h
    simp only [Bool.and_eq_true,Nat.beq_eq] at hb
    obtain ⟨⟨⟨hlo,hn⟩,hba⟩,hbr⟩:=hb
    obtain ⟨hg,hd⟩:=hC _ _ _ _ _ _ _ _ (fun x hx=>by simp at hx) hcall hX
    have hd:=hd [] Emap.nil
    have hL:(⟨n,lo,t⟩:RowT).L=X.L:=by
     have h1:=hg.L (by show X.n≤lo; omega)
     have h2:(⟨n,lo,t⟩:RowT).L.take X.n=X.L:=h1
     rw [← h2,List.take_of_length_le (by rw [RowT.length]; show n≤X.n; omega)]
    have hds:=(DoesG.toS hd.ret).mono (R':=fun x s=>x=v∧s=X.L) (fun a ρ ⟨s,h1,h2,h3⟩=>⟨h1,by rw [h3,hL]⟩)
    have hbel:∀ (r:Nat) (R:Root),X.L[r]?=some (some R)→BelL X.L.length R.els∧BelQ X.L.length R.ob:=fun r R hR=>by
     have hr:r<X.n:=by have:=(List.getElem?_eq_some_iff.1 hR).1; rwa [X.length] at this
     have e1:X.L[r]?=some (Tr.get none (path 3 r) X.t):=by simp [RowT.L,hr]
     rw [e1] at hR
     have hR:Tr.get none (path 3 r) X.t=some R:=by simpa using hR
     have:=belRows_spec hbr r (by omega) (by omega)
     rw [hR] at this
     rw [X.length]; exact belR_spec this
    exact ⟨v,X,.inr (.inl ⟨hw,rfl,fun xs=>fin v _ (.inr (hds.more xs (fun a ha=>by show Bel X.L.length a; rw [X.length]; exact belB_spec (allL_spec hba a ha)) hbel))⟩),Good.refl hX,h⟩
   ·cases h
 ·cases h
end

theorem gvalK_spec {β:Type} {ops:Array Oper} {n:Nat} {A:Tr AV} {j:Nat} {want:Bool} {yes no:Option β} {out} (h:gvalK ops (evT n A) j want yes no=some out) :
  ∃ b,gvalS ops (fL n A) j want=some b∧((b=true∧yes=some out)∨(b=false∧no=some out)):=by
 unfold gvalK at h
 unfold gvalS
 split at h
 ·rename_i d hd
  simp only [hd]
  have e:(fL n A).getD d .any=evT n A (.tmp d):=fL_get n A d
  split at h
  ·rename_i b hb
   rw [e,hb]
   refine ⟨b == want,rfl,?_⟩
   cases b <;> cases want <;> simp at h <;> simp [h]
  ·rename_i vs hb
   rw [e,hb]
   split at h
   ·rename_i hv
    simp only [hv,if_true]
    exact ⟨false,rfl,.inr ⟨rfl,h⟩⟩
   ·cases h
  ·cases h
 ·cases h

section
variable {call:CallF} {yld:YieldF} (hC:SoundC P call) (hY:SoundY P yld) {E:List LoopE} (hE:∀ x ∈ E,x.n≤512) {n:Nat} (hn:n≤512)
include hC hY hE hn

omit hn in
theorem stepO_spec {o:Oper} {st:List LS} {A:Tr AV} {X:RowT} {ih:List LS→Tr AV→RowT→OutE} {out} (hX:X.n≤512) (h:stepO P call yld E n o st A X ih=some out) :
  (∃ v st' X',Good X X'∧ih st' (putT n A o.dst v) X'=some out∧∀ L,Emap L E→∀ (K:AV→List LS→Store→Prop) (Kp:Exit→List LS→Store→Prop),K v st' X'.L→opX P L o K Kp st (fL n A) X.L) ∨
  (∃ ch st' X',out=(.panic ch,st',A,X')∧Good X X'∧∀ L,Emap L E→∀ (K:AV→List LS→Store→Prop) (Kp:Exit→List LS→Store→Prop),Kp (.panic ch) st' X'.L→opX P L o K Kp st (fL n A) X.L):=by
 unfold stepO at h
 rcases opK_spec hX h with ⟨v,X',h1,h2,h3⟩ | ⟨c,ho,h⟩ | ⟨x,ho,h⟩
 ·simp only [putTK_eq] at h3
  refine .inl ⟨v,st,X',h2,h3,fun L hL K Kp hK=>.inl ⟨v,X'.L,?_,hK⟩⟩
  rw [evT_eq]; exact h1
 ·rcases callK_opX hC hY hE hX ho h with ⟨v,st',X',h1,h2,h3⟩ | ⟨x,st',X',h1,h2,h3⟩
  ·simp only [putTK_eq] at h2
   exact .inl ⟨v,st',X',h1,h2,h3⟩
  ·simp only [Option.some.injEq] at h2
   exact .inr ⟨_,st',X',h2.symm,h1,h3⟩
 ·unfold panK at h
  split at h
  ·rename_i t y hx
   split at h
   ·rename_i v hv
    simp only [Option.some.injEq] at h
    refine .inr ⟨_,st,X,h.symm,Good.refl hX,fun L hL K Kp hK=>.inr (.inr (.inr (.inr ⟨x,t,y,v,ho,by rw [evT_eq]; exact hx,hv,hK⟩)))⟩
   ·cases h
  ·cases h

theorem evOps_sound {ops:Array Oper}:∀ {l:List Oper} {st:List LS} {A:Tr AV} {X:RowT} {x st' A' X'},evOps P call yld E n ops l st A X=some (x,st',A',X')→X.n≤512 →
  Good X X'∧∀ L,Emap L E→∀ (K:List LS→List AV→Store→Prop) (Q:Exit→List LS→List AV→Store→Prop),(x=.normal→K st' (fL n A') X'.L)→(x≠.normal→Q x st' (fL n A') X'.L)→runX P L ops l K Q st (fL n A) X.L
 | [],st,A,X,x,st',A',X',h,hX=>by
  cases h
  exact ⟨Good.refl hX,fun L hL K Q hK _=>hK rfl⟩
 | o :: l,st,A,X,x,st',A',X',h,hX=>by
  have h:(match o.guard with
   | none=>stepO P call yld E n o st A X (evOps P call yld E n ops l)
   | some (j,want)=>gvalK ops (evT n A) j want (stepO P call yld E n o st A X (evOps P call yld E n ops l)) (putTK n A o.dst uA fun A'=>evOps P call yld E n ops l st A' X))=some (x,st',A',X'):=h
  have step:stepO P call yld E n o st A X (evOps P call yld E n ops l)=some (x,st',A',X')→Good X X'∧∀ L,Emap L E→∀ (K:List LS→List AV→Store→Prop) (Q:Exit→List LS→List AV→Store→Prop),(x=.normal→K st' (fL n A') X'.L)→(x≠.normal→Q x st' (fL n A') X'.L) →
    opX P L o (fun v st' ρ'=>runX P L ops l K Q st' (putA (fL n A) o.dst v) ρ') (fun x st' ρ'=>Q x st' (fL n A) ρ') st (fL n A) X.L:=by
   intro h
   rcases stepO_spec hC hY hE hX h with ⟨v,st1,X1,h1,h2,h3⟩ | ⟨ch,st1,X1,h1,h2,h3⟩
   ·obtain ⟨h5,h6⟩:=evOps_sound (l:=l) h2 h1.ok
    refine ⟨h1.trans h5,fun L hL K Q hK hQ=>h3 L hL _ _ ?_⟩
    rw [putT_eq hn]; exact h6 L hL K Q hK hQ
   ·cases h1
    exact ⟨h2,fun L hL K Q hK hQ=>h3 L hL _ _ (hQ (by simp))⟩
  split at h
  ·rename_i hg
   obtain ⟨h2,h3⟩:=step h
   refine ⟨h2,fun L hL K Q hK hQ=>?_⟩
   unfold runX
   simp only [hg]
   exact h3 L hL K Q hK hQ
  ·rename_i j want hg
   obtain ⟨b,hb,h | h⟩:=gvalK_spec h
   ·obtain ⟨h2,h3⟩:=step h.2
    refine ⟨h2,fun L hL K Q hK hQ=>?_⟩
    unfold runX
    simp only [hg,hb]
    exact ⟨fun _=>h3 L hL K Q hK hQ,fun hw=>by rw [h.1] at hw; cases hw⟩
   ·have h7:=h.2
    simp only [putTK_eq] at h7
    obtain ⟨h5,h6⟩:=evOps_sound (l:=l) h7 hX
    refine ⟨h5,fun L hL K Q hK hQ=>?_⟩
    unfold runX
    simp only [hg,hb]
    refine ⟨fun hw=>(by rw [h.1] at hw; cases hw),fun _=>?_⟩
    rw [putT_eq hn]; exact h6 L hL K Q hK hQ

omit hY hE
omit hn in
theorem loudK_spec {β:Type} {W:WS} {o:Oper} {c:Call} {ev:Operand→AV} {X:RowT} {k:AV→RowT→Option β} {tgt:Option (FuncId × List AV)} {out} (hw:isW W o=some .w)
  (hX:X.n≤512) (ho:o.op=.call c) (ht:tgt=targetOf P c ev) (h:loudK P call tgt X k=some out):∃ v X',bop P W o ev X.L v X'.L∧Good X X'∧k v X'=some out:=by
 unfold loudK at h
 split at h
 ·rename_i g args
  have hfn:=ht.symm
  obtain ⟨hcb,h⟩:=ifB_spec h
  split at h
  ·rename_i v st' X' hcall
   obtain ⟨hg,hd⟩:=hC _ _ _ _ _ _ _ _ (fun x hx=>by simp at hx) hcall hX
   refine ⟨v,X',.inr (.inr (.inl ⟨hw,?_⟩)),hg,h⟩
   have hS:DoesS P g args X.L (fun x s=>x=v∧s=X'.L):=(hd [] Emap.nil).ret.toS.mono (fun x s hx=>by obtain ⟨q,h1,_,h2⟩:=hx; exact ⟨h1,h2⟩)
   exact aCallW_target ho hfn hcb hS
  ·cases h
 ·cases h
omit hn in
theorem makesK_spec {β:Type} {W:WS} {o:Oper} {c:Call} {ev:Operand→AV} {X:RowT} {k:AV→RowT→Option β} {tgt:Option (FuncId × List AV)} {out} (hw:isW W o=some .a)
  (hX:X.n≤512) (ho:o.op=.call c) (ht:tgt=targetOf P c ev) (h:makesK P call tgt X k=some out):∃ v X',bop P W o ev X.L v X'.L∧Good X X'∧k v X'=some out:=by
 unfold makesK at h
 split at h
 ·rename_i g args
  have hfn:=ht.symm
  obtain ⟨hcb,h⟩:=ifB_spec h
  split at h
  ·rename_i v st' n lo t hcall
   obtain ⟨hlo,h⟩:=ifB_spec h
   simp only [Nat.beq_eq] at hlo
   obtain ⟨hg,hd⟩:=hC _ _ _ _ _ _ _ _ (fun x hx=>by simp at hx) hcall hX
   have hX':(⟨X.n,X.n,X.t⟩:RowT).L=X.L:=rfl
   have hn':(⟨n,X.lo,t⟩:RowT).L=(⟨n,lo,t⟩:RowT).L:=rfl
   have hle:X.n≤n:=hg.le
   have htake:(⟨n,lo,t⟩:RowT).L.take X.n=X.L:=by
    have:=hg.L (by show X.n≤lo; omega)
    exact this
   refine ⟨v,⟨n,X.lo,t⟩,.inr (.inr (.inr ⟨hw,.inl ?_,(⟨n,lo,t⟩:RowT).L.drop X.n,by rw [hn',← htake]; exact (List.take_append_drop _ _).symm⟩)),⟨hle,Nat.le_refl _,fun r h1 h2=>hg.same r h1 (by show r<lo; omega),hg.ok⟩,h⟩
   rw [hn']
   rw [hX'] at hd
   have hS:DoesS P g args X.L (fun x s=>x=v∧s=(⟨n,lo,t⟩:RowT).L):=(hd [] Emap.nil).ret.toS.mono (fun x s hx=>by obtain ⟨q,h1,_,h2⟩:=hx; exact ⟨h1,h2⟩)
   exact aCallW_target ho hfn hcb hS
  ·cases h
 ·cases h
omit hn in
theorem stepA_spec {W:WS} {o:Oper} {A:Tr AV} {X:RowT} {ih:Tr AV→RowT→OutE} {out} (hX:X.n≤512) (h:stepA P call W n o A X ih=some out) :
  ∃ v X',bop P W o (aev (fL n A)) X.L v X'.L∧Good X X'∧ih (putT n A o.dst v) X'=some out:=by
 unfold stepA at h
 rw [evT_eq]
 split at h
 ·rename_i t len parts hl
  obtain ⟨ho,hw⟩:=litAt_some hl
  rw [mapK_eq] at h
  have e1:parts.toList.map (·.1)=(parts.toList.map fun p=>(p.1,evT n A p.2)).map (·.1):=by simp
  have e2:(parts.toList.map fun p=>evT n A p.2)=(parts.toList.map fun p=>(p.1,evT n A p.2)).map (·.2):=by simp
  rw [e1,e2] at h
  obtain ⟨v,X',h1,h2,h3,h4⟩:=litRK_spec hX h
  simp only [putTK_eq] at h4
  exact ⟨v,X',.inr (.inr (.inr ⟨hw,.inr (by unfold aLitO; rw [ho]; exact h1),h2⟩)),h3,h4⟩
 rename_i hlit
 have noW:fnCall o=none→isW W o=none:=fun h=>litAt_none h hlit
 by_cases hcl:∃ c,o.op=.call c
 ·obtain ⟨c,ho⟩:=hcl
  rw [ho] at h
  have h:callAK P call W o c (evT n A) X (fun v X'=>putTK n A o.dst v fun A'=>ih A' X')=some out:=h
  have go:∀ tgt,tgt=targetOf P c (evT n A)→goA P call W o tgt X (fun v X'=>putTK n A o.dst v fun A'=>ih A' X')=some out→∃ v X',bop P W o (evT n A) X.L v X'.L∧Good X X'∧ih (putT n A o.dst v) X'=some out:=by
   intro tgt ht h
   unfold goA at h
   split at h
   ·rename_i hw
    obtain ⟨v,X',h1,h2,h3⟩:=loudK_spec (P:=P) hC hw hX ho ht h
    simp only [putTK_eq] at h3; exact ⟨v,X',h1,h2,h3⟩
   ·rename_i hw
    obtain ⟨v,X',h1,h2,h3⟩:=makesK_spec (P:=P) hC hw hX ho ht h
    simp only [putTK_eq] at h3; exact ⟨v,X',h1,h2,h3⟩
   ·rename_i hw
    obtain ⟨v,X',h1,h2,h3⟩:=quietQ_spec hC hw hX ho ht h
    simp only [putTK_eq] at h3; exact ⟨v,X',h1,h2,h3⟩
   ·cases h
   ·rename_i hw
    obtain ⟨v,X',h1,h2,h3⟩:=quietK_spec hC hX ho ht h
    simp only [putTK_eq] at h3; exact ⟨v,X',.inl ⟨hw,h1⟩,h2,h3⟩
  unfold callAK at h
  split at h
  ·rename_i b hc
   obtain ⟨v,X',h1,h2,h3⟩:=builtinK_spec (P:=P) hX ho hc h
   simp only [putTK_eq] at h3; exact ⟨v,X',.inl ⟨noW (by unfold fnCall; simp only [ho,hc]),h1⟩,h2,h3⟩
  ·rename_i f hc
   rw [mapK_eq] at h
   exact go _ (by unfold targetOf; simp only [hc]) h
  ·rename_i r name hc
   split at h
   ·rename_i t v hr
    split at h
    ·rename_i g hm
     rw [mapK_eq] at h
     exact go _ (by unfold targetOf; simp only [hc,hr,hm]) h
    ·cases h
   ·cases h
 ·have hno:fnCall o=none:=by
   unfold fnCall
   split
   ·rename_i c ho; exact absurd ⟨c,ho⟩ hcl
   ·rfl
  rcases opK_spec hX h with ⟨v,X',h1,h2,h3⟩ | ⟨c,ho,h⟩ | ⟨x,ho,h⟩
  ·simp only [putTK_eq] at h3
   exact ⟨v,X',.inl ⟨noW hno,h1⟩,h2,h3⟩
  ·exact absurd ⟨c,ho⟩ hcl
  ·cases h

theorem evOpsA_sound {W:WS} {ops:Array Oper} {st:List LS}:∀ {l:List Oper} {A:Tr AV} {X:RowT} {x st' A' X'},evOpsA P call W n ops st l A X=some (x,st',A',X')→X.n≤512 →
  x=.normal∧st'=st∧Good X X'∧∀ K:List AV→Store→Prop,K (fL n A') X'.L→RunL P W ops K l (fL n A) X.L
 | [],A,X,x,st',A',X',h,hX=>by
  cases h
  exact ⟨rfl,rfl,Good.refl hX,fun K hK=>hK⟩
 | o :: l,A,X,x,st',A',X',h,hX=>by
  have h:(match o.guard with
   | none=>stepA P call W n o A X (evOpsA P call W n ops st l)
   | some (j,want)=>gvalK ops (evT n A) j want (stepA P call W n o A X (evOpsA P call W n ops st l)) (putTK n A o.dst uA fun A'=>evOpsA P call W n ops st l A' X))=some (x,st',A',X'):=h
  have step:stepA P call W n o A X (evOpsA P call W n ops st l)=some (x,st',A',X')→x=.normal∧st'=st∧Good X X'∧∀ K:List AV→Store→Prop,K (fL n A') X'.L→∃ v ρ',bop P W o (aev (fL n A)) X.L v ρ'∧RunL P W ops K l (putA (fL n A) o.dst v) ρ':=by
   intro h
   obtain ⟨v,X1,h1,h2,h3⟩:=stepA_spec hC hX h
   obtain ⟨h4,h5,h6,h7⟩:=evOpsA_sound (l:=l) h3 h2.ok
   refine ⟨h4,h5,h2.trans h6,fun K hK=>⟨v,X1.L,h1,?_⟩⟩
   rw [putT_eq hn]; exact h7 K hK
  split at h
  ·rename_i hg
   obtain ⟨h1,h2,h3,h4⟩:=step h
   refine ⟨h1,h2,h3,fun K hK=>?_⟩
   obtain ⟨v,ρ',h5,h6⟩:=h4 K hK
   exact ⟨v,ρ',by unfold stepV; simp only [hg]; exact h5,h6⟩
  ·rename_i j want hg
   obtain ⟨b,hb,h | h⟩:=gvalK_spec h
   ·obtain ⟨h1,h2,h3,h4⟩:=step h.2
    refine ⟨h1,h2,h3,fun K hK=>?_⟩
    obtain ⟨v,ρ',h5,h6⟩:=h4 K hK
    exact ⟨v,ρ',by unfold stepV; simp only [hg]; exact ⟨b,hb,.inl ⟨h.1,h5⟩⟩,h6⟩
   ·have h7:=h.2
    simp only [putTK_eq] at h7
    obtain ⟨h4,h5,h6,h8⟩:=evOpsA_sound (l:=l) h7 hX
    refine ⟨h4,h5,h6,fun K hK=>?_⟩
    refine ⟨uA,X.L,by unfold stepV; simp only [hg]; exact ⟨b,hb,.inr ⟨h.1,.inr trivial,trivial⟩⟩,?_⟩
    rw [putT_eq hn]; exact h8 K hK
theorem evOpsD_sound {W:WS} {ops:Array Oper} {D:DS} {st:List LS}:∀ {l:List Nat} {A:Tr AV} {X:RowT} {x st' A' X'},evOpsD P call W n ops D st l A X=some (x,st',A',X')→X.n≤512 →
  x=.normal∧st'=st∧Good X X'∧∀ K:List AV→Store→Prop,K (fL n A') X'.L→RunI P W ops D K l (fL n A) X.L
 | [],A,X,x,st',A',X',h,hX=>by
  cases h
  exact ⟨rfl,rfl,Good.refl hX,fun K hK=>hK⟩
 | i :: l,A,X,x,st',A',X',h,hX=>by
  replace h:ifB (rowB n A D ops i) (match (opAt ops i).guard with
   | none=>stepA P call W n (opAt ops i) A X (evOpsD P call W n ops D st l)
   | some (j,want)=>gvalK ops (evT n A) j want (stepA P call W n (opAt ops i) A X (evOpsD P call W n ops D st l)) (putTK n A (opAt ops i).dst uA fun A'=>evOpsD P call W n ops D st l A' X))=some (x,st',A',X'):=h
  obtain ⟨hrow,h⟩:=ifB_spec h
  have hrow:rowOK D ops i (fL n A):=by
   unfold rowB at hrow
   unfold rowOK
   split
   ·trivial
   ·rename_i r hr
    simp only [hr] at hrow
    split at hrow
    ·rename_i p hp
     split at hrow
     ·rename_i q hq
      simp only [Nat.beq_eq] at hrow
      exact ⟨p,hp,by rw [evT_eq,hq,hrow]⟩
     ·cases hrow
    ·cases hrow
  have step:stepA P call W n (opAt ops i) A X (evOpsD P call W n ops D st l)=some (x,st',A',X')→x=.normal∧st'=st∧Good X X'∧∀ K:List AV→Store→Prop,K (fL n A') X'.L→∃ v ρ',bop P W (opAt ops i) (aev (fL n A)) X.L v ρ'∧RunI P W ops D K l (putA (fL n A) (opAt ops i).dst v) ρ':=by
   intro h
   obtain ⟨v,X1,h1,h2,h3⟩:=stepA_spec hC hX h
   obtain ⟨h4,h5,h6,h7⟩:=evOpsD_sound (l:=l) h3 h2.ok
   refine ⟨h4,h5,h2.trans h6,fun K hK=>⟨v,X1.L,h1,?_⟩⟩
   rw [putT_eq hn]; exact h7 K hK
  split at h
  ·rename_i hg
   obtain ⟨h1,h2,h3,h4⟩:=step h
   refine ⟨h1,h2,h3,fun K hK=>?_⟩
   obtain ⟨v,ρ',h5,h6⟩:=h4 K hK
   exact ⟨v,ρ',⟨by unfold stepV; simp only [hg]; exact h5,hrow⟩,h6⟩
  ·rename_i j want hg
   obtain ⟨b,hb,h | h⟩:=gvalK_spec h
   ·obtain ⟨h1,h2,h3,h4⟩:=step h.2
    refine ⟨h1,h2,h3,fun K hK=>?_⟩
    obtain ⟨v,ρ',h5,h6⟩:=h4 K hK
    exact ⟨v,ρ',⟨by unfold stepV; simp only [hg]; exact ⟨b,hb,.inl ⟨h.1,h5⟩⟩,hrow⟩,h6⟩
   ·have h7:=h.2
    simp only [putTK_eq] at h7
    obtain ⟨h4,h5,h6,h8⟩:=evOpsD_sound (l:=l) h7 hX
    refine ⟨h4,h5,h6,fun K hK=>?_⟩
    refine ⟨uA,X.L,⟨by unfold stepV; simp only [hg]; exact ⟨b,hb,.inr ⟨h.1,.inr trivial,trivial⟩⟩,hrow⟩,?_⟩
    rw [putT_eq hn]; exact h8 K hK
end
end Go.Lg
