import Derived.Test.YtpdcajchppoocaaC1
import Derived.Test.YtpdcajchppoocaaC2
set_option linter.unusedVariables false
set_option linter.unusedSimpArgs false
namespace Go.Lg
open Go.RowKit
variable {P:Program}

structure Ghost where
 S:Type
 /-- blocks that are only read,by all -/
 J:Nat→Prop
 D:S→(Nat→Prop)→World→Prop
 lt:∀ {s M w},D s M w→∀ b,M b→b<w.heap.size
 keep:∀ {s M w w'},D s M w→Keeps M w w'→(∀ b o,(cellf w b o).isSome=true→(cellf w' b o).isSome=true)→D s M w'
 /-- the block of the loop that is yielded to -/
 y:Option Nat
def Ghost.stat (Γ:Ghost) (n0:Nat) (β0:Nat→Option Loc):Prop:=∀ l,Γ.y=some l→0<n0∧∃ loc,β0 0=some loc∧loc.b=l
theorem Ghost.stat.stat_mono {Γ:Ghost} {n m:Nat} {β β':Nat→Option Loc} (h:Γ.stat n β) (hn:n≤m) (hβ:∀ r,r<n→β' r=β r):Γ.stat m β':=fun l hl=>by
 obtain ⟨h1,loc,h2,h3⟩:=h l hl
 exact ⟨by omega,loc,by rw [hβ 0 h1,h2],h3⟩
def noGhost:Ghost:=⟨Unit,fun _=>False,fun _ M _=>∀ b,¬ M b,fun h b hb=>(h b hb).elim,fun h _ _=>h,none⟩

structure HC where
 C:Ctx
 M0:Nat→Prop
def HC.rdOK (H:HC):Prop:=∀ l0,H.C.rd=some l0→H.C.F l0∧∃ r0,H.C.w0.heap[l0]?=some (.loop r0)
structure GRel (H:HC) (Γ:Ghost) (s:Γ.S) (I F' M:Nat→Prop) (a:Act) (w:World):Prop where
 sub:∀ b,M b→F' b
 off:∀ b,H.C.F b→¬ M b
 rd:∀ b,I b→Γ.J b∨¬ M b
 up:∀ b,H.M0 b→M b
 new:∀ b,M b→H.M0 b∨H.C.g0.heap.size≤b
 dfs:∀ D,D ∈ marks a.defers→¬ M D
 d:Γ.D s M w
def SRelH (H:HC) (Γ:Ghost) (s:Γ.S) (a:Act) (w:World) (A:List AV) (ρ:Store):Prop :=
 (Γ.stat H.C.n0 H.C.β0∧H.rdOK)∧∃ I β M,Keeps H.C.F H.C.w0 w∧Grow H.C.g0 w H.C.I0 I H.C.n0 ρ.length H.C.β0 β∧∃ F',((∀ b,H.C.F b→F' b)∧H.C.M a.defers)∧GRel H Γ s I F' M a w∧FRel w F' I β a A ρ

theorem Grow.mid {g w w':World} {I0 I I':Nat→Prop} {n0 n n':Nat} {β0 β β':Nat→Option Loc} (h:Grow g w I0 I n0 n β0 β) (k:Grow w w' I I' n0 n' β0 β'):Grow g w' I0 I' n0 n' β0 β' :=
 ⟨fun b o x hb hx=>k.hc b o x (h.hI b hb) (h.hc b o x hb hx),fun b o hx=>k.hs b o (h.hs b o hx),fun b hb=>k.hI b (h.hI b hb),k.hN,k.hβ,
  fun b hb=>(k.hI2 b hb).elim (fun h1=>h.hI2 b h1) (fun h1=>.inr (Nat.le_trans h.hz h1)),Nat.le_trans h.hz k.hz⟩

theorem SRelH.open {H:HC} {Γ:Ghost} {s:Γ.S} {a w A ρ} (hs:SRelH H Γ s a w A ρ):∃ C':Ctx,(C'.rd=H.C.rd∧C'.n0=H.C.n0)∧SRel C' a w A ρ∧∀ a' w' A' ρ',SRel C' a' w' A' ρ'→SRelH H Γ s a' w' A' ρ':=by
 obtain ⟨hst,I,β,M,hk,h0,F',⟨hF,hM⟩,hg,hf⟩:=hs
 refine ⟨⟨F',I,w,w,H.C.rd,H.C.rg,fun l=>H.C.M l∧∀ D,D ∈ marks l→¬ M D,fun hr D l hD h=>⟨H.C.up hr D l (Nat.le_trans hk.size hD) h.1,fun E hE=>?_⟩,H.C.n0,H.C.β0⟩,⟨rfl,rfl⟩,
  ⟨I,β,Keeps.refl _ _,⟨fun _ _ _ _ h=>h,fun _ _ h=>h,fun _ h=>h,h0.hN,h0.hβ,fun _ h=>.inl h,Nat.le_refl _⟩,F',⟨fun _ h=>h,hM,hg.dfs⟩,hf⟩,?_⟩
 ·have hE:E=D∨E ∈ marks l:=by
   have:marks (dmark D :: l)=D :: marks l:=rfl
   rw [this] at hE; exact List.mem_cons.1 hE
  rcases hE with rfl | hE
  ·intro hm; have:=Γ.lt hg.d _ hm; omega
  ·exact h.2 E hE
 ·rintro a' w' A' ρ' ⟨I',β',hk',h0',F2,⟨hF2,hM2,hd2⟩,hf'⟩
  refine ⟨hst,I',β',M,hk.trans (hk'.sub hF),h0.mid h0',F2,⟨fun b hb=>hF2 b (hF b hb),hM2⟩,⟨fun b hb=>hF2 b (hg.sub b hb),hg.off,fun b hb=>?_,hg.up,hg.new,hd2,Γ.keep hg.d (hk'.sub hg.sub) h0'.hs⟩,hf'⟩
  rcases h0'.hI2 b hb with h | h
  ·exact hg.rd b h
  ·right; intro hm; have:=Γ.lt hg.d _ hm; have h:w.heap.size≤b:=h; omega

def wpH (P:Program) (H:HC) (Γ:Ghost) (c:Code) (Q:Exit→Γ.S→List AV→Store→Prop) (s:Γ.S) (A:List AV) (ρ:Store):Prop :=
 ∀ a w,SRelH H Γ s a w A ρ→∀ n,c.wpIn (fz H.C.rd) n P (fun e a' w'=>∃ s' A' ρ',SRelH H Γ s' a' w' A' ρ'∧Q e s' A' ρ') a w
def thenH {S:Type} (K:S→List AV→Store→Prop) (Q:Exit→S→List AV→Store→Prop):Exit→S→List AV→Store→Prop
 | .normal,s,A,ρ=>K s A ρ
 | e,s,A,ρ=>Q e s A ρ
def inBlockH {S:Type} (id:Nat) (Q:Exit→S→List AV→Store→Prop):Exit→S→List AV→Store→Prop
 | .exit id',s,A,ρ=>if id'=id then Q .normal s A ρ else Q (.exit id') s A ρ
 | e,s,A,ρ=>Q e s A ρ
def noGotoH {S:Type} (Q:Exit→S→List AV→Store→Prop):Exit→S→List AV→Store→Prop
 | .goto _,_,_,_=>False
 | e,s,A,ρ=>Q e s A ρ

section
variable {H:HC} {Γ:Ghost} {Q:Exit→Γ.S→List AV→Store→Prop} {s:Γ.S} {A:List AV} {ρ:Store}

theorem wpH_lift {c:Code} (h:∀ C',C'.rd=H.C.rd∧C'.n0=H.C.n0→wpA P C' c (fun e A ρ=>Q e s A ρ) A ρ):wpH P H Γ c Q s A ρ:=by
 intro a w hs n
 obtain ⟨C',hC,h1,h2⟩:=hs.open
 have:=h C' hC a w h1 n
 rw [hC.1] at this
 exact wpIn_mono this (fun e a' w' ⟨A',ρ',hs',hq⟩=>⟨s,A',ρ',h2 _ _ _ _ hs',hq⟩)
theorem wpH_seq {x y:Code} (h:wpH P H Γ x (thenH (wpH P H Γ y Q) Q) s A ρ):wpH P H Γ (.seq x y) Q s A ρ:=by
 intro a w hs n
 refine wpIn_seq (wpIn_mono (h a w hs n) ?_)
 rintro e a' w' ⟨s',A',ρ',hs',hq⟩
 cases e with
 | normal=>exact hq a' w' hs' n
 | _=>exact ⟨s',A',ρ',hs',hq⟩
theorem wpH_skip (h:Q .normal s A ρ):wpH P H Γ .skip Q s A ρ:=fun a w hs n=>wpIn_skip ⟨s,A,ρ,hs,h⟩
theorem wpH_ret (h:Q .ret s A ρ):wpH P H Γ .ret Q s A ρ:=fun a w hs n=>wpIn_ret ⟨s,A,ρ,hs,h⟩
theorem wpH_exit {id:Nat} (h:Q (.exit id) s A ρ):wpH P H Γ (.exit id) Q s A ρ:=fun a w hs n=>wpIn_exit ⟨s,A,ρ,hs,h⟩
theorem wpH_label {l:Nat} (h:Q .normal s A ρ):wpH P H Γ (.label l) Q s A ρ:=fun a w hs n=>wpIn_label ⟨s,A,ρ,hs,h⟩
theorem wpH_block {id:Nat} {c:Code} (h:wpH P H Γ c (inBlockH id Q) s A ρ):wpH P H Γ (.block id c) Q s A ρ:=by
 intro a w hs n
 refine wpIn_block (wpIn_mono (h a w hs n) ?_)
 rintro e a' w' ⟨s',A',ρ',hs',hq⟩
 cases e with
 | exit id' =>
  simp only [inBlockH] at hq
  simp only [Exit.inBlock]
  split
  ·rename_i he; rw [if_pos he] at hq; exact ⟨s',A',ρ',hs',hq⟩
  ·rename_i he; rw [if_neg he] at hq; exact ⟨s',A',ρ',hs',hq⟩
 | _=>exact ⟨s',A',ρ',hs',hq⟩
theorem wpH_scope {c:Code} (h:wpH P H Γ c (noGotoH Q) s A ρ):wpH P H Γ (.scope c) Q s A ρ:=by
 intro a w hs n
 refine wpIn_scope (wpIn_mono (h a w hs n) ?_)
 rintro e a' w' ⟨s',A',ρ',hs',hq⟩
 cases e with
 | goto l=>exact hq.elim
 | _=>exact ⟨s',A',ρ',hs',hq⟩
theorem SRelH.evalBool {a w} (hs:SRelH H Γ s a w A ρ) {c:Operand} {b:Bool} (hb:aev A c=.sc (.bool b)):a.eval c=.bool b:=by
 obtain ⟨_,I,β,M,_,_,_,_,_,hfr⟩:=hs
 have:=hfr.eval c
 rw [hb] at this
 generalize a.eval c=v at this
 cases this; rfl
theorem wpH_cond {c:Operand} {x y:Code} {b:Bool} (hb:aev A c=.sc (.bool b)) (ht:b=true→wpH P H Γ x Q s A ρ) (hf:b=false→wpH P H Γ y Q s A ρ):wpH P H Γ (.cond c x y) Q s A ρ:=by
 intro a w hs n
 exact wpIn_cond_split (hs.evalBool hb) (fun h=>ht h a w hs n) (fun h=>hf h a w hs n)
theorem wpH_mono {c:Code} {Q':Exit→Γ.S→List AV→Store→Prop} (h:wpH P H Γ c Q s A ρ) (hq:∀ e s A ρ,Q e s A ρ→Q' e s A ρ):wpH P H Γ c Q' s A ρ :=
 fun a w hs n=>wpIn_mono (h a w hs n) (fun e a' w' ⟨s',A',ρ',hs',hq'⟩=>⟨s',A',ρ',hs',hq _ _ _ _ hq'⟩)
theorem SRelH.weaken {A':List AV} {ρ':Store} (h:∀ C' a w,C'.rd=H.C.rd∧C'.n0=H.C.n0→SRel C' a w A ρ→SRel C' a w A' ρ') {a w} (hs:SRelH H Γ s a w A ρ):SRelH H Γ s a w A' ρ':=by
 obtain ⟨C',hC,h1,h2⟩:=hs.open
 exact h2 _ _ _ _ (h C' a w hC h1)
theorem wpH_loop {c:Code} (Inv:Nat→Γ.S→List AV→Store→Prop) (n0:Nat) (s0:Γ.S) (A0:List AV) (ρ0:Store) (hw:∀ a w,SRelH H Γ s a w A ρ→SRelH H Γ s0 a w A0 ρ0) (h0:Inv n0 s0 A0 ρ0)
  (round:∀ n s A ρ,Inv n s A ρ→wpH P H Γ c (thenH (fun s' A' ρ'=>∃ m s'' A'' ρ'',m<n∧(∀ a w,SRelH H Γ s' a w A' ρ'→SRelH H Γ s'' a w A'' ρ'')∧Inv m s'' A'' ρ'') Q) s A ρ):wpH P H Γ (.loop c) Q s A ρ:=by
 intro a w hs nn
 have hI:∀ a w,(∃ n s A ρ,SRelH H Γ s a w A ρ∧Inv n s A ρ)→∃ n,(∃ s A ρ,SRelH H Γ s a w A ρ∧Inv n s A ρ)∧∀ m,(∃ s A ρ,SRelH H Γ s a w A ρ∧Inv m s A ρ)→n≤m:=by
  rintro a w ⟨n,s,A,ρ,h1,h2⟩
  induction n using Nat.strongRecOn generalizing s A ρ with
  | _ n ih =>
   by_cases h:∃ m,m<n∧∃ s A ρ,SRelH H Γ s a w A ρ∧Inv m s A ρ
   ·obtain ⟨m,hm,s',A',ρ',h3,h4⟩:=h
    exact ih m hm s' A' ρ' h3 h4
   ·exact ⟨n,⟨s,A,ρ,h1,h2⟩,fun m hm=>Nat.le_of_not_lt (fun hlt=>h ⟨m,hlt,hm⟩)⟩
 let μ:Act→World→Nat:=fun a w=>open Classical in if h:∃ n s A ρ,SRelH H Γ s a w A ρ∧Inv n s A ρ then (hI a w h).choose else 0
 have hμ:∀ a w (h:∃ n s A ρ,SRelH H Γ s a w A ρ∧Inv n s A ρ),(∃ s A ρ,SRelH H Γ s a w A ρ∧Inv (μ a w) s A ρ)∧∀ m,(∃ s A ρ,SRelH H Γ s a w A ρ∧Inv m s A ρ)→μ a w≤m:=by
  intro a w h
  have:μ a w=(hI a w h).choose:=by simp only [μ]; rw [dif_pos h]
  rw [this]; exact (hI a w h).choose_spec
 refine wpIn_loop (fun a w=>∃ n s A ρ,SRelH H Γ s a w A ρ∧Inv n s A ρ) μ ⟨n0,s0,A0,ρ0,hw a w hs,h0⟩ ?_
 intro a w hi
 obtain ⟨⟨s1,A1,ρ1,h1,h2⟩,_⟩:=hμ a w hi
 refine wpIn_mono (round _ s1 A1 ρ1 h2 a w h1 nn) ?_
 rintro e a' w' ⟨s',A',ρ',hs',hq⟩
 cases e with
 | normal =>
  obtain ⟨m,s'',A'',ρ'',hm,hw',hi'⟩:=hq
  have hi2:∃ n s A ρ,SRelH H Γ s a' w' A ρ∧Inv n s A ρ:=⟨m,s'',A'',ρ'',hw' a' w' hs',hi'⟩
  exact ⟨hi2,Nat.lt_of_le_of_lt ((hμ a' w' hi2).2 m ⟨s'',A'',ρ'',hw' a' w' hs',hi'⟩) hm⟩
 | _=>exact ⟨s',A',ρ',hs',hq⟩
end

def DoesH (P:Program) (Γ:Ghost) (f:FuncId) (args:List AV) (s:Γ.S) (ρ:Store) (R:AV→Γ.S→Store→Prop):Prop :=
 ∀ (w:World) (F I M:Nat→Prop) (β:Nat→Option Loc) (vals:Array Value),SR w F I β ρ→(∀ b,M b→F b)→(∀ b,I b→Γ.J b∨¬ M b)→Γ.D s M w→Γ.stat ρ.length β→RelL (cellf w) I ρ.length β args vals.toList →
  Calls P f vals w fun e w'=>∃ u v s' ρ' I' β' M',e=.returned u∧R v s' ρ'∧Keeps (fun b=>F b∧¬ M b) w w'∧Grow w w' I I' ρ.length ρ'.length β β'∧SR w' (fun b=>F b∨M' b) I' β' ρ' ∧
   (∀ b,M b→M' b)∧(∀ b,M' b→M b∨w.heap.size≤b)∧(∀ b,I' b→Γ.J b∨¬ M' b)∧Γ.D s' M' w'∧Rel (cellf w') I' ρ'.length β' v u
def DoesA (zf:Bool) (P:Program) (Γ:Ghost) (f:FuncId) (args:List AV) (s:Γ.S) (ρ:Store) (R:AV→Γ.S→Store→Prop):Prop :=
 ∀ (w:World) (F I M:Nat→Prop) (β:Nat→Option Loc) (vals:Array Value),(zf=true→∀ b,b<w.heap.size→F b∧¬ M b)→SR w F I β ρ→(∀ b,M b→F b)→(∀ b,I b→Γ.J b∨¬ M b)→Γ.D s M w→Γ.stat ρ.length β→RelL (cellf w) I ρ.length β args vals.toList →
  Calls P f vals w fun e w'=>∃ u v s' ρ' I' β' M',e=.returned u∧R v s' ρ'∧Keeps (fun b=>F b∧¬ M b) w w'∧Grow w w' I I' ρ.length ρ'.length β β'∧SR w' (fun b=>F b∨M' b) I' β' ρ' ∧
   (∀ b,M b→M' b)∧(∀ b,M' b→M b∨w.heap.size≤b)∧(∀ b,I' b→Γ.J b∨¬ M' b)∧Γ.D s' M' w'∧Rel (cellf w') I' ρ'.length β' v u
theorem DoesA.toH {Γ:Ghost} {f args s ρ} {R:AV→Γ.S→Store→Prop} (h:DoesA false P Γ f args s ρ R):DoesH P Γ f args s ρ R :=
 fun w F I M β vals=>h w F I M β vals (fun e=>nomatch e)
theorem DoesH.mono {Γ:Ghost} {f args s ρ} {R R':AV→Γ.S→Store→Prop} (h:DoesH P Γ f args s ρ R) (hR:∀ v s ρ,R v s ρ→R' v s ρ):DoesH P Γ f args s ρ R' :=
 fun w F I M β vals h1 h2 h3 h4 h5 h6=>(h w F I M β vals h1 h2 h3 h4 h5 h6).mono fun e w' ⟨u,v,s',ρ',I',β',M',he,hr,h⟩=>⟨u,v,s',ρ',I',β',M',he,hR _ _ _ hr,h⟩

theorem Marked.ghost {w w' F F' I I' N N' β β' a} {M:Nat→Prop} (h:Marked w F I a) (hd:∀ D,D ∈ marks a.defers→¬ M D) (hk:Keeps (fun b=>F b∧¬ M b) w w') (g:Grow w w' I I' N N' β β') (hF:∀ b,F b→F' b):Marked w' F' I' a:=by
 obtain ⟨Ds,h1,h2,h3⟩:=h
 refine ⟨Ds,h1,h2,fun D hD=>?_⟩
 obtain ⟨a1,a2,a3⟩:=h3 D hD
 have hlt:D<w.heap.size:=(Array.getElem?_eq_some_iff.1 a3).1
 exact ⟨hF _ a1,fun hi=>(g.hI2 D hi).elim a2 (fun h=>Nat.lt_irrefl _ (Nat.lt_of_lt_of_le hlt h)),(hk.block D ⟨a1,hd D (h2 ▸ hD)⟩).trans a3⟩

section
variable {H:HC} {Γ:Ghost} {s:Γ.S} {A:List AV} {ρ:Store}

theorem aop_srelH {o:Oper} {a w v ρ'} (hs:SRelH H Γ s a w A ρ) (h:aop P o (aev A) ρ v ρ') {K:Act→World→Prop} {Q:Exit→Act→World→Prop}
  (hK:∀ a' w',SRelH H Γ s a' w' (putA A o.dst v) ρ'→K a' w') (n:Nat):o.wpIn (fz H.C.rd) n P a w K Q:=by
 obtain ⟨C',hC,h1,h2⟩:=hs.open
 have:=aop_srel (Q:=Q) h1 h (fun a' w' hs'=>hK a' w' (h2 _ _ _ _ hs')) n
 rwa [hC.1] at this

theorem hcall_srelH {o:Oper} {c:Call} {f:Operand} {g:FuncId} {args:List AV} {R:AV→Γ.S→Store→Prop} {a w} (hs:SRelH H Γ s a w A ρ) (ho:o.op=.call c) (hc:c.callee=.value f)
  (hf:fnOf (aev A f) (c.args.toList.map (aev A))=some (g,args)) (hcb:callable P g=true) (hd:DoesH P Γ g args s ρ R) {K:Act→World→Prop} {Q:Exit→Act→World→Prop}
  (hK:∀ v s' ρ' a' w',R v s' ρ'→SRelH H Γ s' a' w' (putA A o.dst v) ρ'→K a' w') (n:Nat):o.wpIn (fz H.C.rd) n P a w K Q:=by
 obtain ⟨hst,I,β,M,hk,h0,F',⟨hF,hM⟩,hg,hfr⟩:=hs
 obtain ⟨vals,hrun,hrel⟩:=fnOf_run (P:=P) hfr ho hc hf hcb
 refine Oper.wpIn_enter hrun (hd w F' I M β vals hfr.sr hg.sub hg.rd hg.d (Ghost.stat.stat_mono hst.1 h0.hN h0.hβ) hrel) ?_
 rintro e w' ⟨u,v,s',ρ',I',β',M',rfl,hR,hk',hg',hsr,m1,m2,m3,m4,hv⟩
 have hmk:marks (a.put o.dst u).defers=marks a.defers:=by cases o.dst <;> rfl
 have dM':∀ D,D ∈ marks a.defers→¬ M' D:=fun D hD hm=>by
  rcases m2 D hm with h | h
  ·exact hg.dfs D hD h
  ·obtain ⟨Ds,_,h2,h3⟩:=hfr.df
   have:=(Array.getElem?_eq_some_iff.1 (h3 D (h2 ▸ hD)).2.2).1
   omega
 refine ⟨u,rfl,hK v s' ρ' _ w' hR ⟨hst,I',β',M',hk.trans (hk'.sub fun b hb=>⟨hF b hb,hg.off b hb⟩),h0.trans hg',fun b=>F' b∨M' b,⟨fun b hb=>.inl (hF b hb),(by cases o.dst <;> exact hM)⟩,
  ⟨fun b hb=>.inr hb,fun b hb hm=>?_,m3,fun b hb=>m1 b (hg.up b hb),fun b hb=>?_,by rw [hmk]; exact dM',m4⟩,hfr.putM o.dst hg' hsr (hfr.df.ghost hg.dfs hk' hg' fun _ h=>.inl h) hv⟩⟩
 ·rcases m2 b hm with h | h
  ·exact hg.off b hb h
  ·have:=hfr.sr.flt b (hF b hb); omega
 ·rcases m2 b hb with h | h
  ·exact hg.new b h
  ·exact .inr (Nat.le_trans h0.hz h)
end
end Go.Lg

namespace Go.Lg
open Go.RowKit
variable {P:Program}

theorem cellf_same {w w':World} {b:Nat} (h:w'.heap[b]?=w.heap[b]?) (k:Nat):cellf w' b k=cellf w b k:=by
 simp only [cellf,World.cell?,h]
theorem frozen_same {w w':World} {b:Nat} (h:w'.heap[b]?=w.heap[b]?) (k:Nat):w'.frozen? ⟨b,k,none⟩=w.frozen? ⟨b,k,none⟩:=by
 simp only [World.frozen?,h]
theorem SR.over {w w':World} {F F' I:Nat→Prop} {β:Nat→Option Loc} {ρ:Store} (hs:SR w F I β ρ) (hb:∀ r R l,ρ[r]?=some (some R)→β r=some l→w'.heap[l.b]?=w.heap[l.b]?)
  (hz:w.heap.size≤w'.heap.size) (hI:∀ b o x,I b→cellf w b o=some x→cellf w' b o=some x) (hc:∀ b o,(cellf w b o).isSome=true→(cellf w' b o).isSome=true)
  (hF:∀ b,F' b→b<w'.heap.size) (hn:∀ r R l,ρ[r]?=some (some R)→β r=some l→¬ F' l.b):SR w' F' I β ρ:=by
 have mv:∀ {a:AV} {v:Value},Rel (cellf w) I ρ.length β a v→Rel (cellf w') I ρ.length β a v:=fun h=>h.mono hI hc (fun _ h=>h) (Nat.le_refl _) (fun _ _=>rfl)
 constructor
 ·intro r R l h1 h2
  obtain ⟨a1,a2,a3,a4⟩:=hs.real r R l h1 h2
  exact ⟨a1,by omega,a3,hn r R l h1 h2⟩
 ·intro r R l h1 h2 i hi
  obtain ⟨b1,b2⟩:=hs.cells r R l h1 h2 i hi
  refine ⟨b1,fun j hj=>?_⟩
  obtain ⟨v,h3,h4⟩:=b2 j hj
  exact ⟨v,by rw [cellf_same (hb r R l h1 h2)]; exact h3,mv h4⟩
 ·exact hs.phantom
 ·exact hs.inj
 ·intro b h; have:=hs.ilt b h; omega
 ·exact hF
 ·intro r R l h1 h2 o; rw [frozen_same (hb r R l h1 h2)]; exact hs.thaw r R l h1 h2 o
 ·intro r R o h1 h2
  obtain ⟨e,l,x,h3,h4,h5⟩:=hs.obs r R o h1 h2
  exact ⟨e,l,x,h3,by rw [hb r R l h1 h3]; exact h4,h5.mono fun a v=>mv⟩

section
variable {H:HC} {Γ:Ghost} {s:Γ.S} {A:List AV} {ρ:Store}
theorem DoesA.of {zf:Bool} {f:FuncId} {fn:Func} {c:Code} {args:List AV} {R:AV→Γ.S→Store→Prop} (hf:P.funcs[f]?=some fn) (hb:fn.body=some c)
  (h:∀ H:HC,H.C.rd=none→H.C.n0=ρ.length→H.C.rg=true→(zf=true→H.C.own)→wpH P H Γ c (fun e s' A' ρ'=>(e=.normal∨e=.ret)∧∃ A'' ρ'' vs,(∀ a w,SRelH H Γ s' a w A' ρ'→SRelH H Γ s' a w A'' ρ'')∧resA P A'' ρ'' fn.results.toList vs∧R (one? vs) s' ρ'') s (args ++ List.replicate (fn.ntmps - args.length) .any) ρ) :
  DoesA zf P Γ f args s ρ R:=by
 intro w F I M β vals hz hsr0 hMF hIJ hD hst hrel
 refine (callsIn_wide (n:=0)).1 (callsIn_of_wp_marks (F:=Fence.wide) (n:=0) hf hb trivial ?_ rfl)
 have hlen:vals.size=args.length:=by simpa using hrel.1
 let H:HC:=⟨⟨fun b=>F b∧¬ M b,I,w,w,none,true,preM w.heap.size [],fun _ D l=>preM_up D l,ρ.length,β⟩,M⟩
 have hs:SRelH H Γ s { tmps:=vals ++ Array.replicate (fn.ntmps - vals.size) undef,defers:=[] } w (args ++ List.replicate (fn.ntmps - args.length) .any) ρ:=by
  refine ⟨⟨hst,fun l0 hl=>by cases hl⟩,I,β,M,Keeps.refl _ _,Grow.refl _ _ _ _,F,⟨fun b hb=>hb.1,preM_refl _ _⟩,⟨hMF,fun b hb=>hb.2,hIJ,fun _ h=>h,fun _ h=>.inl h,fun D hD=>(by cases hD),hD⟩,⟨hsr0,⟨[],List.nodup_nil,rfl,by simp⟩,by simp [hlen],fun i hi=>?_⟩⟩
  by_cases h1:i<args.length
  ·rw [getD_app_left _ _ _ _ h1]
   have:=hrel.2 i h1
   have h2:i<vals.size:=by omega
   have e:(vals ++ Array.replicate (fn.ntmps - vals.size) undef).getD i undef=vals.toList.getD i undef:=by
    have h3:i<(vals ++ Array.replicate (fn.ntmps - vals.size) undef).size:=by simp; omega
    simp only [Array.getD,h3,dif_pos,List.getD]
    rw [List.getElem?_eq_getElem (by simpa using h2)]
    simp [Array.getElem_append_left h2]
   rw [e]; exact this
  ·have:(args ++ List.replicate (fn.ntmps - args.length) AV.any).getD i .any=.any:=by
    rw [getD_app_right _ _ _ _ (by omega)]
    unfold List.getD
    by_cases h2:i - args.length<fn.ntmps - args.length
    ·simp [h2]
    ·rw [List.getElem?_eq_none (by simp; omega)]; rfl
   rw [this]; exact .any _
 refine wpIn_mono (h H rfl rfl rfl hz _ w hs 0) ?_
 rintro e a' w' ⟨s',A0,ρ0,hs0,he,A',ρ',vs,hwk,hvs,hR⟩
 obtain ⟨_,I',β',M',hk,h0,F',⟨hF1,hF2⟩,hg,hf'⟩:=hwk _ _ hs0
 obtain ⟨Ds,hnd,hdef,hDs⟩:=hf'.df
 have hdfs:∀ D,D ∈ Ds→¬ M' D:=fun D hD=>hg.dfs D (hdef ▸ hD)
 obtain ⟨hdef,hge⟩:=preM_nil hF2 hdef
 have hsub:∀ b,F b∨M' b→F' b:=fun b hb=>by
  rcases hb with hb | hb
  ·by_cases hm:M b
   ·exact hg.sub b (hg.up b hm)
   ·exact hF1 b ⟨hb,hm⟩
  ·exact hg.sub b hb
 have hfin:LeavesInM Fence.wide 0 P fn a'.tmps (fun e w'=>∃ u v s' ρ' I' β' M',e=.returned u∧R v s' ρ'∧Keeps (fun b=>F b∧¬ M b) w w'∧Grow w w' I I' ρ.length ρ'.length β β'∧SR w' (fun b=>F b∨M' b) I' β' ρ' ∧
   (∀ b,M b→M' b)∧(∀ b,M' b→M b∨w.heap.size≤b)∧(∀ b,I' b→Γ.J b∨¬ M' b)∧Γ.D s' M' w'∧Rel (cellf w') I' ρ'.length β' v u) a'.defers .returning w':=by
  rw [hdef]
  refine leaves_marks Ds w' hnd (fun D hD=>(hDs D hD).2.2) (fun w2 e1 e2 e3 e4 e5 e6 e7=>?_)
  obtain ⟨hsr2,hrel2⟩:=hf'.marks (G:=F') (fun _ h=>h) e4 e6 e7 (fun b hb=>e5 b fun hD=>hb (hDs b hD).1)
  have hf2:FRel w2 F' I' β' { a' with defers:=[] } A' ρ':=⟨hsr2,⟨[],List.nodup_nil,rfl,by simp⟩,hf'.size,hrel2⟩
  obtain ⟨u,hu,hru⟩:=results_run (P:=P) hf2 hvs
  have hg2:Grow w' w2 I' I' ρ'.length ρ'.length β' β':=⟨fun b o x _ hx=>by rw [e6]; exact hx,fun b o hx=>by rw [e6]; exact hx,fun _ h=>h,Nat.le_refl _,fun _ _=>rfl,fun _ h=>.inl h,by rw [e4]; exact Nat.le_refl _⟩
  have hold:∀ b,F b→w2.heap[b]?=w'.heap[b]?:=fun b hb=>e5 b (fun hD=>Nat.lt_irrefl _ (Nat.lt_of_lt_of_le (hsr0.flt b hb) (hge b hD)))
  refine ⟨u,hu,u,one? vs,s',ρ',I',β',M',rfl,hR,⟨e1.trans hk.os,e2.trans hk.tape,e3.trans hk.output,by rw [e4]; exact hk.size,fun b hb=>(hold b hb.1).trans (hk.block b hb)⟩,h0.trans hg2,?_,hg.up,fun b hb=>hg.new b hb,hg.rd,?_,hru⟩
  ·refine hsr2.foreign (fun b hb=>?_) (fun r R l h1 h2 hb=>(hsr2.real r R l h1 h2).2.2.2 (hsub _ hb))
   rcases hb with hb | hb
   ·exact Nat.lt_of_lt_of_le (hsr0.flt b hb) (by rw [e4]; exact hk.size)
   ·rw [e4]; exact Γ.lt hg.d b hb
  ·exact Γ.keep hg.d ⟨e1,e2,e3,by rw [e4]; exact Nat.le_refl _,fun b hb=>e5 b fun hD=>hdfs b hD hb⟩ (fun b o h=>by rw [e6]; exact h)
 rcases he with rfl | rfl
 ·exact hfin
 ·exact hfin

theorem DoesH.of {f:FuncId} {fn:Func} {c:Code} {args:List AV} {R:AV→Γ.S→Store→Prop} (hf:P.funcs[f]?=some fn) (hb:fn.body=some c)
  (h:∀ H:HC,H.C.rd=none→H.C.n0=ρ.length→H.C.rg=true→wpH P H Γ c (fun e s' A' ρ'=>(e=.normal∨e=.ret)∧∃ A'' ρ'' vs,(∀ a w,SRelH H Γ s' a w A' ρ'→SRelH H Γ s' a w A'' ρ'')∧resA P A'' ρ'' fn.results.toList vs∧R (one? vs) s' ρ'') s (args ++ List.replicate (fn.ntmps - args.length) .any) ρ) :
  DoesH P Γ f args s ρ R:=(DoesA.of (zf:=false) hf hb fun H a b c _=>h H a b c).toH
def PlainL (xs:List AV):Prop:=∀ i,i<xs.length→∀ (c:Nat→Nat→Option Value) (I:Nat→Prop) (N:Nat) (β:Nat→Option Loc) (c':Nat→Nat→Option Value) (I':Nat→Prop) (N':Nat) (β':Nat→Option Loc) (v:Value),Rel c I N β (xs.getD i .any) v→Rel c' I' N' β' (xs.getD i .any) v
theorem PlainL.rel {xs:List AV} (h:PlainL xs) {c I N β c' I' N' β' vs} (hr:RelL c I N β xs vs):RelL c' I' N' β' xs vs:=⟨hr.1,fun j hj=>h j hj _ _ _ _ _ _ _ _ _ (hr.2 j hj)⟩

def YieldOK (P:Program) (Γ:Ghost) (l:Nat) (s:Γ.S) (xs:List AV) (R:Bool→Γ.S→Prop):Prop :=
 ∀ M w (vals:Array Value),Γ.D s M w→RelL (cellf w) Γ.J 0 noβ xs vals.toList→∃ r0:Loop,w.heap[l]?=some (.loop r0)∧vals.size=r0.params.size ∧
  ∀ rd n,RoundIn (fz rd) n P l r0.fn ((r0.params.zip vals).foldl (fun tmps (t,a)=>tmps.setIfInBounds t a) r0.tmps) r0.assign r0.body w fun x w'=>∃ b s' M',x=.returned (.bool b)∧R b s' ∧
   (∀ b,M b→M' b)∧(∀ b,M' b→M b∨w.heap.size≤b)∧Keeps (fun b=>b<w.heap.size∧¬ M b) w w'∧Grow w w' Γ.J Γ.J 0 0 noβ noβ∧Γ.D s' M' w'
theorem YieldOK.mono {Γ:Ghost} {l s xs} {R R':Bool→Γ.S→Prop} (h:YieldOK P Γ l s xs R) (hR:∀ b s,R b s→R' b s):YieldOK P Γ l s xs R':=by
 intro M w vals h1 h2
 obtain ⟨r0,h3,h4,h5⟩:=h M w vals h1 h2
 exact ⟨r0,h3,h4,fun rd n=>(h5 rd n).mono fun x w' ⟨b,s',M',hx,hr,h⟩=>⟨b,s',M',hx,hR _ _ hr,h⟩⟩

theorem yield_srelH {o:Oper} {c:Call} {f:Operand} {l:Nat} {R:Bool→Γ.S→Prop} {a w} (hs:SRelH H Γ s a w A ρ) (ho:o.op=.call c) (hc:c.callee=.value f)
  (hl:Γ.y=some l) (hf:aev A f=.yld 0) (hx:PlainL (c.args.toList.map (aev A))) (hy:YieldOK P Γ l s (c.args.toList.map (aev A)) R) {K:Act→World→Prop} {Q:Exit→Act→World→Prop}
  (hK:∀ b s' a' w',R b s'→SRelH H Γ s' a' w' (putA A o.dst (.sc (.bool b))) ρ→K a' w') (n:Nat):o.wpIn (fz H.C.rd) n P a w K Q:=by
 obtain ⟨hst,I,β,M,hk,h0,F',⟨hF,hM⟩,hg,hfr⟩:=hs
 have hvf:a.eval f=.func (.yield l) #[] #[]:=by
  have h1:=hfr.eval f
  rw [hf] at h1
  obtain ⟨h2,loc,h3,h4⟩:=hst.1 l hl
  generalize a.eval f=v at h1
  generalize hx:AV.yld 0=x at h1
  cases h1 <;> cases hx
  rename_i l _ hl
  rw [h0.hβ _ h2,h3] at hl
  cases hl
  rw [h4]
 have hrl:=RelL.of_map A a.eval hfr.eval c.args.toList
 have hargs:(c.args.toList.map a.eval)=(c.args.map a.eval).toList:=by simp
 rw [hargs] at hrl
 obtain ⟨r0,hh,hsz,hround⟩:=hy M w (c.args.map a.eval) hg.d (hx.rel hrl)
 have hrun:=run_yield (P:=P) (args:=c.args.map a.eval) hh hsz
 have hex:(execOp a.eval o).run P w=.ok (.round l r0.fn ((r0.params.zip (c.args.map a.eval)).foldl (fun tmps (t,a)=>tmps.setIfInBounds t a) r0.tmps) r0.assign r0.body) w:=by
  have e0:(resolve a.eval c o.type).run P w=.ok { target:=.fn (.yield l) #[],args:=c.args.map a.eval } w:=by
   unfold resolve; rw [hc]; simp [hvf,Deferred.ofValue]
  unfold execOp
  simp [ho,e0,invoke]
  rw [hrun]
  simp
 refine ⟨fun _ _=>trivial,?_⟩
 rw [Oper.semAt_eq _ _ _ (not_defer_of hex (fun d h=>nomatch h)),hex,Oper.uponIn_round]
 refine ⟨fun h=>by simp [fz,Fence.wide] at h,?_⟩
 refine (hround H.C.rd (n - 1)).mono ?_
 rintro x w' ⟨b,s',M',rfl,hR,m1,m2,hk',hgr,hd'⟩
 refine hK b s' _ w' hR ?_
 have hmk:marks (a.put o.dst (.bool b)).defers=marks a.defers:=by cases o.dst <;> rfl
 have hrows:∀ r R loc,ρ[r]?=some (some R)→β r=some loc→loc.b<w.heap.size∧¬ M loc.b:=fun r R loc h1 h2=>⟨(hfr.sr.real r R loc h1 h2).2.1,fun hm=>(hfr.sr.real r R loc h1 h2).2.2.2 (hg.sub _ hm)⟩
 have hcI:∀ b o x,I b→cellf w b o=some x→cellf w' b o=some x:=fun b o x hb hx=>by
  rcases hg.rd b hb with h | h
  ·exact hgr.hc b o x h hx
  ·rw [cellf_same (hk'.block b ⟨cellf_lt hx,h⟩)]; exact hx
 have hMlt:∀ b,M' b→b<w'.heap.size:=fun b hb=>Γ.lt hd' b hb
 have hsr':SR w' (fun b=>F' b∨M' b) I β ρ:=hfr.sr.over (fun r R loc h1 h2=>hk'.block _ (hrows r R loc h1 h2)) hgr.hz hcI hgr.hs
  (fun b hb=>by
   rcases hb with hb | hb
   ·exact Nat.lt_of_lt_of_le (hfr.sr.flt b hb) hgr.hz
   ·exact hMlt b hb)
  (fun r R loc h1 h2 hb=>by
   rcases hb with hb | hb
   ·exact (hfr.sr.real r R loc h1 h2).2.2.2 hb
   ·rcases m2 _ hb with h | h
    ·exact (hrows r R loc h1 h2).2 h
    ·have:=(hrows r R loc h1 h2).1; omega)
 have hgr':Grow w w' I I ρ.length ρ.length β β:=⟨hcI,hgr.hs,fun _ h=>h,Nat.le_refl _,fun _ _=>rfl,fun _ h=>.inl h,hgr.hz⟩
 have dM':∀ D,D ∈ marks a.defers→¬ M' D:=fun D hD hm=>by
  rcases m2 D hm with h | h
  ·exact hg.dfs D hD h
  ·obtain ⟨Ds,_,h2,h3⟩:=hfr.df
   have:=(Array.getElem?_eq_some_iff.1 (h3 D (h2 ▸ hD)).2.2).1
   omega
 refine ⟨hst,I,β,M',hk.trans (hk'.sub fun b hb=>⟨hfr.sr.flt b (hF b hb),hg.off b hb⟩),h0.trans hgr',fun b=>F' b∨M' b,⟨fun b hb=>.inl (hF b hb),(by cases o.dst <;> exact hM)⟩,
  ⟨fun b hb=>.inr hb,fun b hb hm=>?_,fun b hb=>?_,fun b hb=>m1 b (hg.up b hb),fun b hb=>?_,by rw [hmk]; exact dM',hd'⟩,hfr.putM o.dst hgr' hsr' (hfr.df.ghost hg.dfs (hk'.sub fun b hb=>⟨hfr.sr.flt b hb.1,hb.2⟩) hgr' fun _ h=>.inl h) (.sc _)⟩
 ·rcases m2 b hm with h | h
  ·exact hg.off b hb h
  ·have:=hfr.sr.flt b (hF b hb); omega
 ·rcases hg.rd b hb with h | h
  ·exact .inl h
  ·right; intro hm
   rcases m2 b hm with h2 | h2
   ·exact h h2
   ·have:=hfr.sr.ilt b hb; omega
 ·rcases m2 b hb with h | h
  ·exact hg.new b h
  ·exact .inr (Nat.le_trans h0.hz h)
end

def IterOK (P:Program) (gf:FuncId) (fs us:List AV) (n:Nat) (f:Nat→List AV):Prop :=
 ∀ (J:Nat→Prop) (Φ:Option Nat→(Nat→Prop)→World→Prop) (lt:∀ {s M w},Φ s M w→∀ b,M b→b<w.heap.size)
  (keep:∀ {s M w w'},Φ s M w→Keeps M w w'→(∀ b o,(cellf w b o).isSome=true→(cellf w' b o).isSome=true)→Φ s M w') (l:Nat),
  (∀ j,j<n→YieldOK P ⟨Option Nat,J,Φ,lt,keep,some l⟩ l (some j) (f j) fun b s=>s=bif b then some (j+1) else none) →
  ∀ (w:World) (M:Nat→Prop) (fv uv:Array Value),(∀ b,J b→b<w.heap.size)→(∀ b,M b↔b<w.heap.size)→Φ (some 0) M w→RelL (cellf w) J 0 noβ fs fv.toList→RelL (cellf w) J 0 noβ us uv.toList →
   Calls P gf (fv ++ #[.func (.yield l) #[] #[]] ++ uv) w fun e w'=>∃ u s M',e=.returned u∧(s=some n∨s=none)∧Φ s M' w'∧(∀ b,M b→M' b)∧(∀ b,M' b→M b∨w.heap.size≤b)∧Grow w w' J J 0 0 noβ noβ∧Keeps (fun _=>False) w w'
def yβ (l:Nat):Nat→Option Loc:=fun r=>match r with
 | 0=>some ⟨l,0,0⟩
 | _=>none
theorem IterOK.of {gf:FuncId} {fs us:List AV} {n:Nat} {f:Nat→List AV}
  (h:∀ (Γ:Ghost) (l:Nat) (t:Nat→Γ.S) (e:Γ.S),Γ.y=some l→(∀ j,j<n→YieldOK P Γ l (t j) (f j) fun b s=>s=bif b then t (j+1) else e)→DoesH P Γ gf (fs ++ [.yld 0] ++ us) (t 0) [none] fun _ s _=>s=t n∨s=e) :
  IterOK P gf fs us n f:=by
 intro J Φ lt keep l hy w M fv uv hJ hM hΦ hfv huv
 let Γ:Ghost:=⟨Option Nat,J,Φ,lt,keep,some l⟩
 have hd:=h Γ l (fun j=>some j) none rfl (fun j hj=>hy j hj)
 have hsr:SR w (fun b=>b<w.heap.size) J (yβ l) [none]:=by
  have no:∀ {r:Nat} {R:Root},([none]:Store)[r]?=some (some R)→False:=fun {r R} h=>by
   cases r with
   | zero=>simp at h
   | succ r=>simp at h
  exact ⟨fun r R l h=>(no h).elim,fun r R l h=>(no h).elim,fun r R h=>(no h).elim,fun r s R S l m h=>(no h).elim,hJ,fun _ h=>h,fun r R l h=>(no h).elim,fun r R o h=>(no h).elim⟩
 have up:∀ {a v},Rel (cellf w) J 0 noβ a v→Rel (cellf w) J 1 (yβ l) a v:=fun h=>h.mono (fun _ _ _ _ h=>h) (fun _ _ h=>h) (fun _ h=>h) (by omega) (fun r hr=>by omega)
 have hrel:RelL (cellf w) J ([none]:Store).length (yβ l) (fs ++ [.yld 0] ++ us) (fv ++ (#[Value.func (.yield l) #[] #[]]:Array Value) ++ uv).toList:=by
  have h1:RelL (cellf w) J 1 (yβ l) [.yld 0] (#[.func (.yield l) #[] #[]]:Array Value).toList:=.mk (.yld 0 ⟨l,0,0⟩ (by omega) rfl) .mk_nil
  show RelL (cellf w) J 1 (yβ l) (fs ++ [.yld 0] ++ us) (fv ++ (#[.func (.yield l) #[] #[]]:Array Value) ++ uv).toList
  simpa using ((hfv.mono fun a v=>up).append h1).append (huv.mono fun a v=>up)
 refine (hd w _ J M (yβ l) _ hsr (fun b hb=>(hM b).1 hb) (fun b hb=>.inl hb) hΦ (fun l' hl'=>?_) hrel).mono ?_
 ·cases hl'; exact ⟨by simp,⟨l,0,0⟩,rfl,rfl⟩
 ·rintro e w' ⟨u,v,s',ρ',I',β',M',rfl,hR,hk,hg,hs,m1,m2,m3,hd',hv⟩
  exact ⟨u,s',M',rfl,hR,hd',m1,m2,⟨hg.hc,hg.hs,fun _ h=>h,Nat.le_refl _,fun _ h=>rfl,fun _ h=>.inl h,hg.hz⟩,hk.sub fun b hb=>hb.elim⟩
end Go.Lg

namespace Go.Lg
open Go.RowKit
variable {P:Program}

theorem Rel.pure0 {c I N β a v} (h:Rel c I N β a v) (hp:Pure a):Rel c I 0 noβ a v:=(h.bel (Bel.pure _ hp:Bel 0 _)).mono (fun _ _ _ _ h=>h) (fun _ _ h=>h) (fun _ h=>h) (Nat.le_refl _) (fun r hr=>by omega)
structure Out (H:HC) (Γ:Ghost) (J:Nat→Prop) (l:Nat) (s:Γ.S) (a:Act) (A:List AV) (ρ:Store) (M:Nat→Prop) (w:World) (I:Nat→Prop) (β:Nat→Option Loc) (M1 F1:Nat→Prop):Prop where
 hk:Keeps H.C.F H.C.w0 w
 h0:Grow H.C.g0 w H.C.I0 I H.C.n0 ρ.length H.C.β0 β
 hF:∀ b,H.C.F b→F1 b
 hg:GRel H Γ s I F1 M1 a w
 hf:FRel w F1 I β a A ρ
 iF:∀ b,H.C.F b→M b
 iM:∀ b,M1 b→M b
 iI:∀ b,I b→M b
 iR:∀ r R loc,ρ[r]?=some (some R)→β r=some loc→M loc.b
 iD:∀ D,D ∈ marks a.defers→M D
 jI:∀ b,J b→I b
 lF:¬ H.C.F l
 lM:¬ M1 l
 lI:¬ I l
 lR:∀ r R loc,ρ[r]?=some (some R)→β r=some loc→loc.b≠l
 lD:∀ D,D ∈ marks a.defers→D≠l

section
variable {H:HC} {Γ:Ghost} {s:Γ.S} {A:List AV} {ρ:Store} {J:Nat→Prop} {l:Nat} {a:Act} {M:Nat→Prop} {w:World} {I:Nat→Prop} {β:Nat→Option Loc} {M1 F1:Nat→Prop}
theorem Out.turn (h:Out H Γ J l s a A ρ M w I β M1 F1) {w':World} {G:Nat→Prop} (hk:Keeps G w w') (hs:∀ b o,(cellf w b o).isSome=true→(cellf w' b o).isSome=true)
  (gF:∀ b,H.C.F b→G b) (gM:∀ b,M1 b→G b) (gI:∀ b,I b→G b) (gR:∀ r R loc,ρ[r]?=some (some R)→β r=some loc→G loc.b) (gD:∀ D,D ∈ marks a.defers→G D)
  : Out H Γ J l s a A ρ M w' I β M1 F1:=by
 have hcI:∀ b o x,I b→cellf w b o=some x→cellf w' b o=some x:=fun b o x hb hx=>by rw [cellf_same (hk.block b (gI b hb))]; exact hx
 have g1:Grow w w' I I ρ.length ρ.length β β:=⟨hcI,hs,fun _ h=>h,Nat.le_refl _,fun _ _=>rfl,fun _ h=>.inl h,hk.size⟩
 refine ⟨h.hk.trans (hk.sub gF),h.h0.trans g1,h.hF,⟨h.hg.sub,h.hg.off,h.hg.rd,h.hg.up,h.hg.new,h.hg.dfs,Γ.keep h.hg.d (hk.sub gM) hs⟩,⟨?_,?_,h.hf.size,fun i hi=>g1.rel (h.hf.rel i hi)⟩,h.iF,h.iM,h.iI,h.iR,h.iD,h.jI,h.lF,h.lM,h.lI,h.lR,h.lD⟩
 ·exact h.hf.sr.over (fun r R loc h1 h2=>hk.block _ (gR r R loc h1 h2)) hk.size hcI hs (fun b hb=>Nat.lt_of_lt_of_le (h.hf.sr.flt b hb) hk.size) (fun r R loc h1 h2=>(h.hf.sr.real r R loc h1 h2).2.2.2)
 ·obtain ⟨Ds,h1,h2,h3⟩:=h.hf.df
  exact ⟨Ds,h1,h2,fun D hD=>⟨(h3 D hD).1,(h3 D hD).2.1,(hk.block D (gD D (h2 ▸ hD))).trans (h3 D hD).2.2⟩⟩
theorem Out.keep (h:Out H Γ J l s a A ρ M w I β M1 F1) {w':World} (hk:Keeps M w w') (hs:∀ b o,(cellf w b o).isSome=true→(cellf w' b o).isSome=true):Out H Γ J l s a A ρ M w' I β M1 F1 :=
 h.turn hk hs h.iF h.iM h.iI h.iR h.iD
theorem Out.turned (h:Out H Γ J l s a A ρ M w I β M1 F1) {o o':Obj} (hl:w.heap[l]?=some o) (ho:o.isCells=false) (ho':o'.isCells=false):Out H Γ J l s a A ρ M (w.putObj l o') I β M1 F1 :=
 h.turn (G:=fun b=>b≠l) ⟨rfl,rfl,rfl,by rw [World.putObj_size]; exact Nat.le_refl _,fun b hb=>World.putObj_heap_other hb⟩ (fun b k hx=>by rw [cellf_putObj hl ho ho']; exact hx)
  (fun b hb e=>h.lF (e ▸ hb)) (fun b hb e=>h.lM (e ▸ hb)) (fun b hb e=>h.lI (e ▸ hb)) h.lR h.lD
end

def ctxOf (w:World) (I:Nat→Prop) (β:Nat→Option Loc) (ρ:Store) (M1:Nat→Prop) (rd:Option Nat) (n0:Nat):HC :=
 ⟨⟨fun b=>(b<w.heap.size∧∀ r R loc,ρ[r]?=some (some R)→β r=some loc→loc.b≠b)∧¬ M1 b,I,w,w,rd,true,fun _=>True,fun _ _ _ _ _=>trivial,n0,β⟩,M1⟩
theorem ctxOf_rel {Γ:Ghost} {s:Γ.S} {w:World} {F1 I M1:Nat→Prop} {β:Nat→Option Loc} {ρ:Store} {l n0:Nat} {b:Act} {B:List AV} (hsr:SR w F1 I β ρ) (hM:∀ b,M1 b→F1 b) (hI:∀ b,I b→Γ.J b∨¬ M1 b) (hd:Γ.D s M1 w)
  (hn:n0≤ρ.length) (hst:Γ.stat n0 β) (hl:(∀ r R loc,ρ[r]?=some (some R)→β r=some loc→loc.b≠l)∧¬ M1 l) {r0:Loop} (hr:w.heap[l]?=some (.loop r0)) (hmk:Marked w F1 I b) (hdf:∀ D,D ∈ marks b.defers→¬ M1 D) (hsz:b.tmps.size=B.length)
  (hrel:∀ i,i<B.length→Rel (cellf w) I ρ.length β (B.getD i .any) (b.tmps.getD i undef)):SRelH (ctxOf w I β ρ M1 (some l) n0) Γ s b w B ρ:=by
 have hin:∀ b,F1 b→b<w.heap.size∧∀ r R loc,ρ[r]?=some (some R)→β r=some loc→loc.b≠b:=fun b hb=>⟨hsr.flt b hb,fun r R loc h1 h2 e=>(hsr.real r R loc h1 h2).2.2.2 (e ▸ hb)⟩
 refine ⟨⟨hst,fun l0 h0=>?_⟩,I,β,M1,Keeps.refl _ _,⟨fun _ _ _ _ h=>h,fun _ _ h=>h,fun _ h=>h,hn,fun _ _=>rfl,fun _ h=>.inl h,Nat.le_refl _⟩,
  fun b=>b<w.heap.size∧∀ r R loc,ρ[r]?=some (some R)→β r=some loc→loc.b≠b,⟨fun b hb=>hb.1,trivial⟩,⟨fun b hb=>hin b (hM b hb),fun b hb=>hb.2,hI,fun _ h=>h,fun _ h=>.inl h,hdf,hd⟩,
  ⟨hsr.foreign (fun b hb=>hb.1) (fun r R loc h1 h2 hb=>hb.2 r R loc h1 h2 rfl),?_,hsz,hrel⟩⟩
 ·cases h0
  exact ⟨⟨⟨(Array.getElem?_eq_some_iff.1 hr).1,hl.1⟩,hl.2⟩,r0,hr⟩
 ·obtain ⟨Ds,h1,h2,h3⟩:=hmk
  exact ⟨Ds,h1,h2,fun D hD=>⟨hin D (h3 D hD).1,(h3 D hD).2⟩⟩

theorem Grow.two {g w w':World} {I0 I I':Nat→Prop} {n m n':Nat} {β0 β β':Nat→Option Loc} (h:Grow g w I0 I n m β0 β) (k:Grow w w' I I' n n' β β'):Grow g w' I0 I' n n' β0 β' :=
 ⟨fun b o x hb hx=>k.hc b o x (h.hI b hb) (h.hc b o x hb hx),fun b o hx=>k.hs b o (h.hs b o hx),fun b hb=>k.hI b (h.hI b hb),k.hN,fun r hr=>(k.hβ r hr).trans (h.hβ r hr),
  fun b hb=>(k.hI2 b hb).elim (fun h1=>h.hI2 b h1) (fun h1=>.inr (Nat.le_trans h.hz h1)),Nat.le_trans h.hz k.hz⟩
theorem Out.weaken {H:HC} {Γ:Ghost} {s:Γ.S} {A:List AV} {ρ ρ3:Store} {J:Nat→Prop} {l:Nat} {a:Act} {M:Nat→Prop} {w:World} {I:Nat→Prop} {β:Nat→Option Loc} {M1 F1:Nat→Prop} (h:Out H Γ J l s a A ρ M w I β M1 F1)
  (hl:l<w.heap.size) (hw:∀ C' a w,C'.n0=H.C.n0→SRel C' a w A ρ→SRel C' a w A ρ3):∃ I β M1 F1,Out H Γ J l s a A ρ3 M w I β M1 F1:=by
 let C':Ctx:=⟨fun b=>b<w.heap.size∧∀ r R loc,ρ[r]?=some (some R)→β r=some loc→loc.b≠b,I,w,w,none,false,fun l=>l=a.defers,(fun h=>nomatch h),H.C.n0,H.C.β0⟩
 have hin:∀ b,F1 b→C'.F b:=fun b hb=>⟨h.hf.sr.flt b hb,fun r R loc h1 h2 e=>(h.hf.sr.real r R loc h1 h2).2.2.2 (e ▸ hb)⟩
 have hs:SRel C' a w A ρ:=by
  refine ⟨I,β,Keeps.refl _ _,⟨fun _ _ _ _ h=>h,fun _ _ h=>h,fun _ h=>h,h.h0.hN,h.h0.hβ,fun _ h=>.inl h,Nat.le_refl _⟩,C'.F,⟨fun _ h=>h,rfl⟩,⟨h.hf.sr.foreign (fun b hb=>hb.1) (fun r R loc h1 h2 hb=>hb.2 r R loc h1 h2 rfl),?_,h.hf.size,h.hf.rel⟩⟩
  obtain ⟨Ds,h1,h2,h3⟩:=h.hf.df
  exact ⟨Ds,h1,h2,fun D hD=>⟨hin D (h3 D hD).1,(h3 D hD).2⟩⟩
 obtain ⟨I3,β3,_,g3,F3,⟨hF3,_⟩,hf3⟩:=hw C' a w rfl hs
 have hI3:∀ b,I3 b→I b:=fun b hb=>by
  rcases g3.hI2 b hb with h | h
  ·exact h
  ·have:=hf3.sr.ilt b hb
   have h:w.heap.size≤b:=h
   omega
 refine ⟨I3,β3,M1,F3,h.hk,h.h0.mid g3,fun b hb=>hF3 b (hin b (h.hF b hb)),⟨fun b hb=>hF3 b (hin b (h.hg.sub b hb)),h.hg.off,fun b hb=>h.hg.rd b (hI3 b hb),h.hg.up,h.hg.new,h.hg.dfs,h.hg.d⟩,hf3,h.iF,h.iM,fun b hb=>h.iI b (hI3 b hb),fun r R loc h1 h2=>?_,h.iD,
  fun b hb=>g3.hI b (h.jI b hb),h.lF,h.lM,fun hb=>h.lI (hI3 l hb),fun r R loc h1 h2 e=>?_,h.lD⟩
 ·have h3:=(hf3.sr.real r R loc h1 h2)
  apply Classical.byContradiction
  intro hm
  exact h3.2.2.2 (hF3 _ ⟨h3.2.1,fun r' R' loc' h4 h5 e=>hm (e ▸ h.iR r' R' loc' h4 h5)⟩)
 ·exact (hf3.sr.real r R loc h1 h2).2.2.2 (hF3 _ ⟨by rw [e]; exact hl,fun r' R' loc' h4 h5 e'=>h.lR r' R' loc' h4 h5 (e'.trans e)⟩)

def roundQ {Γ:Ghost} (H:HC) (A:List AV) (Inv:Γ.S→Store→Prop) (Q:Exit→Γ.S→List AV→Store→Prop):Exit→Γ.S→List AV→Store→Prop
 | .normal,s2,_,ρ2=>∃ ρ3,(∀ C' a w,C'.n0=H.C.n0→SRel C' a w A ρ2→SRel C' a w A ρ3)∧Inv s2 ρ3
 | .ret,s2,_,ρ2=>Q .ret s2 A ρ2
 | .exit id,s2,_,ρ2=>Q (.exit id) s2 A ρ2
 | _,_,_,_=>False

def itΦ {Γ:Ghost} (H:HC) (J:Nat→Prop) (l:Nat) (r0:Loop) (a:Act) (A:List AV) (Inv:Nat→Γ.S→Store→Prop) (Q:Exit→Γ.S→List AV→Store→Prop):Option Nat→(Nat→Prop)→World→Prop
 | some j,M,w=>(∀ b,M b→b<w.heap.size)∧M l∧w.heap[l]?=some (.loop r0)∧∃ s ρ I β M1 F1,Inv j s ρ∧Out H Γ J l s a A ρ M w I β M1 F1
 | none,M,w=>(∀ b,M b→b<w.heap.size)∧M l∧∃ c,w.heap[l]?=some (.loop { r0 with state:=.done,pending:=some c })∧∃ s ρ I β M1 F1,((c=.ret∧Q .ret s A ρ)∨∃ id,c=.exit id∧Q (.exit id) s A ρ)∧Out H Γ J l s a A ρ M w I β M1 F1
theorem itΦ_lt {Γ:Ghost} {H:HC} {J l r0 a A} {Inv:Nat→Γ.S→Store→Prop} {Q:Exit→Γ.S→List AV→Store→Prop} {s M w} (h:itΦ H J l r0 a A Inv Q s M w):∀ b,M b→b<w.heap.size:=by
 cases s <;> exact h.1
theorem itΦ_keep {Γ:Ghost} {H:HC} {J l r0 a A} {Inv:Nat→Γ.S→Store→Prop} {Q:Exit→Γ.S→List AV→Store→Prop} {s M w w'} (h:itΦ H J l r0 a A Inv Q s M w) (hk:Keeps M w w') (hs:∀ b o,(cellf w b o).isSome=true→(cellf w' b o).isSome=true):itΦ H J l r0 a A Inv Q s M w':=by
 cases s with
 | some j =>
  obtain ⟨h1,h2,h3,s,ρ,I,β,M1,F1,h4,h5⟩:=h
  exact ⟨fun b hb=>Nat.lt_of_lt_of_le (h1 b hb) hk.size,h2,(hk.block l h2).trans h3,s,ρ,I,β,M1,F1,h4,h5.keep hk hs⟩
 | none =>
  obtain ⟨h1,h2,c,h3,s,ρ,I,β,M1,F1,h4,h5⟩:=h
  exact ⟨fun b hb=>Nat.lt_of_lt_of_le (h1 b hb) hk.size,h2,c,(hk.block l h2).trans h3,s,ρ,I,β,M1,F1,h4,h5.keep hk hs⟩

theorem itΦ_yield {Γ:Ghost} {H:HC} {J l r0 a A} {Inv:Nat→Γ.S→Store→Prop} {Q:Exit→Γ.S→List AV→Store→Prop} (hr0:r0.state=.ready) (hp0:r0.pending=none) (htm:r0.tmps=a.tmps) (hst:Γ.stat H.C.n0 H.C.β0)
  {xs:List AV} {j:Nat} (hlen:xs.length=r0.params.size)
  (hround:∀ s ρ,Inv j s ρ→∀ H1:HC,H1.C.rd=some l→H1.C.n0=ρ.length→H1.C.rg=true→wpH P H1 Γ r0.assign (thenH (fun s1 A1 ρ1=>∀ H2:HC,H2.C.rd=some l→H2.C.n0=ρ.length→H2.C.rg=true→wpH P H2 Γ r0.body (roundQ H A (Inv (j+1)) Q) s1 A1 ρ1) (fun _ _ _ _=>False)) s (setPs A r0.params xs) ρ) :
  YieldOK P ⟨Option Nat,J,itΦ H J l r0 a A Inv Q,itΦ_lt,itΦ_keep,some l⟩ l (some j) xs fun b s=>s=bif b then some (j+1) else none:=by
 intro M w vals hΦ hv
 obtain ⟨hlt,hMl,hh,s,ρ,I,β,M1,F1,hinv,ho⟩:=hΦ
 have hlw:l<w.heap.size:=hlt l hMl
 have hvs:vals.size=r0.params.size:=by rw [← hlen]; simpa using hv.1
 refine ⟨r0,hh,hvs,fun rd n=>roundIn_of_wpIn trivial ?_⟩
 have hp:=setPs_rel (c:=cellf w) (I:=I) (N:=ρ.length) (β:=β) r0.params.toList xs vals.toList A r0.tmps (hv.mono fun a v h=>h.mono (fun _ _ _ _ h=>h) (fun _ _ h=>h) ho.jI (Nat.zero_le _) (fun r hr=>by omega)) (by rw [htm]; exact ho.hf.size) (by rw [htm]; exact ho.hf.rel)
 have hfold:(r0.params.zip vals).foldl (fun tmps (t,a)=>tmps.setIfInBounds t a) r0.tmps=(r0.params.toList.zip vals.toList).foldl (fun t (p:Tmp × Value)=>t.setIfInBounds p.1 p.2) r0.tmps:=by
  rw [← Array.foldl_toList,Array.toList_zip]
 have hs1:SRelH (ctxOf w I β ρ M1 (some l) ρ.length) Γ s { tmps:=(r0.params.zip vals).foldl (fun tmps (t,a)=>tmps.setIfInBounds t a) r0.tmps,defers:=[] } w (setPs A r0.params xs) ρ:=by
  refine ctxOf_rel ho.hf.sr ho.hg.sub ho.hg.rd ho.hg.d (Nat.le_refl _) (Ghost.stat.stat_mono hst ho.h0.hN ho.h0.hβ) ⟨ho.lR,ho.lM⟩ hh ⟨[],List.nodup_nil,rfl,by simp⟩ (fun D hD=>by cases hD) ?_ fun i hi=>?_
  ·rw [hfold]; exact hp.1
  ·rw [hfold]; exact hp.2 i hi
 refine wpIn_mono (hround s ρ hinv _ rfl rfl rfl _ w hs1 n) ?_
 rintro x a1 w1 ⟨s1,A1,ρ1,⟨hst1,I1,β1,M1',hk1,h01,F1',⟨hF1,_⟩,hg1,hf1⟩,hq⟩
 cases x with
 | normal =>
  have hC1:∀ b,F1 b→¬ M1 b→(ctxOf w I β ρ M1 (some l) ρ.length).C.F b:=fun b hb hm=>⟨⟨ho.hf.sr.flt b hb,fun r R loc h1 h2 e=>(ho.hf.sr.real r R loc h1 h2).2.2.2 (e ▸ hb)⟩,hm⟩
  have hC1l:(ctxOf w I β ρ M1 (some l) ρ.length).C.F l:=⟨⟨hlw,ho.lR⟩,ho.lM⟩
  have hC1m:∀ b,b<w.heap.size→¬ M b→(ctxOf w I β ρ M1 (some l) ρ.length).C.F b:=fun b hb hm=>⟨⟨hb,fun r R loc h1 h2 e=>hm (e ▸ ho.iR r R loc h1 h2)⟩,fun h=>hm (ho.iM b h)⟩
  have hh1:w1.heap[l]?=some (.loop r0):=(hk1.block l hC1l).trans hh
  refine ⟨_,run_beginRound hh1 hr0,?_⟩
  generalize hw2:w1.putObj l (.loop { r0 with state:=.busy })=w2
  have hz2:w2.heap.size=w1.heap.size:=by rw [← hw2,World.putObj_size]
  have hh2:w2.heap[l]?=some (.loop { r0 with state:=.busy }):=by rw [← hw2]; exact World.putObj_heap_same (Array.getElem?_eq_some_iff.1 hh1).1
  have hne2:∀ b,b≠l→w2.heap[b]?=w1.heap[b]?:=fun b hb=>by rw [← hw2]; exact World.putObj_heap_other hb
  have hc2:cellf w2=cellf w1:=by rw [← hw2]; exact cellf_putObj hh1 rfl rfl
  have hg12:Grow w1 w2 I1 I1 ρ1.length ρ1.length β1 β1:=by rw [← hw2]; exact Grow.putObj hh1 rfl rfl _ _ _
  have hk12:∀ G:Nat→Prop,¬ G l→Keeps G w1 w2:=fun G hG=>by
   subst hw2
   exact ⟨rfl,rfl,rfl,by rw [World.putObj_size]; exact Nat.le_refl _,fun b hb=>World.putObj_heap_other fun e=>hG (e ▸ hb)⟩
  have hM1l:¬ M1' l:=hg1.off l hC1l
  have hn1:ρ.length≤ρ1.length:=h01.hN
  have hmk1:Marked w2 F1' I1 a1:=by
   obtain ⟨Ds,h1,h2,h3⟩:=hf1.df
   exact ⟨Ds,h1,h2,fun D hD=>⟨(h3 D hD).1,(h3 D hD).2.1,(hne2 D fun e=>by have:=(h3 D hD).2.2; rw [e,hh1] at this; cases this).trans (h3 D hD).2.2⟩⟩
  have hs2:SRelH (ctxOf w2 I1 β1 ρ1 M1' (some l) ρ.length) Γ s1 a1 w2 A1 ρ1:=by
   refine ctxOf_rel (F1:=F1') ?_ hg1.sub hg1.rd (Γ.keep hg1.d (hk12 _ hM1l) (fun b o h=>by rw [hc2]; exact h)) hn1 ?_ ⟨fun r R loc h1 h2 e=>(hf1.sr.real r R loc h1 h2).2.2.2 (e ▸ hF1 l hC1l),hM1l⟩ hh2 hmk1 hg1.dfs hf1.size (fun i hi=>by rw [hc2]; exact hf1.rel i hi)
   ·rw [← hw2]; exact hf1.sr.putObj hh1 rfl rfl (hF1 l hC1l)
   ·exact Ghost.stat.stat_mono hst1.1 (Nat.le_refl _) h01.hβ
  refine wpIn_mono (hq _ rfl rfl rfl a1 w2 hs2 n) ?_
  rintro x a2 w3 ⟨s2,A2,ρ2,⟨hst2,I2,β2,M2,hk2,h02,F2,⟨hF2,_⟩,hg2,hf2⟩,hq2⟩
  have hC2:∀ b,F1' b→¬ M1' b→(ctxOf w2 I1 β1 ρ1 M1' (some l) ρ.length).C.F b:=fun b hb hm=>⟨⟨by rw [hz2]; exact hf1.sr.flt b hb,fun r R loc h1 h2 e=>(hf1.sr.real r R loc h1 h2).2.2.2 (e ▸ hb)⟩,hm⟩
  have hC12:∀ b,(ctxOf w I β ρ M1 (some l) ρ.length).C.F b→(ctxOf w2 I1 β1 ρ1 M1' (some l) ρ.length).C.F b:=fun b hb=>hC2 b (hF1 b hb) (hg1.off b hb)
  have hh3:w3.heap[l]?=some (.loop { r0 with state:=.busy }):=(hk2.block l (hC12 l hC1l)).trans hh2
  have hkK:∀ G:Nat→Prop,(∀ b,G b→(ctxOf w I β ρ M1 (some l) ρ.length).C.F b)→¬ G l→Keeps G w w3:=fun G hG hl=>(hk1.sub hG).trans ((hk12 G hl).trans (hk2.sub fun b hb=>hC12 b (hG b hb)))
  have h02':Grow w2 w3 I1 I2 ρ.length ρ2.length β1 β2:=h02
  have hgw:Grow w w3 I I2 ρ.length ρ2.length β β2:=(h01.trans hg12).two h02'
  have hz1:w.heap.size≤w1.heap.size:=h01.hz
  have hm2:∀ b,M2 b→M1 b∨w.heap.size≤b:=fun b hb=>by
   rcases hg2.new b hb with h | h
   ·exact hg1.new b h
   ·have h:w2.heap.size≤b:=h
    exact .inr (by omega)
  have hI2:∀ b,I2 b→I b∨w.heap.size≤b:=hgw.hI2
  have hO:Out H Γ J l s2 a A ρ2 (fun b=>M b∨(w.heap.size≤b∧b<w3.heap.size)) w3 I2 β2 M2 F2:=by
   have hCF:∀ b,H.C.F b→(ctxOf w I β ρ M1 (some l) ρ.length).C.F b:=fun b hb=>hC1 b (ho.hF b hb) (ho.hg.off b hb)
   have hDlt:∀ D,D ∈ marks a.defers→F1 D∧¬ I D∧w.heap[D]?=some (.deferred (some [])):=fun D hD=>by
    obtain ⟨Ds,h1,h2,h3⟩:=ho.hf.df
    exact h3 D (h2 ▸ hD)
   have hDC:∀ D,D ∈ marks a.defers→(ctxOf w I β ρ M1 (some l) ρ.length).C.F D:=fun D hD=>hC1 D (hDlt D hD).1 (ho.hg.dfs D hD)
   refine ⟨ho.hk.trans (hkK _ hCF ho.lF),ho.h0.trans hgw,fun b hb=>hF2 b (hC12 b (hCF b hb)),⟨hg2.sub,fun b hb=>hg2.off b (hC12 b (hCF b hb)),hg2.rd,fun b hb=>hg2.up b (hg1.up b (ho.hg.up b hb)),fun b hb=>?_,fun D hD hm=>?_,hg2.d⟩,
    ⟨hf2.sr,?_,ho.hf.size,fun i hi=>hgw.rel (ho.hf.rel i hi)⟩,fun b hb=>.inl (ho.iF b hb),fun b hb=>?_,fun b hb=>?_,fun r R loc h1 h2=>?_,fun D hD=>.inl (ho.iD D hD),fun b hb=>hgw.hI b (ho.jI b hb),ho.lF,hg2.off l (hC12 l hC1l),fun hl=>?_,fun r R loc h1 h2 e=>?_,ho.lD⟩
   ·rcases hm2 b hb with h | h
    ·exact ho.hg.new b h
    ·exact .inr (Nat.le_trans ho.h0.hz h)
   ·rcases hm2 D hm with h | h
    ·exact ho.hg.dfs D hD h
    ·have:=(Array.getElem?_eq_some_iff.1 (hDlt D hD).2.2).1; omega
   ·obtain ⟨Ds,h1,h2,h3⟩:=ho.hf.df
    refine ⟨Ds,h1,h2,fun D hD=>⟨hF2 D (hC12 D (hDC D (h2 ▸ hD))),fun hi=>?_,?_⟩⟩
    ·rcases hI2 D hi with h | h
     ·exact (h3 D hD).2.1 h
     ·have:=(Array.getElem?_eq_some_iff.1 (h3 D hD).2.2).1; omega
    ·exact ((hkK (fun b=>b=D) (fun b hb=>hb ▸ hDC D (h2 ▸ hD)) (fun e=>ho.lD D (h2 ▸ hD) e.symm)).block D rfl).trans (h3 D hD).2.2
   ·rcases hm2 b hb with h | h
    ·exact .inl (ho.iM b h)
    ·exact .inr ⟨h,Γ.lt hg2.d b hb⟩
   ·rcases hI2 b hb with h | h
    ·exact .inl (ho.iI b h)
    ·exact .inr ⟨h,hf2.sr.ilt b hb⟩
   ·have h3:=hf2.sr.real r R loc h1 h2
    by_cases hb:w.heap.size≤loc.b
    ·exact .inr ⟨hb,h3.2.1⟩
    ·left
     apply Classical.byContradiction
     intro hm
     exact h3.2.2.2 (hF2 _ (hC12 _ (hC1m _ (by omega) hm)))
   ·rcases hI2 l hl with h | h
    ·exact ho.lI h
    ·omega
   ·exact (hf2.sr.real r R loc h1 h2).2.2.2 (e ▸ hF2 l (hC12 l hC1l))
  have hl3:l<w3.heap.size:=(Array.getElem?_eq_some_iff.1 hh3).1
  have fin:∀ (jump:Option Code) (q:Option Nat),itΦ H J l r0 a A Inv Q q (fun b=>M b∨(w.heap.size≤b∧b<w3.heap.size)) (w3.putObj l (.loop { { r0 with state:=.busy } with state:=if jump.isNone then .ready else .done,pending:=jump }))→(q=bif jump.isNone then some (j+1) else none) →
    ∃ v w',(Instr.endRound l jump).run P w3=.ok v w'∧∃ b s' M',Ending.returned v=.returned (.bool b)∧(s'=bif b then some (j+1) else none)∧(∀ b,M b→M' b)∧(∀ b,M' b→M b∨w.heap.size≤b)∧Keeps (fun b=>b<w.heap.size∧¬ M b) w w'∧Grow w w' J J 0 0 noβ noβ∧itΦ H J l r0 a A Inv Q s' M' w':=by
   intro jump q hq hj
   refine ⟨_,_,run_endRound jump hh3,jump.isNone,q,_,rfl,hj,fun b hb=>.inl hb,fun b hb=>hb.imp id fun h=>h.1,?_,?_,hq⟩
   ·exact (hkK _ (fun b hb=>hC1m b hb.1 hb.2) (fun hb=>hb.2 hMl)).trans ⟨rfl,rfl,rfl,by rw [World.putObj_size]; exact Nat.le_refl _,fun b hb=>World.putObj_heap_other fun e=>hb.2 (e ▸ hMl)⟩
   ·have:=hgw.trans (Grow.putObj (o':=.loop { { r0 with state:=.busy } with state:=if jump.isNone then .ready else .done,pending:=jump }) hh3 rfl rfl I2 ρ2.length β2)
    exact ⟨fun b o x hb hx=>this.hc b o x (ho.jI b hb) hx,this.hs,fun _ h=>h,Nat.le_refl _,fun _ h=>rfl,fun _ h=>.inl h,this.hz⟩
  have hlt4:∀ o,∀ b,(M b∨(w.heap.size≤b∧b<w3.heap.size))→b<(w3.putObj l o).heap.size:=fun o b hb=>by
   rw [World.putObj_size]
   rcases hb with hb | hb
   ·exact Nat.lt_of_lt_of_le (hlt b hb) hgw.hz
   ·exact hb.2
  cases x with
  | normal =>
   obtain ⟨ρ3,hwk,hinv3⟩:=hq2
   obtain ⟨I3,β3,M3,F3,hO3⟩:=hO.weaken hl3 hwk
   refine fin none (some (j+1)) ⟨hlt4 _,.inl hMl,?_,s2,ρ3,I3,β3,M3,F3,hinv3,hO3.turned hh3 rfl rfl⟩ rfl
   rw [World.putObj_heap_same hl3]
   cases r0
   simp only at hr0 hp0
   subst hr0 hp0
   rfl
  | ret=>exact fin (some .ret) none ⟨hlt4 _,.inl hMl,.ret,World.putObj_heap_same hl3,s2,ρ2,I2,β2,M2,F2,.inl ⟨rfl,hq2⟩,hO.turned hh3 rfl rfl⟩ rfl
  | exit id=>exact fin (some (.exit id)) none ⟨hlt4 _,.inl hMl,.exit id,World.putObj_heap_same hl3,s2,ρ2,I2,β2,M2,F2,.inr ⟨id,rfl,hq2⟩,hO.turned hh3 rfl rfl⟩ rfl
  | _=>exact hq2.elim
 | _=>exact hq.elim

theorem wpH_rangeFunc {H:HC} {Γ:Ghost} {Q:Exit→Γ.S→List AV→Store→Prop} {s:Γ.S} {A:List AV} {ρ:Store} {g:Operand} {ps:Array Tmp} {assign body:Code} {gf:FuncId} {fs us:List AV} {n:Nat} {f:Nat→List AV}
  (Inv:Nat→Γ.S→Store→Prop) (hg:aev A g=.clo (.func gf) fs us) (hpf:∀ j,j<fs.length→Pure (fs.getD j .any)) (hpu:∀ j,j<us.length→Pure (us.getD j .any)) (hcb:callable P gf=true) (hrg:H.C.rg=true)
  (hit:IterOK P gf fs us n f) (hlen:∀ j,j<n→(f j).length=ps.size) (h0:Inv 0 s ρ)
  (hround:∀ j,j<n→∀ s ρ,Inv j s ρ→∀ H1:HC,H1.C.n0=ρ.length→H1.C.rg=true→wpH P H1 Γ assign (thenH (fun s1 A1 ρ1=>∀ H2:HC,H2.C.n0=ρ.length→H2.C.rg=true→wpH P H2 Γ body (roundQ H A (Inv (j+1)) Q) s1 A1 ρ1) (fun _ _ _ _=>False)) s (setPs A ps (f j)) ρ)
  (hend:∀ s ρ,Inv n s ρ→Q .normal s A ρ):wpH P H Γ (.rangeFunc g ps assign body) Q s A ρ:=by
 rintro a w ⟨hst,I,β,M,hk,hG0,F',⟨hF,hM⟩,hgr,hf⟩ n'
 refine wpIn_rangeFunc ?_
 intro fn hfn
 obtain ⟨l,mark,W,D,hrun,⟨hl1,hl2⟩,hkW,hgW,hsW,hlW,hmark⟩:=enter_loop (P:=P) hf.sr H.C.rd (fun l0 hl0=>by
  obtain ⟨h1,r0,h2⟩:=hst.2 l0 hl0
  exact ⟨r0,(hk.block l0 h1).trans h2⟩) fn a.tmps ps assign body
 have hFlt:∀ b,F' b→b<w.heap.size:=hf.sr.flt
 have hdm:∀ E,E ∈ marks (mark ++ a.defers)→(E ∈ marks a.defers∧E<w.heap.size)∨(w.heap.size≤E∧E<W.heap.size∧E≠l):=fun E hE=>by
  rw [marks_append] at hE
  rcases List.mem_append.1 hE with h | h
  ·rcases hmark with rfl | ⟨M',rfl,m1,m2,m3,m4⟩
   ·cases h
   ·have:E=M':=by
     have h:E ∈ [M']:=h
     simpa using h
    subst this
    exact .inr ⟨m1,m2,m3⟩
  ·obtain ⟨Ds,_,h2,h3⟩:=hf.df
   exact .inl ⟨h,(Array.getElem?_eq_some_iff.1 (h3 E (h2 ▸ h)).2.2).1⟩
 have hMa:H.C.M (mark ++ a.defers):=by
  rcases hmark with rfl | ⟨M',rfl,m1,_⟩
  ·exact hM
  ·exact H.C.up hrg M' _ (Nat.le_trans hk.size m1) hM
 have hmkW:Marked W (fun b=>F' b∨w.heap.size≤b∧b<W.heap.size) I { a with defers:=mark ++ a.defers }:=by
  obtain ⟨Ds,d1,d2,d3⟩:=hf.df
  have dlt:∀ M ∈ Ds,M<w.heap.size:=fun M hm=>hf.sr.flt M (d3 M hm).1
  have dold:∀ M ∈ Ds,(F' M∨w.heap.size≤M∧M<W.heap.size)∧¬ I M∧W.heap[M]?=some (.deferred (some [])):=fun M hm=>by
   obtain ⟨a1,a2,a3⟩:=d3 M hm
   exact ⟨.inl a1,a2,(hkW.block M (dlt M hm)).trans a3⟩
  rcases hmark with rfl | ⟨M',rfl,m1,m2,m3,m4⟩
  ·exact ⟨Ds,d1,d2,dold⟩
  ·refine ⟨M' :: Ds,?_,by rw [← d2]; rfl,fun E hm=>?_⟩
   ·rw [List.nodup_cons]; exact ⟨fun h=>by have:=dlt M' h; omega,d1⟩
   ·rcases List.mem_cons.1 hm with rfl | hm
    ·exact ⟨.inr ⟨m1,m2⟩,fun hi=>by have:=hf.sr.ilt _ hi; omega,m4⟩
    ·exact dold E hm
 have hO:Out H Γ I l s { a with defers:=mark ++ a.defers } A ρ (fun b=>b<W.heap.size) W I β M (fun b=>F' b∨w.heap.size≤b∧b<W.heap.size):=by
  have hz:=hkW.size
  refine ⟨hk.trans (hkW.sub fun b hb=>hFlt b (hF b hb)),hG0.trans (hgW _),fun b hb=>.inl (hF b hb),⟨fun b hb=>.inl (hgr.sub b hb),hgr.off,hgr.rd,hgr.up,hgr.new,fun E hE hm=>?_,Γ.keep hgr.d (hkW.sub fun b hb=>Γ.lt hgr.d b hb) (hgW 0).hs⟩,
   ⟨hsW,hmkW,hf.size,fun i hi=>(hgW _).rel (hf.rel i hi)⟩,fun b hb=>Nat.lt_of_lt_of_le (hFlt b (hF b hb)) hz,fun b hb=>Nat.lt_of_lt_of_le (Γ.lt hgr.d b hb) hz,fun b hb=>Nat.lt_of_lt_of_le (hf.sr.ilt b hb) hz,fun r R loc h1 h2=>(hsW.real r R loc h1 h2).2.1,
   fun E hE=>?_,fun _ h=>h,fun h=>?_,fun h=>?_,fun h=>?_,fun r R loc h1 h2 e=>?_,fun E hE=>?_⟩
  ·rcases hdm E hE with ⟨h,_⟩ | ⟨h,_⟩
   ·exact hgr.dfs E h hm
   ·have:=Γ.lt hgr.d E hm; omega
  ·rcases hdm E hE with ⟨_,h⟩ | ⟨_,h,_⟩
   ·omega
   ·exact h
  ·have:=hFlt l (hF l h); omega
  ·have:=Γ.lt hgr.d l h; omega
  ·have:=hf.sr.ilt l h; omega
  ·have:=(hf.sr.real r R loc h1 h2).2.1; omega
  ·rcases hdm E hE with ⟨_,h⟩ | ⟨_,_,h⟩
   ·omega
   ·exact h
 have hfg:=hf.eval g
 rw [hg] at hfg
 generalize hvg:a.eval g=vg at hfg
 cases hfg with
 | clo _ _ _ uv vv hm hu hn hv =>
  have hus:RelL (cellf W) I 0 noβ fs uv.toList:=⟨by simpa using hm,fun j hj=>by
   have:=((hgW ρ.length).rel (hu j hj)).pure0 (hpf j hj)
   have hj':j<uv.size:=by omega
   simpa [Array.getD,List.getD,hj'] using this⟩
  have hvs:RelL (cellf W) I 0 noβ us vv.toList:=⟨by simpa using hn,fun j hj=>by
   have:=((hgW ρ.length).rel (hv j hj)).pure0 (hpu j hj)
   have hj':j<vv.size:=by omega
   simpa [Array.getD,List.getD,hj'] using this⟩
  refine ⟨l,mark,W,{ target:=.fn (.func gf) vv,args:=uv ++ #[.func (.yield l) #[] #[]] },W,gf,uv ++ #[.func (.yield l) #[] #[]] ++ vv,W,hrun,?_,fun _ _=>trivial,?_,fun h=>by simp [fz,Fence.wide] at h,?_⟩
  ·unfold resolve; simp [hvg,Deferred.ofValue]; rfl
  ·simp [invoke,run_callFunc hcb]
  have hy:=hit I (itΦ (Γ:=Γ) H I l { state:=.ready,pending:=none,fn:=fn,tmps:=a.tmps,params:=ps,assign:=assign,body:=body,defers:=D } { a with defers:=mark ++ a.defers } A Inv Q) itΦ_lt itΦ_keep l
   (fun j hj=>itΦ_yield rfl rfl rfl hst.1 (hlen j hj) fun s ρ hi H1 _ h2 h3=>wpH_mono (hround j hj s ρ hi H1 h2 h3) fun e s1 A1 ρ1 hq=>by
    cases e with
    | normal=>exact fun H2 _ h4 h5=>hq H2 h4 h5
    | _=>exact hq.elim)
   W (fun b=>b<W.heap.size) uv vv (fun b hb=>Nat.lt_of_lt_of_le (hf.sr.ilt b hb) hkW.size) (fun _=>.rfl) ⟨fun _ h=>h,hl2,hlW,s,ρ,I,β,M,_,h0,hO⟩ hus hvs
  refine (callsIn_wide (n:=n' - 1)).2 (hy.mono ?_)
  rintro x w3 ⟨u,q,M',rfl,hq,hΦ,m1,m2,hg3,hk3⟩
  have back:∀ {s':Γ.S} {ρ':Store} {I':Nat→Prop} {β':Nat→Option Loc} {M1 F1:Nat→Prop} {w4:World},Out H Γ I l s' { a with defers:=mark ++ a.defers } A ρ' M' w4 I' β' M1 F1→SRelH H Γ s' { a with defers:=mark ++ a.defers } w4 A ρ':=fun h =>
   ⟨hst,_,_,_,h.hk,h.h0,_,⟨h.hF,hMa⟩,h.hg,h.hf⟩
  rcases hq with rfl | rfl
  ·obtain ⟨_,_,hh,s',ρ',I',β',M1,F1,hi,ho⟩:=hΦ
   exact ⟨none,_,run_endLoop hh (by simp),s',A,ρ',back (ho.turned hh rfl rfl),hend _ _ hi⟩
  ·obtain ⟨_,_,c,hh,s',ρ',I',β',M1,F1,hi,ho⟩:=hΦ
   refine ⟨some c,_,run_endLoop hh (by simp),?_⟩
   rcases hi with ⟨rfl,hi⟩ | ⟨id,rfl,hi⟩
   ·exact wpIn_ret ⟨s',A,ρ',back (ho.turned hh rfl rfl),hi⟩
   ·exact wpIn_exit ⟨s',A,ρ',back (ho.turned hh rfl rfl),hi⟩
end Go.Lg

namespace Go.Lg
open Go.RowKit
variable {P:Program}
theorem aLitR_srelH {H:HC} {Γ:Ghost} {s:Γ.S} {A:List AV} {ρ:Store} {o:Oper} {t:TypeId} {len:Nat} {parts:Array (Nat × Operand)} {a w v ρ'} (ho:o.op=.buildSlice t len parts) (hs:SRelH H Γ s a w A ρ)
  (h:aLitR P t len (parts.toList.map fun p=>(p.1,aev A p.2)) ρ v ρ') {K:Act→World→Prop} {Q:Exit→Act→World→Prop}
  (hK:∀ a' w',SRelH H Γ s a' w' (putA A o.dst v) ρ'→K a' w') (n:Nat):o.wpIn (fz H.C.rd) n P a w K Q:=by
 obtain ⟨C',hC,h1,h2⟩:=hs.open
 obtain ⟨I,β,hk,h0,F',hFF,hf⟩:=h1
 have:=(aLitR_step ho hf h).walk K Q (fun u w' I' β' hk' hg hsr hv=>hK _ _ (h2 _ _ _ _ ⟨I',β',hk.trans (hk'.sub hFF.1),h0.trans hg,F',⟨hFF.1,(by cases o.dst <;> exact hFF.2)⟩,hg.frame hf o.dst hsr hv hk'⟩)) C'.rd n
 rwa [hC.1] at this
end Go.Lg
