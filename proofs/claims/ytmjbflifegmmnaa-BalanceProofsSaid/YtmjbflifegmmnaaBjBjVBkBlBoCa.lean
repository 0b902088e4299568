import Derived.Test.YtmjbflifegmmnaaBiBiV
set_option linter.unusedVariables false
set_option linter.unusedSimpArgs false
set_option maxRecDepth 100000
namespace Go.Proofs.Ytmjbflifegmmnaa
open Go Go.Lg
attribute [local irreducible] bodyH
def awaC:Ctr:=⟨10,fun args k=>match args with
 | []=>k (.bool true)
 | _=>False⟩
end Go.Proofs.Ytmjbflifegmmnaa

set_option maxRecDepth 100000
namespace Go.Proofs.Ytmjbflifegmmnaa
open Go Go.Lg
end Go.Proofs.Ytmjbflifegmmnaa

set_option maxRecDepth 100000
namespace Go.Proofs.Ytmjbflifegmmnaa
open Go Go.Lg
attribute [local irreducible] funS bodyH
structure plF (k:Int) (s:Nat):Prop where
 len:(plL s).length≤8
 at_:∀ i,i<(plL s).length→¬ k≤(((plL s).getD i 0:Nat):Int)∧(0<i→(plL s).getD (i - 1) 0<(plL s).getD i 0)
 lt:∀ y ∈ plL s,y<16
 has:∀ x:Int,0≤x→x<k→(plL s).contains x.toNat=hb s x
theorem sm_but {p:Nat→Bool} {g:Nat→Int} {b:Int}:∀ n:Nat,sm (fun j=>!decide ((j:Int)=b) && p j) g n=sm p g n - (if (0≤b∧b<n)∧p b.toNat=true then g b.toNat else 0)
 | 0=>by
  have:¬ ((0≤b∧b<((0:Nat):Int))∧p b.toNat=true):=fun h=>by omega
  rw [if_neg this]; simp [sm]
 | n+1=>by
  have ih:=sm_but (p:=p) (g:=g) (b:=b) n
  simp only [sm,ih]
  by_cases e:(n:Int)=b
  ·have e2:b.toNat=n:=by omega
   have c1:¬ ((0≤b∧b<(n:Int))∧p b.toNat=true):=fun h=>by omega
   rw [if_neg c1]
   simp only [e,decide_true,Bool.not_true,Bool.false_and,cond_false]
   cases hp:p n
   ·rw [if_neg fun h=>by rw [e2,hp] at h; exact absurd h.2 (by simp)]; simp
   ·rw [if_pos ⟨by omega,by rw [e2]; exact hp⟩,e2]; simp
  ·have c:((0≤b∧b<(n:Int))∧p b.toNat=true)↔((0≤b∧b<((n+1:Nat):Int))∧p b.toNat=true):=⟨fun h=>⟨by omega,h.2⟩,fun h=>⟨by omega,h.2⟩⟩
   simp only [c,e,decide_false,Bool.not_false,Bool.true_and]
   omega
theorem ok_g {p:Pl} (h:okP p):okG p:=by
 have hk:=h.k
 refine ⟨by have:=h.n; omega,fun i hi=>?_,fun i hi=>?_,fun i hi=>?_,fun i hi=>?_⟩
 ·have:=h.fr i hi; omega
 ·have:=h.to i hi; omega
 ·have:=h.gas i hi; omega
 ·have:=h.gas i hi; omega
theorem pr_set {b:Bool} {p:Pl} {i:Nat} (h:¬ tgE b p i=own b p.f i):prS b p i (tgE b p i)<pwk p.k∧tkB p.f (prS b p i (tgE b p i)) i=true∧bnd b p.f i (prS b p i (tgE b p i))=tgE b p i:=by
 have ex:∃ s,s<pwk p.k∧tkB p.f s i=true∧tgE b p i=bnd b p.f i s:=by
  cases b
  ·exact (tgt_lo (f:=p.f) (i:=i) (pwk p.k)).2.2.resolve_left h
  ·exact (tgt_hi (f:=p.f) (i:=i) (pwk p.k)).2.2.resolve_left h
 obtain ⟨s,hs,ht,he⟩:=ex
 obtain ⟨h1,h2,h3⟩:=fst_spec (prP b p.f i (tgE b p i)) (pwk p.k)
 have hl:fstN (prP b p.f i (tgE b p i)) (pwk p.k)<pwk p.k:=by
  apply Classical.byContradiction
  intro hx
  have:=h2 s (by omega)
  simp [prP,ht,← he] at this
 have h4:=h3 hl
 have e:prS b p i (tgE b p i)=fstN (prP b p.f i (tgE b p i)) (pwk p.k):=by unfold prS; rw [if_pos hl]
 rw [e]
 refine ⟨hl,?_⟩
 simpa [prP] using h4
end Go.Proofs.Ytmjbflifegmmnaa

set_option maxRecDepth 100000
namespace Go.Proofs.Ytmjbflifegmmnaa
open Go Go.Lg
attribute [local irreducible] funS bodyH
end Go.Proofs.Ytmjbflifegmmnaa

set_option maxRecDepth 100000
namespace Go.Proofs.Ytmjbflifegmmnaa
open Go Go.Lg
attribute [local irreducible] funS bodyH
theorem six {Q:Nat→Prop} (h0:Q 0) (h1:Q 1) (h2:Q 2) (h3:Q 3) (h4:Q 4) (h5:Q 5):∀ i,i<6→Q i:=fun i hi=>by
 have:i=0∨i=1∨i=2∨i=3∨i=4∨i=5:=by omega
 rcases this with rfl | rfl | rfl | rfl | rfl | rfl <;> assumption
theorem s0_ok:okP s0:=by
 refine ⟨by decide +kernel,by decide +kernel,six ?_ ?_ ?_ ?_ ?_ ?_,six ?_ ?_ ?_ ?_ ?_ ?_,six ?_ ?_ ?_ ?_ ?_ ?_,six ?_ ?_ ?_ ?_ ?_ ?_⟩ <;> decide +kernel
theorem s1_ok:okP s1:=by
 refine ⟨by decide +kernel,by decide +kernel,six ?_ ?_ ?_ ?_ ?_ ?_,six ?_ ?_ ?_ ?_ ?_ ?_,six ?_ ?_ ?_ ?_ ?_ ?_,six ?_ ?_ ?_ ?_ ?_ ?_⟩ <;> decide +kernel
theorem s0_c:cEx s0=false:=by kernel_rfl
theorem s1_c:cEx s1=true:=by kernel_rfl
theorem s1_f:plL (cFs s1)=[0,1,2]:=by kernel_rfl
theorem s0_E:chE s0=0:=by rw [chE,if_pos s0_ok,s0_c]; rfl
theorem s0_N:okN s0=6:=by rw [okN,if_pos s0_E]; rfl
theorem a0_:tgE false s0 0=100:=by kernel_rfl
theorem a1_:tgE false s0 1=90:=by kernel_rfl
theorem a2_:tgE false s0 2=5:=by kernel_rfl
theorem a3_:tgE false s0 3=80:=by kernel_rfl
theorem a4_:tgE false s0 4=0:=by kernel_rfl
theorem a5_:tgE false s0 5=80:=by kernel_rfl
theorem b0_:tgE true s0 0=120:=by kernel_rfl
theorem b1_:tgE true s0 1=115:=by kernel_rfl
theorem b2_:tgE true s0 2=10:=by kernel_rfl
theorem b3_:tgE true s0 3=95:=by kernel_rfl
theorem b4_:tgE true s0 4=35:=by kernel_rfl
theorem b5_:tgE true s0 5=95:=by kernel_rfl
theorem f1_:truF s0 1=setF s0.f 0 100:=by show setF s0.f 0 (tgE false s0 0)=_; rw [a0_]
theorem t1_:truV s0 1=90:=by show tgE false ⟨s0.k,truF s0 1⟩ 1=90; rw [f1_]; kernel_rfl
theorem f2_:truF s0 2=setF (setF s0.f 0 100) 1 90:=by show setF (truF s0 1) 1 (truV s0 1)=_; rw [t1_,f1_]
theorem t2_:truV s0 2=10:=by show tgE false ⟨s0.k,truF s0 2⟩ 2=10; rw [f2_]; kernel_rfl
theorem f3_:truF s0 3=setF (setF (setF s0.f 0 100) 1 90) 2 10:=by show setF (truF s0 2) 2 (truV s0 2)=_; rw [t2_,f2_]
theorem t3_:truV s0 3=80:=by show tgE false ⟨s0.k,truF s0 3⟩ 3=80; rw [f3_]; kernel_rfl
theorem f4_:truF s0 4=setF (setF (setF (setF s0.f 0 100) 1 90) 2 10) 3 80:=by show setF (truF s0 3) 3 (truV s0 3)=_; rw [t3_,f3_]
theorem t4_:truV s0 4=10:=by show tgE false ⟨s0.k,truF s0 4⟩ 4=10; rw [f4_]; kernel_rfl
theorem f5_:truF s0 5=setF (setF (setF (setF (setF s0.f 0 100) 1 90) 2 10) 3 80) 4 10:=by show setF (truF s0 4) 4 (truV s0 4)=_; rw [t4_,f4_]
theorem t5_:truV s0 5=80:=by show tgE false ⟨s0.k,truF s0 5⟩ 5=80; rw [f5_]; kernel_rfl
theorem w0_:whE s0 4 true=0:=by
 rw [whE,if_pos s0_ok,if_neg (by decide +kernel),if_pos s0_E]
 rw [if_neg]
 show ¬ tgE true s0 4=own true s0.f 4
 rw [b4_]
 decide +kernel
theorem w1_:whL s0 4 true=[0]:=by
 rw [whL,if_pos w0_]
 show plL (prS true s0 4 (tgE true s0 4))=_
 rw [b4_]
 kernel_rfl
theorem r0_:wrE s0=4:=by rw [wrE,if_pos s0_ok,s0_c]; rfl
theorem r1_:wrE s1=0:=by rw [wrE,if_pos s1_ok,s1_c]; rfl
theorem r2_:wrL s1=[0,1,2]:=by rw [wrL,if_pos r1_,s1_f]
noncomputable def aA:Ans:=⟨okN,truV,tgE false,tgE true,chE,whL,whE,wrL,wrE⟩
theorem A_N:aA.N s0=6:=s0_N
theorem A_E:aA.E s0=0:=s0_E
theorem A_T:∀ i,i<6→aA.T s0 i=if i=0 then 100 else if i - 1=0 then 90 else if i - 1 - 1=0 then 10 else if i - 1 - 1 - 1=0 then 80 else if i - 1 - 1 - 1 - 1=0 then 10 else 80:=six a0_ t1_ t2_ t3_ t4_ t5_
theorem A_A:∀ i,i<6→aA.A s0 i=if i=0 then 100 else if i - 1=0 then 90 else if i - 1 - 1=0 then 5 else if i - 1 - 1 - 1=0 then 80 else if i - 1 - 1 - 1 - 1=0 then 0 else 80:=six a0_ a1_ a2_ a3_ a4_ a5_
theorem A_B:∀ i,i<6→aA.B s0 i=if i=0 then 120 else if i - 1=0 then 115 else if i - 1 - 1=0 then 10 else if i - 1 - 1 - 1=0 then 95 else if i - 1 - 1 - 1 - 1=0 then 35 else 95:=six b0_ b1_ b2_ b3_ b4_ b5_
theorem A_wl:aA.wl s0 4 true=[0]:=w1_
theorem A_we:aA.we s0 4 true=0:=w0_
theorem A_re0:aA.re s0=4:=r0_
theorem A_re1:aA.re s1=0:=r1_
theorem A_rl1:aA.rl s1=[0,1,2]:=r2_
theorem l3_:∀ i,i<3→(([0,1,2]:List Nat).getD i 0:Int)=if i=0 then 0 else if i - 1=0 then 1 else 2:=fun i hi=>by
 have:i=0∨i=1∨i=2:=by omega
 rcases this with rfl | rfl | rfl <;> rfl
theorem l1_:∀ i,i<1→(([0]:List Nat).getD i 0:Int)=0:=fun i hi=>by
 have:i=0:=by omega
 subst this; rfl
theorem P1:pOf (SV.agg [SV.int .i64 4,SV.lst 4 6 fun i=>s1.f.el i])=s1:=rfl
theorem awa_true:awaG aA:=by
 rw [awaG_vc]
 simp only [rI,rE,tt3,tt4,tt5,tt13,tt14,and_true,true_and,Nat.zero_lt_one,and_self,implies_true,Int.toNat_natCast,Nat.zero_add,Nat.add_zero,Nat.one_mul,Nat.mul_one,Classical.not_not,iff_self,Bool.false_eq_true,imp_false,and_imp,true_implies,forall_const,P1]
 refine ⟨Nat.le_refl _,rfl,Nat.le_refl _,rfl,Nat.le_refl _,rfl,Nat.le_refl _,rfl,⟨by decide,by decide,by decide,by decide,rfl,fun i _=>rfl,rfl,rfl,fun i _=>rfl,rfl,rfl,fun i _=>rfl,rfl,rfl,six ?_ ?_ ?_ ?_ ?_ ?_⟩,?_⟩
 ·decide
 ·decide
 ·decide
 ·decide
 ·decide
 ·decide
 simp only [A_N,A_E,A_wl,A_we,A_re0,A_re1,A_rl1,List.length_cons,List.length_nil,and_true,true_and,true_implies,iff_self,implies_true,forall_const]
 have AB:∀ i,i<6→_∧_:=fun i hi=>⟨A_A i hi,A_B i hi⟩
 exact ⟨Nat.le_refl _,rfl,Nat.le_refl _,rfl,rfl,by decide,fun _=>⟨Nat.le_refl _,rfl,rfl,by decide,fun _=>⟨Nat.le_refl _,rfl,rfl,by decide,fun _=>⟨Nat.le_refl _,rfl,rfl,by decide,l3_⟩,l1_⟩,AB⟩,A_T⟩
theorem truD_ok:(truD aA).Ok Try.prog:=tru_ok
theorem tghD_ok:(tghD aA).Ok Try.prog:=tgh_ok
theorem whyD_ok:(whyD aA).Ok Try.prog:=plC_ok (by kernel_rfl) fun w r k hk=>by
 split at hk
 ·rename_i i b
  exact ⟨_,why_does w i b,hk⟩
 ·exact hk.elim
theorem wroD_ok:(wroD aA).Ok Try.prog:=wro_ok
theorem csAw_ok:SoundS Try.prog (csAw aA):=ctrs_sound (by
 intro x hx
 simp only [List.mem_cons,List.not_mem_nil,or_false] at hx
 rcases hx with rfl | rfl | rfl | rfl | rfl | rfl | rfl
 ·exact truD_ok
 ·exact tghD_ok
 ·exact whyD_ok
 ·exact wroD_ok
 ·exact its_ok
 ·exact sps_ok
 ·exact spa_ok)
theorem awa_does:Does Try.prog 10 true (SV.denL []) (SV.bool true).den:=by
 have hh:=awa_true
 unfold awaG at hh
 exact okV csAw_ok (inl_sound (ys:=none) csSp (litX_sound noX_sound) trivial nil_ic mixed) nil_ic hh trivial
theorem awa_ok:awaC.Ok Try.prog:=by
 refine ⟨by kernel_rfl,fun x k hk=>?_⟩
 simp only [awaC] at hk
 split at hk
 ·exact ⟨.bool true,awa_does,hk⟩
 ·exact hk.elim
end Go.Proofs.Ytmjbflifegmmnaa

set_option maxRecDepth 100000
namespace Go.Proofs.Ytmjbflifegmmnaa
open Go Go.Lg
attribute [local irreducible] funS bodyH
theorem sm_none {p:Nat→Bool} {g:Nat→Int}:∀ {n:Nat},(∀ i,i<n→p i=false)→sm p g n=0
 | 0,_=>rfl
 | n+1,h=>by
  have ih:=sm_none (p:=p) (g:=g) (n:=n) fun i hi=>h i (by omega)
  simp [sm,ih,h n (by omega)]
theorem net_out {p:Pl} (hp:okP p) {x:Nat→Int} {v:Nat} (hv:p.k≤(v:Int)):netN p.f x v p.f.n=0:=by
 unfold netN
 rw [sm_none fun i hi=>?_,sm_none fun i hi=>?_]
 ·omega
 all_goals
  have h1:=hp.to i hi
  have h2:=hp.fr i hi
  rw [decide_eq_false_iff_not]; omega
theorem isP_iff {p:Pl} (hp:okP p) {n:Nat} {x:Nat→Int}:isP p n x↔n=p.f.n∧IsT p x:=by
 constructor
 ·intro h
  exact ⟨h.n,h.gas,fun v hv=>h.net v (by have:=hp.k; omega)⟩
 ·rintro ⟨h1,h2⟩
  refine ⟨h1,h2.gas,fun v _=>?_⟩
  by_cases hv:(v:Int)<p.k
  ·exact h2.net v hv
  ·exact net_out hp (by omega)
theorem chE_ok {p:Pl} (hp:okP p) (h:Hof p):chE p=0∧okN p=p.f.n:=by
 have e:chE p=0:=by rw [chE,if_pos hp,cEx_hof.2 h]; rfl
 exact ⟨e,by rw [okN,if_pos e]⟩
theorem chE_no {p:Pl} (hp:okP p) (h:¬ Hof p):chE p=6:=by
 have:cEx p=true:=by
  cases hc:cEx p
  ·exact absurd (cEx_hof.1 hc) h
  ·rfl
 rw [chE,if_pos hp,this]; rfl
structure okE (p:Pl) (i:Nat) (x:Int):Prop where
 hp:okP p
 hi:i<p.f.n
 hx:-2147483648≤x∧x≤2147483648
end Go.Proofs.Ytmjbflifegmmnaa
