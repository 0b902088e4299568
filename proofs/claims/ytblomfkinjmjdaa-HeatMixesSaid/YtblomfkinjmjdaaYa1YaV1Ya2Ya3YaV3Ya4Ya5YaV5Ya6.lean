import Derived.Test.YtblomfkinjmjdaaHhHhVHiHjHk
import Derived.Test.YtblomfkinjmjdaaPv
set_option linter.unusedVariables false
set_option linter.unusedSimpArgs false
set_option maxRecDepth 100000
namespace Go.Proofs.Ytblomfkinjmjdaa
open Go Go.Lg
attribute [local irreducible] funS bodyH
def loZ:(Nat→Int)→Nat→Int:=fun _ _=>0
def hiL (L:Sl):(Nat→Int)→Nat→Int:=fun _ i=>(L.f i).mo
structure rgQ (L:Sl) (v a b:Int) (p:Nat→Int):Prop where
 r:Rig L (dmOf v a b) p
noncomputable def mqQ (L:Sl) (v a b:Int) (d:Nat) (p:Nat→Int):List (Nat→Int):=lsQ loZ (hiL L) (rgQ L v a b) L.n d p
noncomputable def mqU (L:Sl) (v a b:Int) (d:Nat) (p:Nat→Int) (k:Nat):List (Nat→Int):=lsU loZ (hiL L) (rgQ L v a b) L.n d p k
structure mqI (L:Sl) (d:Nat) (k:Nat):Prop where
 a:(k:Int)≤(L.f (L.n - (d+1))).mo+1
noncomputable def mqM:FS→XS→Ms:=fun t X=>match sget 54 t 5 with
 | .sl b _ _=>[some b]
 | _=>[]
structure okV (L:Sl) (v a b:Int):Prop where
 n:L.n≤4
 l:okSl L
 v:1≤v∧v≤80
 s:okSp a b
noncomputable def mqC (M:Nat):OCtr:=⟨36,5,1,fun j=>match j with
 | 1=>some 1
 | _=>none,fun args N h k=>match args with
 | [l,.lst 1 n y,.int .i64 v,.int .i64 a,.int .i64 b,.sl 0 0 x]=>∃ (L:Sl) (O:List (Nat→Int)) (p:Nat→Int),(l=L.sv∧x=N∧(∀ i,i<n→y i=i6 (p i))∧N=O.length∧(∀ i,i<N→h i=rowQ L.n O i)∧n≤L.n∧L.n - n≤M∧okV L v a b∧(O ++ mqQ L v a b (L.n - n) p).length≤1000000)∧k (O ++ mqQ L v a b (L.n - n) p).length (rowQ L.n (O ++ mqQ L v a b (L.n - n) p))
 | _=>False⟩
noncomputable def mqL (L:Sl) (v a b:Int) (d:Nat) (O:List (Nat→Int)) (p:Nat→Int):Nat→Option HSpec :=
 oneL 0 { toLSpec:={ σ:=Nat,inv:=mqI L d,μ:=fun k=>((L.f (L.n - (d+1))).mo+1).toNat - k,nr:=0,ms:=mqM,t:=fun k=>mkF 54 [(0,L.sv),(1,lP (L.n - (d+1)) p),(2,i6 v),(3,i6 a),(4,i6 b),(5,.sl 0 0 (O ++ mqU L v a b d p k).length),(13,i6 (L.n - (d+1):Nat)),(14,i6 k)],X:=fun k=>mkX [rw' 1 (O ++ mqU L v a b d p k).length (rowQ L.n (O ++ mqU L v a b d p k))],rd:=fun _ _ k=>∃ z,k z,rdOK:=fun _ _ _ h=>h } }
noncomputable def mq0G (L:Sl) (v a b:Int) (O:List (Nat→Int)) (p:Nat→Int):Prop:=funO Try.prog (ctrs [rrC]) noX (ictrs []) (octrs []) noL noL 36 [L.sv,lP L.n p,i6 v,i6 a,i6 b,.sl 0 0 O.length] 1 O.length (rowQ L.n O) (O ++ mqQ L v a b 0 p).length (rowQ L.n (O ++ mqQ L v a b 0 p))
noncomputable def mqG (M:Nat) (L:Sl) (v a b:Int) (d:Nat) (O:List (Nat→Int)) (p:Nat→Int):Prop:=funO Try.prog (ctrs [rrC]) noX (ictrs []) (octrs [mqC M]) (mqL L v a b d O p) noL 36 [L.sv,lP (L.n - (d+1)) p,i6 v,i6 a,i6 b,.sl 0 0 O.length] 1 O.length (rowQ L.n O) (O ++ mqQ L v a b (d+1) p).length (rowQ L.n (O ++ mqQ L v a b (d+1) p))
end Go.Proofs.Ytblomfkinjmjdaa

set_option maxRecDepth 100000
namespace Go.Proofs.Ytblomfkinjmjdaa
open Go Go.Lg
theorem mq0G_vc (L:Sl) (v:Int) (a:Int) (b:Int) (O:List (Nat→Int)) (p:Nat→Int):mq0G L v a b O p =
((rE (↑L.1:Int)→(∀ (i:Nat),i<L.1→True∧True∧True∧True∧True∧True)∧(∀ (i:Nat),i<L.1→True)∧((SV.lst (1:Nat) L.n fun i=>i6 (p i))=lP L.n fun i=>iOf (i6 (p i)))∧(SV.lst (5:Nat) L.n fun i=>(L.f i).sv)=(slOf L.n fun i=>(L.f i).sv).sv∧L.1≤(4:Nat)∧okSl (slOf L.n fun i=>(L.f i).sv)∧((1:Int)≤v∧v≤(80:Int))∧okSp a b∧(rigP (slOf L.n fun i=>(L.f i).sv) L.n (fun i=>iOf (i6 (p i))) v a b→True∧(∀ (i:Nat),i<(1:Nat)→rE true)∧rE (0:Nat)∧rE O.length∧O.length+(1:Nat)≤(4611686018427387904:Nat)∧(O.length+(1:Nat))*(24:Nat)≤(140737488355328:Nat)∧O.length+(1:Nat)≤(4611686018427387904:Nat)∧(∀ (i:Nat),i<(O ++ mqQ L v a b (0:Nat) p).length→∀ (i:Nat),i<L.1→True)∧rE (0:Nat)∧O.length+(1:Nat)=(O ++ mqQ L v a b (0:Nat) p).length∧(rowsK (Try.prog.cellsOf (29 :
Nat)) (O.length+(1:Nat)) (appP O.length (1:Nat) (rowO (1:Nat) O.length (rowQ L.n O)).f (chainF [SV.lst (1:Nat) L.1 fun i=>i6 (p i)]))).f=appP O.length (1:Nat) (rowO (1:Nat) O.length (rowQ L.n O)).f (chainF [SV.lst (1:Nat) L.1 fun i=>i6 (p i)])∧rE (O.length+(1:Nat))∧O.length+(1:Nat)≤(4611686018427387904:Nat)∧(O ++ mqQ L v a b (0:Nat) p).length=O.length+(1:Nat)∧(∀ (i:Nat),i<O.length→rE (1:Nat)∧L.1=L.1∧(∀ (i_1:Nat),i_1<L.1→(i6 (O.getD i zF i_1)).den=(i6 ((O ++ mqQ L v a b (0:Nat) p).getD i zF i_1)).den∧True)∧True)∧(∀ (i:Nat),i<(1:Nat)→rE (1:Nat)∧L.1=L.1∧(∀ (i_1:Nat),i_1<L.1→(i6 (p i_1)).den=(i6 ((O ++ mqQ L v a b (0:Nat) p).getD (O.length+i) zF i_1)).den∧True)∧True)∧True)∧(¬rigP (slOf L.n fun i=>(L.f i).sv) L.n (fun i=>iOf (i6 (p i))) v a b→(∀ (i:Nat),i<(O ++
mqQ L v a b (0:Nat) p).length→∀ (i:Nat),i<L.1→True)∧rE (0:Nat)∧O.length=(O ++ mqQ L v a b (0:Nat) p).length∧(O ++ mqQ L v a b (0:Nat) p).length=O.length∧(∀ (i:Nat),i<(O ++ mqQ L v a b (0:Nat) p).length→rE (1:Nat)∧L.1=L.1∧(∀ (i_1:Nat),i_1<L.1→(i6 (O.getD i zF i_1)).den=(i6 ((O ++ mqQ L v a b (0:Nat) p).getD i zF i_1)).den∧True)∧True)∧True))∧(¬(↑L.1:Int)=(↑L.1:Int)→False)):=by kernel_rfl
theorem mqG_vc (M:Nat) (L:Sl) (v:Int) (a:Int) (b:Int) (d:Nat) (O:List (Nat→Int)) (p:Nat→Int):mqG M L v a b d O p =
(((↑(L.1 - (d+(1:Nat))):Int)=(↑L.1:Int)→(∀ (i:Nat),i<L.1→True∧True∧True∧True∧True∧True)∧(∀ (i:Nat),i<L.1 - (d+(1:Nat))→True)∧((SV.lst (1:Nat) (L.n - (d+(1:Nat))) fun i=>i6 (p i))=lP (L.n - (d+(1:Nat))) fun i=>iOf (i6 (p i)))∧(SV.lst (5:Nat) L.n fun i=>(L.f i).sv)=(slOf L.n fun i=>(L.f i).sv).sv∧L.1≤(4:Nat)∧okSl (slOf L.n fun i=>(L.f i).sv)∧((1:Int)≤v∧v≤(80:Int))∧okSp a b∧(rigP (slOf L.n fun i=>(L.f i).sv) (L.n - (d+(1:Nat))) (fun i=>iOf (i6 (p i))) v a b→True∧(∀ (i:Nat),i<(1:Nat)→rE true)∧rE (0:Nat)∧rE O.length∧O.length+(1:Nat)≤(4611686018427387904:Nat)∧(O.length+(1:Nat))*(24:Nat)≤(140737488355328:Nat)∧O.length+(1:Nat)≤(4611686018427387904:Nat)∧(∀ (i:Nat),i<(O ++ mqQ L v a b (d+(1:Nat)) p).length→∀ (i:Nat),i<L.1 →
True)∧rE (0:Nat)∧O.length+(1:Nat)=(O ++ mqQ L v a b (d+(1:Nat)) p).length∧(rowsK (Try.prog.cellsOf (29:Nat)) (O.length+(1:Nat)) (appP O.length (1:Nat) (rowO (1:Nat) O.length (rowQ L.n O)).f (chainF [SV.lst (1:Nat) (L.1 - (d+(1:Nat))) fun i=>i6 (p i)]))).f=appP O.length (1:Nat) (rowO (1:Nat) O.length (rowQ L.n O)).f (chainF [SV.lst (1:Nat) (L.1 - (d+(1:Nat))) fun i=>i6 (p i)])∧rE (O.length+(1:Nat))∧O.length+(1:Nat)≤(4611686018427387904:Nat)∧(O ++ mqQ L v a b (d+(1:Nat)) p).length=O.length+(1:Nat)∧(∀ (i:Nat),i<O.length→rE (1:Nat)∧L.1=L.1∧(∀ (i_1:Nat),i_1<L.1→(i6 (O.getD i zF i_1)).den=(i6 ((O ++ mqQ L v a b (d+(1:Nat)) p).getD i zF i_1)).den∧True)∧True)∧(∀ (i:Nat),i<(1:Nat)→rE (1:Nat)∧L.1 - (d+(1:Nat))=L.1∧(∀ (i_1:Nat),i_1<L.1→(i6 (p i_1)).den=(i6
((O ++ mqQ L v a b (d+(1:Nat)) p).getD (O.length+i) zF i_1)).den∧True)∧True)∧True)∧(¬rigP (slOf L.n fun i=>(L.f i).sv) (L.n - (d+(1:Nat))) (fun i=>iOf (i6 (p i))) v a b→(∀ (i:Nat),i<(O ++ mqQ L v a b (d+(1:Nat)) p).length→∀ (i:Nat),i<L.1→True)∧rE (0:Nat)∧O.length=(O ++ mqQ L v a b (d+(1:Nat)) p).length∧(O ++ mqQ L v a b (d+(1:Nat)) p).length=O.length∧(∀ (i:Nat),i<(O ++ mqQ L v a b (d+(1:Nat)) p).length→rE (1:Nat)∧L.1=L.1∧(∀ (i_1:Nat),i_1<L.1→(i6 (O.getD i zF i_1)).den=(i6 ((O ++ mqQ L v a b (d+(1:Nat)) p).getD i zF i_1)).den∧True)∧True)∧True))∧(¬(↑(L.1 - (d+(1:Nat))):Int)=(↑L.1:Int)→(∃ (z:Nat),mqI L d z∧L.1=L.1∧(∀ (i:Nat),i<L.1→rE ((L.f i).sv.den)∧True∧True∧True∧True∧True∧True)∧rE (L.1 - (d+(1:Nat)))∧(∀ (i:Nat),i<L.1 - (d+(1 :
Nat))→rE ((i6 (p i)).den)∧True)∧v=v∧a=a∧b=b∧rE (0:Nat)∧O.length=(O ++ mqU L v a b d p z).length∧rE (↑(L.1 - (d+(1:Nat))):Int)∧(0:Int)=(↑z:Int)∧(O ++ mqU L v a b d p z).length=O.length∧(∀ (i:Nat),i<(O ++ mqU L v a b d p z).length→rE (1:Nat)∧L.1=L.1∧(∀ (i_1:Nat),i_1<L.1→(i6 (O.getD i zF i_1)).den=(i6 ((O ++ mqU L v a b d p z).getD i zF i_1)).den∧True)∧True)∧True)∧∀ (z:Nat),mqI L d z→(0:Int)≤(↑(L.1 - (d+(1:Nat))):Int)∧(↑(L.1 - (d+(1:Nat))):Int)<(↑L.1:Int)∧((↑z:Int)≤(L.f (↑(L.n - (d+(1:Nat))):Int).toNat).4→(∀ (i:Nat),i<L.1 - (d+(1:Nat))→rE true)∧rE (0:Nat)∧rE (0:Nat)∧(∀ (i:Nat),rE true)∧((0:Nat)+(L.1 - (d+(1:Nat))))*(8:Nat)≤(140737488355328:Nat)∧(0:Nat)+(L.1 - (d+(1:Nat)))≤(4611686018427387904:Nat)∧True∧(∀ (i :
Nat),i<(1:Nat)→rE true)∧rE (0:Nat)∧rE ((0:Nat)+(L.1 - (d+(1:Nat))))∧(∀ (i:Nat),rE true)∧((0:Nat)+(L.1 - (d+(1:Nat)))+(1:Nat))*(8:Nat)≤(140737488355328:Nat)∧(0:Nat)+(L.1 - (d+(1:Nat)))+(1:Nat)≤(4611686018427387904:Nat)∧rE (0:Nat)∧rE ((O ++ mqU L v a b d p z).length)∧(∀ (i:Nat),i<(O ++ mqU L v a b d p z).length→∀ (i:Nat),i<L.1→True)∧(∀ (i:Nat),i<L.1→True∧True∧True∧True∧True∧True)∧(0:Nat)+((0:Nat)+(L.1 - (d+(1:Nat)))+(1:Nat))≤(0:Nat)+(L.1 - (d+(1:Nat)))+(1:Nat)∧(∀ (i:Nat),i<(0:Nat)+(L.1 - (d+(1:Nat)))+(1:Nat)→rE (1:Nat)∧True)∧∃ L_1 O_1 p_1,(nilV ((mqC M).fn.ns (0:Nat)) (SV.lst (5:Nat) L.n fun i=>(L.f i).sv)=L_1.sv∧rE ((O ++ mqU L v a b d p z).length)∧(∀ (i:Nat),i<(0:Nat)+(L.1 - (d+(1:Nat)))+(1 :
Nat)→(rowsK (Try.prog.cellsOf (3:Nat)) ((0:Nat)+(L.n - (d+(1:Nat)))+(1:Nat)) (appF ((0:Nat)+(L.n - (d+(1:Nat)))) (rowsK (Try.prog.cellsOf (3:Nat)) ((0:Nat)+(L.n - (d+(1:Nat)))) (appF (0:Nat) (rowsK (Try.prog.cellsOf (3:Nat)) (0:Nat) fun x=>ofS (Value.int IntKind.i64 (0:Int))).f fun i=>i6 (p i))).f (chainF [SV.int IntKind.i64 (↑z:Int)]))).f (i+(0:Nat))=i6 (p_1 i))∧(O ++ mqU L v a b d p z).length=O_1.length∧(∀ (i:Nat),i<(O ++ mqU L v a b d p z).length→rowQ L.n (O ++ mqU L v a b d p z) i=rowQ L_1.n O_1 i)∧(0:Nat)+(L.1 - (d+(1:Nat)))+(1:Nat)≤L_1.1∧L_1.1 - ((0:Nat)+(L.1 - (d+(1:Nat)))+(1:Nat))≤M∧okV L_1 v a b∧(O_1 ++ mqQ L_1 v a b (L_1.n - ((0:Nat)+(L.n - (d+(1:Nat)))+(1:Nat))) p_1).length≤(1000000:Nat))∧rI ((↑z:Int)+(1:Int))∧∃ (z_1:Nat),mqI L d z_1∧((L.f
(L.n - (d+(1:Nat)))).4+(1:Int)).toNat - z_1<((L.f (L.n - (d+(1:Nat)))).4+(1:Int)).toNat - z∧L.1=L.1∧(∀ (i:Nat),i<L.1→rE ((L.f i).sv.den)∧True∧True∧True∧True∧True∧True)∧rE (L.1 - (d+(1:Nat)))∧(∀ (i:Nat),i<L.1 - (d+(1:Nat))→rE ((i6 (p i)).den)∧True)∧v=v∧a=a∧b=b∧rE (0:Nat)∧(O_1 ++ mqQ L_1 v a b (L_1.n - ((0:Nat)+(L.n - (d+(1:Nat)))+(1:Nat))) p_1).length=(O ++ mqU L v a b d p z_1).length∧rE (↑(L.1 - (d+(1:Nat))):Int)∧(↑z:Int)+(1:Int)=(↑z_1:Int)∧(O ++ mqU L v a b d p z_1).length=(O_1 ++ mqQ L_1 v a b (L_1.n - ((0:Nat)+(L.n - (d+(1:Nat)))+(1:Nat))) p_1).length∧(∀ (i:Nat),i<(O ++ mqU L v a b d p z_1).length→rE (1:Nat)∧L_1.1=L.1∧(∀ (i_1:Nat),i_1<L.1→(i6 ((O_1 ++ mqQ L_1 v a b (L_1.n - ((0:Nat)+(L.n - (d+(1:Nat)))+(1:Nat)))
p_1).getD i zF i_1)).den=(i6 ((O ++ mqU L v a b d p z_1).getD i zF i_1)).den∧True)∧True)∧True)∧(¬(↑z:Int)≤(L.f (↑(L.n - (d+(1:Nat))):Int).toNat).4→(∀ (i:Nat),i<(O ++ mqQ L v a b (d+(1:Nat)) p).length→∀ (i:Nat),i<L.1→True)∧rE (0:Nat)∧(O ++ mqU L v a b d p z).length=(O ++ mqQ L v a b (d+(1:Nat)) p).length∧(O ++ mqQ L v a b (d+(1:Nat)) p).length=(O ++ mqU L v a b d p z).length∧(∀ (i:Nat),i<(O ++ mqQ L v a b (d+(1:Nat)) p).length→rE (1:Nat)∧L.1=L.1∧(∀ (i_1:Nat),i_1<L.1→(i6 ((O ++ mqU L v a b d p z).getD i zF i_1)).den=(i6 ((O ++ mqQ L v a b (d+(1:Nat)) p).getD i zF i_1)).den∧True)∧True)∧True))):=by kernel_rfl
end Go.Proofs.Ytblomfkinjmjdaa

set_option maxRecDepth 100000
namespace Go.Proofs.Ytblomfkinjmjdaa
open Go Go.Lg
attribute [local irreducible] funS bodyH
theorem one_cs {x:Ctr} (h:x.Ok Try.prog):SoundS Try.prog (ctrs [x]):=ctrs_sound (by intro y hy; simp at hy; subst hy; exact h)
theorem mq0_yes {L:Sl} {v a b:Int} {p:Nat→Int} (h:rgQ L v a b p):mqQ L v a b 0 p=[p]:=by unfold mqQ lsQ; rw [if_pos h]
theorem mq0_no {L:Sl} {v a b:Int} {p:Nat→Int} (h:¬ rgQ L v a b p):mqQ L v a b 0 p=[]:=by unfold mqQ lsQ; rw [if_neg h]
theorem mq0_true {L:Sl} {v a b:Int} {O:List (Nat→Int)} {p:Nat→Int} (hV:okV L v a b) (hl:(O ++ mqQ L v a b 0 p).length≤1000000):mq0G L v a b O p:=by
 rw [mq0G_vc]
 simp only [rI,rE,tt3,tt4,tt5,tt13,tt14,and_true,true_and,Nat.zero_lt_one,and_self,implies_true,Int.toNat_natCast,Nat.zero_add,Nat.add_zero,Nat.one_mul,Nat.mul_one,Classical.not_not,iff_self,Bool.false_eq_true,imp_false,and_imp,true_implies,forall_const]
 rw [List.length_append] at hl
 refine ⟨rfl,rfl,hV.n,hV.l,hV.v,hV.s,fun h=>?_,fun h=>?_⟩
 ·have h:rgQ L v a b p:=⟨h.r⟩
  rw [mq0_yes h] at hl ⊢
  have hl:O.length+1≤1000000:=hl
  refine ⟨by omega,by omega,by omega,by simp,rfl,by omega,by simp,fun i hi j hj=>?_,fun i hi j hj=>?_⟩
  ·rw [getD_lo hi]
  ·have:i=0:=by omega
   subst this
   rw [Nat.add_zero,getD_at]
 ·have h:¬ rgQ L v a b p:=fun hh=>h ⟨rfl,hh.r⟩
  rw [mq0_no h,List.append_nil]
  exact ⟨rfl,rfl,fun i hi j hj=>rfl⟩
theorem mqG_true {M:Nat} {L:Sl} {v a b:Int} {d:Nat} {O:List (Nat→Int)} {p:Nat→Int} (hV:okV L v a b) (hd:d+1≤L.n) (hM:d≤M) (hl:(O ++ mqQ L v a b (d+1) p).length≤1000000):mqG M L v a b d O p:=by
 rw [mqG_vc]
 simp only [rI,rE,tt3,tt4,tt5,tt13,tt14,and_true,true_and,Nat.zero_lt_one,and_self,implies_true,Int.toNat_natCast,Nat.zero_add,Nat.add_zero,Nat.one_mul,Nat.mul_one,Classical.not_not,iff_self,Bool.false_eq_true,imp_false,and_imp,true_implies,forall_const]
 have hm:=hV.n
 have su:=hV.l (L.n - (d+1)) (by omega)
 have m0:=su.m0
 have m1:=su.m1
 have ed:L.n - (L.n - (d+1)+1)=d:=by omega
 have eS:mqQ L v a b (d+1) p=mqU L v a b d p ((L.f (L.n - (d+1))).mo+1).toNat:=by
  unfold mqQ mqU lsU
  simp only [lsQ,hiL,loZ,Int.sub_zero]
 rw [eS] at hl ⊢
 rw [List.length_append] at hl
 refine ⟨fun h=>by omega,fun _=>⟨⟨0,⟨by omega⟩,by simp [mqU,lsU_0],rfl,by simp [mqU,lsU_0],fun i hi j hj=>by simp [mqU,lsU_0]⟩,fun z hz=>⟨by omega,by omega,fun hle=>⟨by omega,by omega,by omega,by omega,Nat.le_refl _,?_⟩,fun hgt=>?_⟩⟩⟩
 ·have hlen:=lsU_le (lo:=loZ) (hi:=hiL L) (F:=rgQ L v a b) (m:=L.n) (d:=d) (p:=p) (k:=z+1) (l:=((L.f (L.n - (d+1))).mo+1).toNat) (by omega)
  have e1:O ++ mqU L v a b d p z ++ mqQ L v a b d (upN p (L.n - (d+1)) (loZ p (L.n - (d+1))+(z:Int)))=O ++ mqU L v a b d p (z+1):=by
   unfold mqU mqQ
   rw [lsU_succ,List.append_assoc]
  refine ⟨L,O ++ mqU L v a b d p z,upN p (L.n - (d+1)) (loZ p (L.n - (d+1))+(z:Int)),⟨rfl,fun i hi=>?_,rfl,fun i hi=>rfl,by omega,by omega,hV,?_⟩,by omega,z+1,⟨by omega⟩,by omega,?_,by omega,?_,?_⟩
  ·show i6 (if i<L.n - (d+1) then (if i<0 then 0 else p (i - 0)) else (z:Int))=i6 (upN p (L.n - (d+1)) (loZ p (L.n - (d+1))+(z:Int)) i)
   congr 1
   unfold upN loZ
   by_cases h:i<L.n - (d+1)
   ·rw [if_pos h,if_pos h,if_neg (by omega)]; rfl
   ·rw [if_neg h,if_neg h]; omega
  ·rw [ed,e1,List.length_append]; unfold mqU at *; omega
  ·rw [ed,e1]
  ·rw [ed,e1]
  ·rw [ed,e1]; exact fun i hi=>⟨rfl,fun j hj=>rfl⟩
 ·have hz':=hz.a
  have:z=((L.f (L.n - (d+1))).mo+1).toNat:=by omega
  subst this
  exact ⟨rfl,rfl,fun i hi j hj=>rfl⟩
theorem mq_case {M:Nat} {ox:OX} (hox:SoundO Try.prog ox) (hstep:∀ {L:Sl} {v a b:Int} {d:Nat} {O:List (Nat→Int)} {p:Nat→Int},okV L v a b→d+1≤L.n→d+1≤M→(O ++ mqQ L v a b (d+1) p).length≤1000000→DoesO Try.prog 36 (SV.denL [L.sv,lP (L.n - (d+1)) p,i6 v,i6 a,i6 b,.sl 0 0 O.length]) [denR (some (rowO 1 O.length (rowQ L.n O)))] fun w ρ'=>∃ j n1 h1,w=.sl j 0 n1∧ρ'[j]?=some (denR (some (rowO 1 n1 h1)))∧(∀ i,i<n1→pureS (h1 i))∧n1=(O ++ mqQ L v a b (d+1) p).length∧h1=rowQ L.n (O ++ mqQ L v a b (d+1) p))
  {args:List SV} {N:Nat} {h:Nat→SV} {k:Nat→(Nat→SV)→Prop} (hk:(mqC M).fn.c args N h k):∃ N' h',k N' h' ∧
  DoesO Try.prog 36 (SV.denL args) [denR (some (rowO 1 N h))] fun v ρ'=>∃ j n1 h1,v=.sl j 0 n1∧ρ'[j]?=some (denR (some (rowO 1 n1 h1)))∧(∀ i,i<n1→pureS (h1 i))∧n1=N'∧h1=h':=by
 simp only [mqC] at hk
 split at hk
 ·rename_i l n y v a b x
  obtain ⟨L,O,p,⟨rfl,rfl,hy,rfl,hh,hn,hM,hV,hl⟩,hk⟩:=hk
  refine ⟨_,_,hk,?_⟩
  have ea:SV.denL [L.sv,SV.lst 1 n y,i6 v,i6 a,i6 b,SV.sl 0 0 O.length]=SV.denL [L.sv,lP n p,i6 v,i6 a,i6 b,SV.sl 0 0 O.length]:=by simp only [SV.denL,den_lst hy,lP]
  rw [ea,den_row hh]
  by_cases e:n=L.n
  ·subst e
   rw [Nat.sub_self] at hl ⊢
   exact funO_ok (one_cs rr_ok) (fun Γ γ=>noX_sound) nilS_ic (octrs_sound (l:=[]) (by simp)) mixed (mq0_true hV hl)
  ·obtain ⟨d,hd⟩:∃ d,L.n - n=d+1:=⟨L.n - n - 1,by omega⟩
   have en:n=L.n - (d+1):=by omega
   rw [hd] at hl hM ⊢
   subst en
   exact hstep hV (by omega) hM hl
 ·exact hk.elim
theorem mq_ok:∀ M,(mqC M).Ok Try.prog
 | 0=>⟨by kernel_rfl,fun args N h k hk=>mq_case (ox:=octrs []) (octrs_sound (by simp)) (fun _ _ h _=>absurd h (by omega)) hk⟩
 | M+1=>⟨by kernel_rfl,fun args N h k hk=>mq_case (ox:=octrs [mqC M]) (octrs_sound (by
   intro x hx
   simp at hx
   subst hx
   exact mq_ok M)) (fun hV hd hM hl=>funO_ok (one_cs rr_ok) (fun Γ γ=>noX_sound) nilS_ic (octrs_sound (by
   intro x hx
   simp at hx
   subst hx
   exact mq_ok M)) mixed (mqG_true hV hd (by omega) hl)) hk⟩
end Go.Proofs.Ytblomfkinjmjdaa

set_option maxRecDepth 100000
namespace Go.Proofs.Ytblomfkinjmjdaa
open Go Go.Lg
attribute [local irreducible] funS bodyH
noncomputable def mqO (L:Sl) (v a b:Int):List (Nat→Int):=mqQ L v a b L.n zF
noncomputable def mqS (L:Sl) (v a b:Int) (i:Nat):Int:=csS L ((mqO L v a b).getD i zF) L.n
noncomputable def mqB (L:Sl) (v a b:Int) (z:Nat):bstQ:=bsQ (fun _=>True) (mqS L v a b) z
noncomputable def rmN (L:Sl) (v a b:Int):Nat:=if erX L v a b=0 then L.n else 0
noncomputable def rmR (L:Sl) (v a b:Int):SV:=.tup [lP (rmN L v a b) (mX L v a b),i6 (ctX L v a b),i6 (erX L v a b)]
noncomputable def rmM:FS→XS→Ms:=fun t X=>match sget 71 t 11 with
 | .sl b _ _=>[some b]
 | _=>[]
structure rmI (L:Sl) (v a b:Int) (z:Nat):Prop where
 l:1≤z
 u:z≤(mqO L v a b).length
noncomputable def rmH (L:Sl) (v a b:Int):HSpec :=
 { toLSpec:={ σ:=Nat,inv:=rmI L v a b,μ:=fun i=>(mqO L v a b).length - i,nr:=0,ms:=rmM,t:=fun i=>mkF 71 [(0,L.sv),(11,.sl 0 0 (mqO L v a b).length),(12,lP L.n ((mqO L v a b).getD (mqB L v a b i).j zF)),(13,i6 i)],X:=fun i=>mkX [rw' 1 (mqO L v a b).length (rowQ L.n (mqO L v a b))],rd:=fun _ _ k=>∃ z,k z,rdOK:=fun _ _ _ h=>h } }
noncomputable def rmG (L:Sl) (v a b:Int):Prop:=funY Try.prog (ctrs [rsuC,rinC,rcC]) noX (ictrs []) (octrs [mqC 4]) (oneL 0 (rmH L v a b)) noL 12 [L.sv,i6 v,i6 a,i6 b] (rmR L v a b)
noncomputable def rmC:Ctr:=⟨12,fun args k=>match args with
 | [.lst 5 n f,.int .i64 v,.int .i64 a,.int .i64 b]=>SV.lst 5 n f=(slOf n f).sv∧n≤8∧k (rmR (slOf n f) v a b)
 | _=>False⟩
end Go.Proofs.Ytblomfkinjmjdaa

set_option maxRecDepth 100000
namespace Go.Proofs.Ytblomfkinjmjdaa
open Go Go.Lg
theorem rmG_vc (L:Sl) (v:Int) (a:Int) (b:Int):rmG L v a b =
(((4:Int)<(↑L.1:Int)→(0:Nat)=rmN L v a b∧(0:Int)=ctX L v a b∧(3:Int)=erX L v a b∧True)∧(¬(4:Int)<(↑L.1:Int)→(∀ (i:Nat),i<L.1→True∧True∧True∧True∧True∧True)∧(SV.lst (5:Nat) L.n fun i=>(L.f i).sv)=(slOf L.n fun i=>(L.f i).sv).sv∧L.1≤(1000:Nat)∧(¬okSl (slOf L.n fun i=>(L.f i).sv)→(0:Nat)=rmN L v a b∧(0:Int)=ctX L v a b∧(1:Int)=erX L v a b∧True)∧(¬¬okSl (slOf L.n fun i=>(L.f i).sv)→(¬((1:Int)≤v∧v≤(80:Int))→(0:Nat)=rmN L v a b∧(0:Int)=ctX L v a b∧(2:Int)=erX L v a b∧True)∧(¬¬((1:Int)≤v∧v≤(80:Int))→(a<(0:Int)→(0:Nat)=rmN L v a b∧(0:Int)=ctX L v a b∧(2:Int)=erX L v a b∧True)∧(¬a<(0:Int)→(b<a→(0:Nat)=rmN L v a b∧(0:Int)=ctX L v a b∧(2:Int)=erX L v a b∧True)∧(¬b<a→((10000:Int)<b→(0:Nat) =
rmN L v a b∧(0:Int)=ctX L v a b∧(2:Int)=erX L v a b∧True)∧(¬(10000:Int)<b→(∀ (i:Nat),i<L.1→True∧True∧True∧True∧True∧True)∧∃ L_1 O p,(nilV ((mqC (4:Nat)).fn.ns (0:Nat)) (SV.lst (5:Nat) L.n fun i=>(L.f i).sv)=L_1.sv∧rE (0:Nat)∧(∀ (i:Nat),i<(0:Nat)→SV.any=i6 (p i))∧(0:Nat)=O.length∧(∀ (i:Nat),i<(0:Nat)→SV.any=rowQ L_1.n O i)∧(0:Nat)≤L_1.1∧L_1.1 - (0:Nat)≤(4:Nat)∧okV L_1 v a b∧(O ++ mqQ L_1 v a b (L_1.n - (0:Nat)) p).length≤(1000000:Nat))∧((↑(O ++ mqQ L_1 v a b (L_1.n - (0:Nat)) p).length:Int)=(0:Int)→(0:Nat)=rmN L v a b∧(0:Int)=ctX L v a b∧(4:Int)=erX L v a b∧True)∧(¬(↑(O ++ mqQ L_1 v a b (L_1.n - (0:Nat)) p).length:Int)=(0:Int)→(0:Int)≤(0:Int)∧(0:Int)<(↑(O ++ mqQ L_1 v a b (L_1.n - (0:Nat)) p).length:Int)∧(0:Nat) +
Int.toNat (0:Int)<(O ++ mqQ L_1 v a b (L_1.n - (0:Nat)) p).length∧(∃ (z:Nat),rmI L v a b z∧L.1=L.1∧(∀ (i:Nat),i<L.1→rE ((L.f i).sv.den)∧True∧True∧True∧True∧True∧True)∧rE (0:Nat)∧(O ++ mqQ L_1 v a b (L_1.n - (0:Nat)) p).length=(mqO L v a b).length∧L_1.1=L.1∧(∀ (i:Nat),i<L.1→(i6 ((O ++ mqQ L_1 v a b (L_1.n - (0:Nat)) p).getD ((0:Nat)+Int.toNat (0:Int)) zF i)).den=(i6 ((mqO L v a b).getD (mqB L v a b z).j zF i)).den∧True)∧(1:Int)=(↑z:Int)∧(mqO L v a b).length=(O ++ mqQ L_1 v a b (L_1.n - (0:Nat)) p).length∧(∀ (i:Nat),i<(mqO L v a b).length→rE (1:Nat)∧L_1.1=L.1∧(∀ (i_1:Nat),i_1<L.1→(i6 ((O ++ mqQ L_1 v a b (L_1.n - (0:Nat)) p).getD i zF i_1)).den=(i6 ((mqO L v a b).getD i zF i_1)).den∧True)∧True)∧True)∧∀ (z:Nat),rmI L v a b z→((↑z:Int)<(↑(mqO L v a b).length :
Int)→(0:Int)≤(↑z:Int)∧(↑z:Int)<(↑(mqO L v a b).length:Int)∧(0:Nat)+(↑z:Int).toNat<(mqO L v a b).length∧(∀ (i:Nat),i<L.1→True∧True∧True∧True∧True∧True)∧(∀ (i:Nat),i<L.1→True)∧((SV.lst (1:Nat) L.n fun q=>i6 ((mqO L v a b).getD ((0:Nat)+(↑z:Int).toNat) zF q))=lP L.n fun i=>iOf (i6 ((mqO L v a b).getD ((0:Nat)+(↑z:Int).toNat) zF i)))∧(SV.lst (5:Nat) L.n fun i=>(L.f i).sv)=(slOf L.n fun i=>(L.f i).sv).sv∧L.1≤(4:Nat)∧okSl (slOf L.n fun i=>(L.f i).sv)∧L.1≤L.1∧(∀ (i:Nat),i<L.1→(0:Int)≤(mqO L v a b).getD ((0:Nat)+(↑z:Int).toNat) zF i∧(mqO L v a b).getD ((0:Nat)+(↑z:Int).toNat) zF i≤(L.f i).4)∧(∀ (i:Nat),i<L.1→True∧True∧True∧True∧True∧True)∧(∀ (i:Nat),i<L.1→True)∧((SV.lst (1:Nat) L.n fun i=>i6 ((mqO L v a b).getD (mqB L v a b z).j zF
i))=lP L.n fun i=>iOf (i6 ((mqO L v a b).getD (mqB L v a b z).j zF i)))∧(SV.lst (5:Nat) L.n fun i=>(L.f i).sv)=(slOf L.n fun i=>(L.f i).sv).sv∧L.1≤(4:Nat)∧okSl (slOf L.n fun i=>(L.f i).sv)∧L.1≤L.1∧(∀ (i:Nat),i<L.1→(0:Int)≤(mqO L v a b).getD (mqB L v a b z).2 zF i∧(mqO L v a b).getD (mqB L v a b z).2 zF i≤(L.f i).4)∧(csS (slOf L.n fun i=>(L.f i).sv) (fun i=>iOf (i6 ((mqO L v a b).getD ((0:Nat)+(↑z:Int).toNat) zF i))) L.1<csS (slOf L.n fun i=>(L.f i).sv) (fun i=>iOf (i6 ((mqO L v a b).getD (mqB L v a b z).j zF i))) L.1→(0:Int)≤(↑z:Int)∧(↑z:Int)<(↑(mqO L v a b).length:Int)∧(0:Nat)+(↑z:Int).toNat<(mqO L v a b).length∧rI ((↑z:Int)+(1:Int))∧∃ (z_1:Nat),rmI L v a b z_1∧(mqO L v a b).length - z_1<(mqO L v a b).length - z∧L.1=L.1∧(∀ (i:Nat),i<L.1→rE ((L.f i).sv.den)∧True ∧
True∧True∧True∧True∧True)∧rE (0:Nat)∧rE ((mqO L v a b).length)∧L.1=L.1∧(∀ (i:Nat),i<L.1→(i6 ((mqO L v a b).getD ((0:Nat)+(↑z:Int).toNat) zF i)).den=(i6 ((mqO L v a b).getD (mqB L v a b z_1).j zF i)).den∧True)∧(↑z:Int)+(1:Int)=(↑z_1:Int)∧rE ((mqO L v a b).length)∧(∀ (i:Nat),i<(mqO L v a b).length→rE (1:Nat)∧L.1=L.1∧(∀ (i_1:Nat),i_1<L.1→rE ((i6 ((mqO L v a b).getD i zF i_1)).den)∧True)∧True)∧True)∧(¬csS (slOf L.n fun i=>(L.f i).sv) (fun i=>iOf (i6 ((mqO L v a b).getD ((0:Nat)+(↑z:Int).toNat) zF i))) L.1<csS (slOf L.n fun i=>(L.f i).sv) (fun i=>iOf (i6 ((mqO L v a b).getD (mqB L v a b z).j zF i))) L.1→rI ((↑z:Int)+(1:Int))∧∃ (z_1:Nat),rmI L v a b z_1∧(mqO L v a b).length - z_1<(mqO L v a b).length - z∧L.1=L.1∧(∀ (i:Nat),i<L.1→rE ((L.f i).sv.den)∧True∧True ∧
True∧True∧True∧True)∧rE (0:Nat)∧rE ((mqO L v a b).length)∧L.1=L.1∧(∀ (i:Nat),i<L.1→(i6 ((mqO L v a b).getD (mqB L v a b z).j zF i)).den=(i6 ((mqO L v a b).getD (mqB L v a b z_1).j zF i)).den∧True)∧(↑z:Int)+(1:Int)=(↑z_1:Int)∧rE ((mqO L v a b).length)∧(∀ (i:Nat),i<(mqO L v a b).length→rE (1:Nat)∧L.1=L.1∧(∀ (i_1:Nat),i_1<L.1→rE ((i6 ((mqO L v a b).getD i zF i_1)).den)∧True)∧True)∧True))∧(¬(↑z:Int)<(↑(mqO L v a b).length:Int)→(∀ (i:Nat),i<L.1→True∧True∧True∧True∧True∧True)∧(∀ (i:Nat),i<L.1→True)∧((SV.lst (1:Nat) L.n fun i=>i6 ((mqO L v a b).getD (mqB L v a b z).j zF i))=lP L.n fun i=>iOf (i6 ((mqO L v a b).getD (mqB L v a b z).j zF i)))∧(SV.lst (5:Nat) L.n fun i=>(L.f i).sv)=(slOf L.n fun i=>(L.f i).sv).sv∧L.1≤(4:Nat)∧okSl (slOf L.n fun i=>(L.f i).sv) ∧
L.1≤L.1∧(∀ (i:Nat),i<L.1→(0:Int)≤(mqO L v a b).getD (mqB L v a b z).2 zF i∧(mqO L v a b).getD (mqB L v a b z).2 zF i≤(L.f i).4)∧L.1=rmN L v a b∧(∀ (i:Nat),i<rmN L v a b→(i6 ((mqO L v a b).getD (mqB L v a b z).j zF i)).den=(i6 (mX L v a b i)).den∧True)∧csS (slOf L.n fun i=>(L.f i).sv) (fun i=>iOf (i6 ((mqO L v a b).getD (mqB L v a b z).j zF i))) L.1=ctX L v a b∧(0:Int)=erX L v a b∧True))))))))):=by kernel_rfl
end Go.Proofs.Ytblomfkinjmjdaa

set_option maxRecDepth 100000
namespace Go.Proofs.Ytblomfkinjmjdaa
open Go Go.Lg
attribute [local irreducible] funS bodyH
theorem hi_loc (L:Sl):locQ loZ (hiL L):=fun p q i h=>⟨rfl,rfl⟩
theorem pr21 {L:Sl} (hL:okSl L):∀ d,d≤L.n→prQ (fun i=>((L.f i).mo+1).toNat) L.n d≤21 ^ d
 | 0,_=>by simp [prQ]
 | d+1,hd=>by
  have h1:=pr21 hL d (by omega)
  have m1:=(hL (L.n - (d+1)) (by omega)).m1
  rw [prQ,Nat.pow_succ,Nat.mul_comm _ 21]
  exact Nat.mul_le_mul (by show ((L.f (L.n - (d+1))).mo+1).toNat≤21; omega) h1
section
variable {L:Sl} {v a b:Int}
theorem mo_len (hV:okV L v a b):(mqO L v a b).length≤194481:=by
 have h1:=lsQ_len (lo:=loZ) (hi:=hiL L) (F:=rgQ L v a b) (m:=L.n) (B:=fun i=>((L.f i).mo+1).toNat) (fun p i=>by simp [loZ,hiL]) L.n zF
 have h2:=pr21 hV.l L.n (Nat.le_refl _)
 have h3:21 ^ L.n≤21 ^ 4:=Nat.pow_le_pow_right (by omega) hV.n
 have:(mqO L v a b).length≤_:=h1
 omega
theorem mo_ok {i:Nat} (hi:i<(mqO L v a b).length):Rig L (dmOf v a b) ((mqO L v a b).getD i zF):=(lsQ_mem (hi_loc L) L.n zF _ (Nat.le_refl _) (getD_mem hi)).2.2.r
theorem mo_of {y:Nat→Int} (hy:Rig L (dmOf v a b) y):∃ i,i<(mqO L v a b).length∧∀ j,j<L.n→(mqO L v a b).getD i zF j=y j:=by
 obtain ⟨x,hx,h1⟩:=lsQ_of (hi_loc L) (F:=rgQ L v a b) (q:=y) (fun x h=>⟨rig_congr h hy⟩) L.n zF (Nat.le_refl _) (fun i hi=>by omega) (fun i _ hi=>hy.b i hi)
 obtain ⟨i,hi,e⟩:=getD_of hx
 exact ⟨i,hi,by show ∀ j,j<L.n→(lsQ loZ (hiL L) (rgQ L v a b) L.n L.n zF).getD i zF j=y j; rw [e]; exact h1⟩
theorem mo_lex {i j:Nat} (hij:i<j) (hj:j<(mqO L v a b).length):lexQ L.n ((mqO L v a b).getD i zF) ((mqO L v a b).getD j zF):=getD_pair (lsQ_lex (hi_loc L) L.n zF (Nat.le_refl _)) hij hj
theorem mo_none (hV:okV L v a b):(mqO L v a b).length=0↔¬ erX L v a b=0:=by
 constructor
 ·intro h he
  obtain ⟨i,hi,_⟩:=mo_of (best_of he).r
  omega
 ·intro he
  have h:=((none_of he hV.n hV.l).2 hV.v hV.s).2
  rcases Nat.eq_zero_or_pos (mqO L v a b).length with e | e
  ·exact e
  ·exact absurd (mo_ok e) (h _)
theorem mb_one (hl:0<(mqO L v a b).length):mqB L v a b 1=⟨True,0⟩:=bsQ_yes ⟨trivial,.inl fun h=>h⟩
theorem mb_in {z:Nat} (hz:rmI L v a b z):(mqB L v a b z).w∧(mqB L v a b z).j<z:=by
 rcases bsQ_inv (fun _=>True) (mqS L v a b) z with ⟨_,_,h⟩ | ⟨h1,h2,_⟩
 ·exact absurd trivial (h 0 hz.l)
 ·exact ⟨h1,h2⟩
theorem mb_end (he:erX L v a b=0):(∀ i,i<L.n→(mqO L v a b).getD (mqB L v a b (mqO L v a b).length).j zF i=mX L v a b i)∧mqS L v a b (mqB L v a b (mqO L v a b).length).j=ctX L v a b:=by
 have B:=best_of he
 obtain ⟨i0,hi0,h0⟩:=mo_of B.r
 have v0:mqS L v a b i0=ctX L v a b:=by
  show csS L _ L.n=_
  rw [(same_s (L:=L) h0).2.2.2,B.c]
 rcases bsQ_inv (fun _=>True) (mqS L v a b) (mqO L v a b).length with ⟨_,_,h⟩ | ⟨h1,h2,_,h4⟩
 ·exact absurd trivial (h i0 hi0)
 ·have e:bsQ (fun _=>True) (mqS L v a b) (mqO L v a b).length=mqB L v a b (mqO L v a b).length:=rfl
  rw [e] at h1 h2 h4
  generalize (mqB L v a b (mqO L v a b).length).j=j at h1 h2 h4
  obtain ⟨o1,o2⟩:=B.o _ (mo_ok h2)
  obtain ⟨w1,w2⟩:=h4 i0 hi0 trivial
  rw [← B.c] at o1 o2
  have o3:ctX L v a b≤mqS L v a b j:=o1
  have es:mqS L v a b j=ctX L v a b:=by omega
  have ej:i0=j:=by
   rcases Nat.lt_trichotomy i0 j with e | e | e
   ·have:=w2 e; omega
   ·exact e
   ·obtain ⟨k,hk,hk1,hk2⟩:=mo_lex e hi0
    rcases o2 es with u | ⟨q,hq,u1,u2⟩
    ·have:=u k hk; rw [← h0 k hk] at this; omega
    ·rcases Nat.lt_trichotomy k q with f | f | f
     ·have:=u1 k f; rw [← h0 k hk] at this; omega
     ·subst f; rw [← h0 k hk] at u2; omega
     ·have:=hk1 q f; rw [h0 q hq] at this; omega
  subst ej
  exact ⟨h0,v0⟩
end
theorem rm_true (L:Sl) (v a b:Int):rmG L v a b:=by
 rw [rmG_vc]
 simp only [rI,rE,tt3,tt4,tt5,tt13,tt14,and_true,true_and,Nat.zero_lt_one,and_self,implies_true,Int.toNat_natCast,Nat.zero_add,Nat.add_zero,Nat.one_mul,Nat.mul_one,Classical.not_not,iff_self,Bool.false_eq_true,imp_false,and_imp,true_implies,forall_const,sl_fold,ssv_fold,iOf_i,List.nil_append]
 have no:∀ c:Int,erX L v a b=c→c≠0→0=rmN L v a b∧0=ctX L v a b∧c=erX L v a b:=fun c h hc=>by
  have h0:¬ erX L v a b=0:=by omega
  exact ⟨by unfold rmN; rw [if_neg h0],(ctX_no h0).symm,h.symm⟩
 refine ⟨fun h=>no 3 (erX3 (by omega)) (by omega),fun h=>⟨by omega,fun hL=>no 1 (erX1 (by omega) hL) (by omega),fun hL=>⟨fun hv=>?_,fun hv1 hv2=>⟨fun ha=>?_,fun ha=>⟨fun hb=>?_,fun hb=>⟨fun hc=>?_,fun hc=>?_⟩⟩⟩⟩⟩⟩
 ·exact no 2 (erX2 (by omega) hL fun h=>hv h.1) (by omega)
 ·exact no 2 (erX2 (by omega) hL fun h=>by have:=h.2.a; omega) (by omega)
 ·exact no 2 (erX2 (by omega) hL fun h=>by have:=h.2.b; omega) (by omega)
 ·exact no 2 (erX2 (by omega) hL fun h=>by have:=h.2.c; omega) (by omega)
 ·have hV:okV L v a b:=⟨by omega,hL,⟨hv1,hv2⟩,⟨by omega,by omega,by omega⟩⟩
  have hlen:=mo_len hV
  have hN:([] ++ mqQ L v a b (L.n - 0) zF)=mqO L v a b:=rfl
  refine ⟨L,[],zF,⟨rfl,fun i hi=>by omega,rfl,fun i hi=>by omega,by omega,by omega,hV,?_⟩,?_⟩
  ·rw [hN]; omega
  rw [hN]
  refine ⟨fun h0=>?_,fun h0=>?_⟩
  ·have e:=(mo_none hV).1 (by omega)
   exact no 4 ((none_of e hV.n hV.l).2 hV.v hV.s).1 (by omega)
  have hp:0<(mqO L v a b).length:=by omega
  have he:erX L v a b=0:=Classical.byContradiction fun h=>by have:=(mo_none hV).2 h; omega
  refine ⟨by omega,by omega,hp,⟨1,⟨by omega,by omega⟩,rfl,rfl,fun i hi=>?_,rfl,rfl,fun i hi=>⟨rfl,fun j hj=>rfl⟩⟩,fun z hz=>?_⟩
  ·rw [mb_one hp]; rfl
  have hj:=(mb_in hz).2
  have hu:=hz.u
  refine ⟨fun hl=>?_,fun hl=>?_⟩
  ·have hl':z<(mqO L v a b).length:=by omega
   refine ⟨by omega,hl,hl',rfl,hV.n,hL,Nat.le_refl _,(mo_ok hl').b,rfl,hV.n,hL,Nat.le_refl _,(mo_ok (by omega)).b,fun hc=>?_,fun hc=>?_⟩
   ·have e:mqB L v a b (z+1)=⟨True,z⟩:=bsQ_yes ⟨trivial,.inr hc⟩
    exact ⟨by omega,hl,hl',by omega,z+1,⟨by omega,by omega⟩,by omega,fun i hi=>by rw [e],by omega⟩
   ·have e:mqB L v a b (z+1)=mqB L v a b z:=bsQ_no fun h=>h.2.elim (fun h=>h (mb_in hz).1) hc
    exact ⟨by omega,z+1,⟨by omega,by omega⟩,by omega,fun i hi=>by rw [e],by omega⟩
  ·obtain rfl:z=(mqO L v a b).length:=by omega
   obtain ⟨q1,q2⟩:=mb_end he
   have eN:rmN L v a b=L.n:=by unfold rmN; rw [if_pos he]
   rw [eN]
   exact ⟨rfl,hV.n,hL,Nat.le_refl _,(mo_ok (by omega)).b,rfl,fun i hi=>by rw [q1 i hi],q2,he.symm⟩
theorem rm_ok:rmC.OkF Try.prog:=by
 refine ⟨by kernel_rfl,fun x k hk=>?_⟩
 simp only [rmC] at hk
 split at hk
 ·rename_i n f v a b
  obtain ⟨hf,hn,hk⟩:=hk
  have hh:=rm_true (slOf n f) v a b
  unfold rmG at hh
  rw [← hf] at hh
  exact ⟨_,funY_does (ctrs_sound (by
   intro x hx
   simp only [List.mem_cons,List.not_mem_nil,or_false] at hx
   rcases hx with rfl | rfl | rfl
   ·exact rsu_ok
   ·exact rin_ok
   ·exact rc_ok)) nilS_x nilS_ic (octrs_sound (by
   intro x hx
   simp at hx
   subst hx
   exact mq_ok 4)) mixed hh,hk⟩
 ·exact hk.elim
end Go.Proofs.Ytblomfkinjmjdaa

set_option maxRecDepth 100000
namespace Go.Proofs.Ytblomfkinjmjdaa
open Go Go.Lg
attribute [local irreducible] funS bodyH
def eqN (n:Nat) (f:Nat→Int) (m:Nat) (g:Nat→Int):Prop:=n=m∧∀ i,i<n→f i=g i
noncomputable def isG (n:Nat) (f:Nat→Int) (m:Nat) (g:Nat→Int):Prop:=funH Try.prog (ctrs []) noX (ictrs []) (oneL 0 (natH (fun k=>k≤n∧n=m∧∀ i,i<k→f i=g i) (fun k=>n - k) 0 (fun k=>mkF 26 [(0,lA n f),(1,lP m g),(5,i6 k)]) (fun _=>mkX []) fun _=>none)) noL 13 [lA n f,lP m g] (.dec (eqN n f m g) (Classical.propDecidable _))
noncomputable def isC:Ctr:=⟨13,fun args k=>match args with
 | [.lst 1 n f,.lst 1 m g]=>SV.lst 1 n f=lA n (fun i=>iOf (f i))∧SV.lst 1 m g=lP m (fun i=>iOf (g i))∧n≤1000∧k (.dec (eqN n (fun i=>iOf (f i)) m (fun i=>iOf (g i))) (Classical.propDecidable _))
 | _=>False⟩
noncomputable def prL (L:Sl):Nat→Int
 | 0=>1
 | z+1=>prL L z*(1+(L.f z).mo)
structure hxI (L:Sl) (z:Nat):Prop where
 u:z≤L.n
 k:0<z→okSl L
noncomputable def hxH (L:Sl) (v a b:Int):HSpec:=natH (hxI L) (fun z=>L.n - z) 0 (fun z=>mkF 81 [(0,L.sv),(1,i6 v),(2,i6 a),(3,i6 b),(9,i6 (prL L z)),(10,i6 z)]) (fun _=>mkX []) fun _=>none
noncomputable def hxG (L:Sl) (v a b:Int):Prop:=funH Try.prog (ctrsF [rmC] (ctrs [mxC,rsuC,isC,aliveC])) noX (ictrs []) (oneL 0 (hxH L v a b)) noL 3 [L.sv,i6 v,i6 a,i6 b] (.bool true)
end Go.Proofs.Ytblomfkinjmjdaa

set_option maxRecDepth 100000
namespace Go.Proofs.Ytblomfkinjmjdaa
open Go Go.Lg
theorem isG_vc (n:Nat) (f:Nat→Int) (m:Nat) (g:Nat→Int):isG n f m g =
((¬(↑n:Int)=(↑m:Int)→(false=true↔eqN n f m g)∧True)∧(¬¬(↑n:Int)=(↑m:Int)→(∃ (z:Nat),(z≤n∧n=m∧∀ (i:Nat),i<z→f i=g i)∧n=n∧(∀ (i:Nat),i<n→rE ((SV.agg [i6 (f i)]).den)∧True∧True)∧m=m∧(∀ (i:Nat),i<m→rE ((i6 (g i)).den)∧True)∧(0:Int)=(↑z:Int)∧True)∧∀ (z:Nat),(z≤n∧n=m∧∀ (i:Nat),i<z→f i=g i)→((↑z:Int)<(↑n:Int)→(0:Int)≤(↑z:Int)∧(↑z:Int)<(↑n:Int)∧(0:Int)≤(↑z:Int)∧(↑z:Int)<(↑m:Int)∧(¬f (↑z:Int).toNat=g (↑z:Int).toNat→(false=true↔eqN n f m g)∧True)∧(¬¬f (↑z:Int).toNat=g (↑z:Int).toNat→rI ((↑z:Int)+(1:Int))∧∃ (z_1:Nat),(z_1≤n∧n=m∧∀ (i:Nat),i<z_1→f i=g i)∧n - z_1<n - z∧n=n∧(∀ (i:Nat),i<n→rE ((SV.agg [i6 (f i)]).den)∧True∧True)∧m=m∧(∀ (i:Nat),i<m→rE ((i6 (g i)).den) ∧
True)∧(↑z:Int)+(1:Int)=(↑z_1:Int)∧True))∧(¬(↑z:Int)<(↑n:Int)→(rE true↔eqN n f m g)∧True))):=by kernel_rfl
theorem hxG_vc (L:Sl) (v:Int) (a:Int) (b:Int):hxG L v a b =
(((8:Int)<(↑L.1:Int)→rE true∧True)∧(¬(8:Int)<(↑L.1:Int)→(∃ (z:Nat),hxI L z∧L.1=L.1∧(∀ (i:Nat),i<L.1→rE ((L.f i).sv.den)∧True∧True∧True∧True∧True∧True)∧v=v∧a=a∧b=b∧(1:Int)=prL L z∧(0:Int)=(↑z:Int)∧True)∧∀ (z:Nat),hxI L z→((↑z:Int)<(↑L.1:Int)→(∀ (i:Nat),i<L.1→True∧True∧True∧True∧True∧True)∧(SV.lst (5:Nat) L.n fun i=>(L.f i).sv)=(slOf L.n fun i=>(L.f i).sv).sv∧L.1≤(1000:Nat)∧(okSl (slOf L.n fun i=>(L.f i).sv)→(0:Int)≤(↑z:Int)∧(↑z:Int)<(↑L.1:Int)∧rI ((1:Int)+(L.f (↑z:Int).toNat).4)∧rI (prL L z*((1:Int)+(L.f (↑z:Int).toNat).4))∧((6000:Int)<prL L z*((1:Int)+(L.f (↑z:Int).toNat).4)→((↑L.1:Int)≤(4:Int)→rE true∧True)∧(¬(↑L.1:Int)≤(4:Int)→rI ((↑z:Int)+(1:Int))∧∃ (z_1:Nat),hxI L z_1∧L.1 -
z_1<L.1 - z∧L.1=L.1∧(∀ (i:Nat),i<L.1→rE ((L.f i).sv.den)∧True∧True∧True∧True∧True∧True)∧v=v∧a=a∧b=b∧prL L z*((1:Int)+(L.f (↑z:Int).toNat).4)=prL L z_1∧(↑z:Int)+(1:Int)=(↑z_1:Int)∧True))∧(¬(6000:Int)<prL L z*((1:Int)+(L.f (↑z:Int).toNat).4)→rI ((↑z:Int)+(1:Int))∧∃ (z_1:Nat),hxI L z_1∧L.1 - z_1<L.1 - z∧L.1=L.1∧(∀ (i:Nat),i<L.1→rE ((L.f i).sv.den)∧True∧True∧True∧True∧True∧True)∧v=v∧a=a∧b=b∧prL L z*((1:Int)+(L.f (↑z:Int).toNat).4)=prL L z_1∧(↑z:Int)+(1:Int)=(↑z_1:Int)∧True))∧(¬okSl (slOf L.n fun i=>(L.f i).sv)→(∀ (i:Nat),i<L.1→True∧True∧True∧True∧True∧True)∧(SV.lst (5:Nat) L.n fun i=>(L.f i).sv)=(slOf L.n fun i=>(L.f i).sv).sv∧L.1≤(1000:Nat)∧(∀ (i:Nat),i<L.1→True∧True∧True∧True ∧
True∧True)∧(SV.lst (5:Nat) L.n fun i=>(L.f i).sv)=(slOf L.n fun i=>(L.f i).sv).sv∧L.1≤(8:Nat)∧(∀ (i:Nat),(i<if erX (slOf L.n fun i=>(L.f i).sv) v a b=(0:Int) then L.1 else (0:Nat))→True∧True)∧(∀ (i:Nat),i<rmN (slOf L.n fun i=>(L.f i).sv) v a b→True)∧((SV.lst (1:Nat) (if erX (slOf L.n fun i=>(L.f i).sv) v a b=(0:Int) then (slOf L.n fun i=>(L.f i).sv).n else (0:Nat)) fun i=>SV.agg [i6 (xOf (chS (slOf L.n fun i=>(L.f i).sv) (dmOf v a b)).b i)])=lA (if erX (slOf L.n fun i=>(L.f i).sv) v a b=(0:Int) then (slOf L.n fun i=>(L.f i).sv).n else (0:Nat)) fun i=>iOf (SV.agg [i6 (xOf (chS (slOf L.n fun i=>(L.f i).sv) (dmOf v a b)).b i)]))∧((SV.lst (1:Nat) (rmN (slOf L.n fun i=>(L.f i).sv) v a b) fun i=>i6 (mX (slOf L.n fun i=>(L.f i).sv) v a b i))=lP (rmN (slOf L.n fun i=>(L.f i).sv) v a b) fun i=>iOf
(i6 (mX (slOf L.n fun i=>(L.f i).sv) v a b i)))∧(if erX (slOf L.n fun i=>(L.f i).sv) v a b=(0:Int) then L.1 else (0:Nat))≤(1000:Nat)∧((eqN (if erX (slOf L.n fun i=>(L.f i).sv) v a b=(0:Int) then (slOf L.n fun i=>(L.f i).sv).n else (0:Nat)) (fun i=>iOf (SV.agg [i6 (xOf (chS (slOf L.n fun i=>(L.f i).sv) (dmOf v a b)).b i)])) (rmN (slOf L.n fun i=>(L.f i).sv) v a b) fun i=>iOf (i6 (mX (slOf L.n fun i=>(L.f i).sv) v a b i)))→(rE (ctX (slOf L.n fun i=>(L.f i).sv) v a b)→(rE (erX (slOf L.n fun i=>(L.f i).sv) v a b)→rE true∧True)∧(¬erX (slOf L.n fun i=>(L.f i).sv) v a b=erX (slOf L.n fun i=>(L.f i).sv) v a b→false=true∧True))∧(¬ctX (slOf L.n fun i=>(L.f i).sv) v a b=ctX (slOf L.n fun i=>(L.f i).sv) v a b→false=true∧True))∧((¬eqN (if erX (slOf L.n fun i=>(L.f i).sv) v a b=(0:Int) then (slOf L.n fun i=>(L.f
i).sv).n else (0:Nat)) (fun i=>iOf (SV.agg [i6 (xOf (chS (slOf L.n fun i=>(L.f i).sv) (dmOf v a b)).b i)])) (rmN (slOf L.n fun i=>(L.f i).sv) v a b) fun i=>iOf (i6 (mX (slOf L.n fun i=>(L.f i).sv) v a b i)))→false=true∧True)))∧(¬(↑z:Int)<(↑L.1:Int)→(∀ (i:Nat),i<L.1→True∧True∧True∧True∧True∧True)∧(SV.lst (5:Nat) L.n fun i=>(L.f i).sv)=(slOf L.n fun i=>(L.f i).sv).sv∧L.1≤(1000:Nat)∧(∀ (i:Nat),i<L.1→True∧True∧True∧True∧True∧True)∧(SV.lst (5:Nat) L.n fun i=>(L.f i).sv)=(slOf L.n fun i=>(L.f i).sv).sv∧L.1≤(8:Nat)∧(∀ (i:Nat),(i<if erX (slOf L.n fun i=>(L.f i).sv) v a b=(0:Int) then L.1 else (0:Nat))→True∧True)∧(∀ (i:Nat),i<rmN (slOf L.n fun i=>(L.f i).sv) v a b→True)∧((SV.lst (1:Nat) (if erX (slOf L.n fun i=>(L.f i).sv) v a b=(0:Int) then (slOf L.n fun i =>
(L.f i).sv).n else (0:Nat)) fun i=>SV.agg [i6 (xOf (chS (slOf L.n fun i=>(L.f i).sv) (dmOf v a b)).b i)])=lA (if erX (slOf L.n fun i=>(L.f i).sv) v a b=(0:Int) then (slOf L.n fun i=>(L.f i).sv).n else (0:Nat)) fun i=>iOf (SV.agg [i6 (xOf (chS (slOf L.n fun i=>(L.f i).sv) (dmOf v a b)).b i)]))∧((SV.lst (1:Nat) (rmN (slOf L.n fun i=>(L.f i).sv) v a b) fun i=>i6 (mX (slOf L.n fun i=>(L.f i).sv) v a b i))=lP (rmN (slOf L.n fun i=>(L.f i).sv) v a b) fun i=>iOf (i6 (mX (slOf L.n fun i=>(L.f i).sv) v a b i)))∧(if erX (slOf L.n fun i=>(L.f i).sv) v a b=(0:Int) then L.1 else (0:Nat))≤(1000:Nat)∧((eqN (if erX (slOf L.n fun i=>(L.f i).sv) v a b=(0:Int) then (slOf L.n fun i=>(L.f i).sv).n else (0:Nat)) (fun i=>iOf (SV.agg [i6 (xOf (chS (slOf L.n fun i=>(L.f i).sv) (dmOf v a b)).b i)])) (rmN (slOf L.n fun i=>(L.f i).sv) v a b)
fun i=>iOf (i6 (mX (slOf L.n fun i=>(L.f i).sv) v a b i)))→(rE (ctX (slOf L.n fun i=>(L.f i).sv) v a b)→(rE (erX (slOf L.n fun i=>(L.f i).sv) v a b)→rE true∧True)∧(¬erX (slOf L.n fun i=>(L.f i).sv) v a b=erX (slOf L.n fun i=>(L.f i).sv) v a b→false=true∧True))∧(¬ctX (slOf L.n fun i=>(L.f i).sv) v a b=ctX (slOf L.n fun i=>(L.f i).sv) v a b→false=true∧True))∧((¬eqN (if erX (slOf L.n fun i=>(L.f i).sv) v a b=(0:Int) then (slOf L.n fun i=>(L.f i).sv).n else (0:Nat)) (fun i=>iOf (SV.agg [i6 (xOf (chS (slOf L.n fun i=>(L.f i).sv) (dmOf v a b)).b i)])) (rmN (slOf L.n fun i=>(L.f i).sv) v a b) fun i=>iOf (i6 (mX (slOf L.n fun i=>(L.f i).sv) v a b i)))→false=true∧True)))):=by kernel_rfl
end Go.Proofs.Ytblomfkinjmjdaa

set_option maxRecDepth 100000
namespace Go.Proofs.Ytblomfkinjmjdaa
open Go Go.Lg
attribute [local irreducible] funS bodyH
theorem is_true {n:Nat} {f:Nat→Int} {m:Nat} {g:Nat→Int} (hn:n≤1000):isG n f m g:=by
 rw [isG_vc]
 simp only [rI,rE,tt3,tt4,tt5,tt13,tt14,and_true,true_and,Nat.zero_lt_one,and_self,implies_true,Int.toNat_natCast,Nat.zero_add,Nat.add_zero,Nat.one_mul,Nat.mul_one,Classical.not_not,iff_self,Bool.false_eq_true,imp_false,and_imp,true_implies,forall_const]
 refine ⟨fun h=>⟨fun x=>x.elim,fun x=>h (by rw [x.1])⟩,fun h=>⟨⟨0,⟨by omega,by omega,fun i hi=>by omega⟩,rfl⟩,fun z hz e hi=>⟨fun hl=>⟨by omega,hl,by omega,by omega,fun hne=>⟨fun x=>x.elim,fun x=>hne (x.2 z (by omega))⟩,fun he=>⟨by omega,z+1,⟨by omega,e,fun i hh=>?_⟩,by omega,by omega⟩⟩,fun hl=>⟨fun _=>⟨e,fun i hh=>hi i (by omega)⟩,fun _=>trivial⟩⟩⟩⟩
 by_cases ez:i=z
 ·subst ez; exact he
 ·exact hi i (by omega)
theorem is_ok:isC.Ok Try.prog:=by
 refine ⟨by kernel_rfl,fun x k hk=>?_⟩
 simp only [isC] at hk
 split at hk
 ·rename_i n f m g
  obtain ⟨hf,hg,hn,hk⟩:=hk
  have hh:=is_true (f:=fun i=>iOf (f i)) (m:=m) (g:=fun i=>iOf (g i)) hn
  unfold isG at hh
  rw [← hf,← hg] at hh
  exact ⟨_,Does.plain (funH_does nilS_cs nilS_x nilS_ic mixed hh) trivial,hk⟩
 ·exact hk.elim
theorem pr_bd {L:Sl} (hL:okSl L):∀ z,z≤L.n→1≤prL L z∧prL L z≤(21:Int) ^ z
 | 0,_=>⟨Int.le_refl _,by simp [prL]⟩
 | z+1,hz=>by
  have ih:=pr_bd hL z (by omega)
  have s:=hL z (by omega)
  have m0:=s.m0
  have m1:=s.m1
  rw [prL,Int.pow_succ]
  refine ⟨?_,Int.mul_le_mul ih.2 (by omega) (by omega) (by omega)⟩
  have:=Int.mul_le_mul ih.1 (by omega:(1:Int)≤1+(L.f z).mo) (by omega) (by omega)
  omega
theorem pr_top {L:Sl} (hL:okSl L) (h8:L.n≤8) {z:Nat} (hz:z≤L.n):1≤prL L z∧prL L z≤37822859361:=by
 have h:=pr_bd hL z hz
 have h2:(21:Nat) ^ z≤21 ^ 8:=Nat.pow_le_pow_right (by omega) (by omega)
 have h3:((21:Nat) ^ z:Nat)=(21:Int) ^ z:=by simp
 have h4:(21:Nat) ^ 8=37822859361:=by decide
 rw [h4] at h2
 omega
theorem pt_eq (L:Sl) (v a b:Int):eqN (if erX L v a b=0 then L.n else 0) (fun i=>xOf (chS L (dmOf v a b)).b i) (rmN L v a b) fun i=>mX L v a b i:=⟨rfl,fun i hi=>rfl⟩
theorem hx_true (L:Sl) (v a b:Int):hxG L v a b:=by
 rw [hxG_vc]
 simp only [rI,rE,tt3,tt4,tt5,tt13,tt14,and_true,true_and,Nat.zero_lt_one,and_self,implies_true,Int.toNat_natCast,Nat.zero_add,Nat.add_zero,Nat.one_mul,Nat.mul_one,Classical.not_not,iff_self,Bool.false_eq_true,imp_false,and_imp,true_implies,forall_const,sl_fold,ssv_fold,iOf_i,iOf_a,pt_eq,not_true,false_implies]
 intro h8
 have h8':L.n≤8:=by omega
 have hP:(if erX L v a b=0 then L.n else 0)≤1000:=by split <;> omega
 refine ⟨⟨0,⟨by omega,fun h=>by omega⟩,rfl,rfl⟩,fun z hz=>⟨fun hl=>⟨by omega,fun hL=>?_,fun _=>⟨by omega,h8',rfl,rfl,hP,fun _ h=>h,pt_eq L v a b⟩⟩,fun _=>⟨by omega,h8',rfl,rfl,hP,fun _ h=>h,pt_eq L v a b⟩⟩⟩
 have s:=hL z (by omega)
 have m0:=s.m0
 have m1:=s.m1
 have hp:1≤prL L z*(1+(L.f z).mo)∧prL L z*(1+(L.f z).mo)≤37822859361:=pr_top hL h8' (z:=z+1) (by omega)
 exact ⟨by omega,hl,by omega,by omega,fun _ _=>⟨by omega,z+1,⟨by omega,fun _=>hL⟩,by omega,rfl,by omega⟩,fun _=>⟨by omega,z+1,⟨by omega,fun _=>hL⟩,by omega,rfl,by omega⟩⟩
theorem hx_cs:SoundS Try.prog (ctrsF [rmC] (ctrs [mxC,rsuC,isC,aliveC])):=ctrsF_sound (ctrs_sound (by
 intro x hx
 simp only [List.mem_cons,List.not_mem_nil,or_false] at hx
 rcases hx with rfl | rfl | rfl | rfl
 ·exact mx_ok
 ·exact rsu_ok
 ·exact is_ok
 ·exact alive_ok)) (by intro x hx; simp at hx; subst hx; exact rm_ok)
end Go.Proofs.Ytblomfkinjmjdaa
