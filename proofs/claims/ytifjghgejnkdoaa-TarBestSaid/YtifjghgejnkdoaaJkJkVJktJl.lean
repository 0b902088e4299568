import Derived.Test.YtifjghgejnkdoaaJhJhVJitJi
set_option linter.unusedVariables false
set_option linter.unusedSimpArgs false
namespace Go.Proofs.Ytifjghgejnkdoaa
open Go Go.Lg
attribute [local irreducible] bodyH funS
noncomputable def crL (f:Nat→Sti) (m:Nat):Nat→Crs→List Crs
 | 0,c=>[c]
 | d+1,c=>(List.range ((f (m - (d+1))).most.toNat+1)).flatMap fun t=>by
  classical exact if canP c (f (m - (d+1))) t then crL f m d (r17 (nxC c (m - (d+1):Nat) (f (m - (d+1))) t)) else []
open Classical in
noncomputable def sbC (f:Nat→Sti) (m a:Nat) (c:Crs) (t:Nat):List Crs:=if canP c (f a) t then crL f m (m - (a+1)) (r17 (nxC c a (f a) t)) else []
noncomputable def cnC (f:Nat→Sti) (m a:Nat) (c:Crs) (t:Nat):Nat:=((List.range t).flatMap (sbC f m a c)).length
noncomputable def crA (f:Nat→Sti) (m a:Nat) (c:Crs):List Crs:=crL f m (m - a) c
structure okSs (m:Nat) (f:Nat→Sti):Prop where
 a:m≤4
 b:∀ i,i<m→okSt (f i)∧okT (f i).most
def crsV (m:Nat) (f:Nat→Sti) (a:Int) (c:Crs):SV:=.clo (.func 45) [] [.ipt [i6 a],.ipt [stiL m f],.ipt c.cells]
noncomputable def cuG (m:Nat) (f:Nat→Sti) (a:Int) (c:Crs):Prop:=funH Try.prog (ctrs []) noX (ictrs []) noL noL 27 [stiL m f,i6 a,c.sv] (crsV m f a c)
noncomputable def cuC:Ctr:=⟨27,fun args k=>match args with
 | [.lst 5 m f,.int .i64 a,v]=>crK v fun c=>SV.lst 5 m f=stiL m (fun i=>stiOf (f i))∧k (crsV m (fun i=>stiOf (f i)) a c)
 | _=>False⟩
structure ciP (M m:Nat) (f:Nat→Sti) (a:Int) (c:Crs):Prop where
 a0:0≤a
 a1:a≤m
 s:okSs m f
 b:bdC (100000000*(a+1)) c
 M:m - a.toNat<M
noncomputable def ciC (M:Nat):ICtr:=⟨45,fun fs us k=>match fs,us with
 | [],[.ipt [.int .i64 a],.ipt [.lst 5 m f],.ipt cs]=>crK (.agg cs) fun c=>SV.lst 5 m f=stiL m (fun i=>stiOf (f i))∧ciP M m (fun i=>stiOf (f i)) a c∧k (crA (fun i=>stiOf (f i)) m a.toNat c).length 1 fun j=>[((crA (fun i=>stiOf (f i)) m a.toNat c).getD j zC).sv]
 | _,_=>False⟩
structure cjP (m:Nat) (f:Nat→Sti) (a:Nat) (c:Crs) (t:Nat):Prop where
 h:a<m
 k:t≤(f a).most.toNat+1
structure ckP (m:Nat) (f:Nat→Sti) (a:Nat) (c:Crs) (t:Nat):Prop where
 h:a<m
 k:t≤(f a).most.toNat
 p:canP c (f a) t
noncomputable def ciF (m:Nat) (f:Nat→Sti) (a:Nat) (c:Crs) (l:List (Nat × SV)):FS:=mkF 49 ([(0,.yld 0),(1,.ipt [i6 a]),(2,.ipt [stiL m f]),(3,.ipt c.cells),(4,.ptr 1 0 0),(21,i6 ((f a).most+1))] ++ l)
noncomputable def rd22:FS→XS→(Nat→Prop)→Prop:=fun t X k=>match sget 49 t 22 with
 | .int _ z=>k z.toNat
 | _=>False
theorem rd22_ok (t:FS) (X:XS) (k:Nat→Prop) (h:rd22 t X k):∃ s,k s:=by
 unfold rd22 at h
 split at h
 ·exact ⟨_,h⟩
 ·exact h.elim
noncomputable def ciR (m:Nat) (f:Nat→Sti) (a:Nat) (c:Crs):HSpec :=
 { toLSpec:={ σ:=Nat,inv:=fun t=>a<m∧t≤(f a).most.toNat,μ:=fun _=>0,nr:=2,ms:=fun t _=>(match sget 49 t 6 with | .ptr r _ _=>[some r] | _=>[]),t:=fun t=>ciF m f a c [(6,.ptr 2 0 0),(7,.dec (canP c (f a) t) (Classical.propDecidable _)),(22,i6 t)],X:=fun t=>mkX [none,vr 1 (.yld 0),vr 17 (wiX c a (f a) t).sv],rd:=rd22,rdOK:=rd22_ok },D:=[(12,2)],nb:=some 2,par:=some ⟨rd22,rd22_ok⟩,kinv:=fun y t=>t=y }
noncomputable def ci1 (M m:Nat) (f:Nat→Sti) (a:Nat) (c:Crs):Prop:=itH Try.prog (ctrsF [cuC] (ctrs [wiC])) noX (ictrs [ciC M])
 (twoL 1006 (ciR m f a c) <| oneL 0 (natH (fun t=>cjP m f a c t) (fun t=>(f a).most.toNat+1 - t) 2 (fun t=>mkF 49 [(0,.yld 0),(1,.ipt [i6 a]),(2,.ipt [stiL m f]),(3,.ipt c.cells),(4,.ptr 1 0 0),(21,i6 ((f a).most+1)),(22,i6 t)]) (fun _=>mkX [none,vr 1 (.yld 0)]) fun t=>some (cnC f m a c t)))
 (oneL 2 (itN 49 22 2 (fun y _=>ckP m f a c y) (fun y=>mkF 49 [(0,.yld 0),(1,.ipt [i6 a]),(2,.ipt [stiL m f]),(3,.ipt c.cells),(4,.ptr 1 0 0),(21,i6 ((f a).most+1)),(22,i6 y)]) (fun _ _=>mkX [none,vr 1 (.yld 0)]) fun y j=>some (cnC f m a c y+j)))
 45 [] [.ipt [i6 a],.ipt [stiL m f],.ipt c.cells] (crA f m a c).length fun j=>[((crA f m a c).getD j zC).sv]
end Go.Proofs.Ytifjghgejnkdoaa

set_option maxRecDepth 100000
namespace Go.Proofs.Ytifjghgejnkdoaa
open Go Go.Lg
theorem cuG_vc (m:Nat) (f:Nat→Sti) (a:Int) (c:Crs):cuG m f a c =
((0:Nat)<(1:Nat)∧a=a∧(0:Nat)<(1:Nat)∧m=m∧(∀ (i:Nat),i<m→rE ((f i).sv.den)∧True∧True∧(∀ (i_1:Nat),i_1<(f i).3→True∧True∧True)∧True∧True∧True)∧(0:Nat)<(1:Nat)∧rE (c.1 (0:Nat))∧rE (c.1 (1:Nat))∧rE (c.1 (2:Nat))∧rE (c.1 (3:Nat))∧rE ((c.l (0:Nat)).1)∧rE ((c.l (0:Nat)).2)∧rE ((c.l (1:Nat)).1)∧rE ((c.l (1:Nat)).2)∧rE ((c.l (2:Nat)).1)∧rE ((c.l (2:Nat)).2)∧rE ((c.l (3:Nat)).1)∧rE ((c.l (3:Nat)).2)∧rE ((c.l (4:Nat)).1)∧rE ((c.l (4:Nat)).2)∧rE ((c.l (5:Nat)).1)∧rE ((c.l (5:Nat)).2)∧c.3=c.3∧True):=by kernel_rfl
theorem ci1_vc (M:Nat) (m:Nat) (f:Nat→Sti) (a:Nat) (c:Crs):ci1 M m f a c=(((↑a:Int)=(↑m:Int)→(0:Nat)<(1:Nat)∧(0:Nat)<(crA f m a c).length∧(e17 c ((crA f m a c).getD (0:Nat) zC) ((1:Nat)=(crA f m a c).length∧True)))∧(¬(↑a:Int)=(↑m:Int)→(0:Int)≤(↑a:Int)∧(↑a:Int)<(↑m:Int)∧rI ((f (↑a:Int).toNat).6+(1:Int))∧(∃ (z:Nat),cjP m f a c z∧(0:Nat)=cnC f m a c z∧rE (SV.denL [i6 (↑a:Int)])∧(True∧True)∧rE (SV.denL [stiL m f])∧((∀ (i:Nat),i<m→True∧True∧(∀ (i_1:Nat),i_1<(f i).3→True∧True∧True)∧True∧True∧True)∧True)∧rE (SV.denL c.cells)∧(True∧True∧True∧True∧True∧True∧True∧True∧True∧True∧True∧True∧True∧True∧True∧True∧True∧True)∧rE (0:Nat)∧rE (0:Nat)∧(f (↑a:Int).toNat).6+(1:Int)=(f a).6+(1:Int)∧(0:Int)=(↑z:Int) ∧
True)∧∀ (z:Nat),cjP m f a c z→((↑z:Int)<(f a).6+(1:Int)→(True∧True∧True∧True∧True∧(0:Int)≤(↑a:Int)∧(↑a:Int)<(↑m:Int)∧True∧True∧True∧(∀ (i:Nat),i<(f (↑a:Int).toNat).3→True∧True∧True)∧(SV.lst (2:Nat) (f (↑a:Int).toNat).on fun i=>((f (↑a:Int).toNat).out i).sv)=twL (f (↑a:Int).toNat).on (ftOf fun i=>((f (↑a:Int).toNat).out i).sv)∧((0:Int)≤(↑a:Int)∧(↑a:Int)≤(3:Int))∧okSt (Sti.mk (f (↑a:Int).toNat).inn (f (↑a:Int).toNat).takes (f (↑a:Int).toNat).on (ftOf fun i=>((f (↑a:Int).toNat).out i).sv) (f (↑a:Int).toNat).pay (f (↑a:Int).toNat).most)∧okT (↑z:Int)∧bdC (10000000000:Int) (r17 c)∧True∧True∧True∧True∧True∧True∧((a<m∧(↑z:Int).toNat≤(f a).6.toNat)∧rE ((↑z:Int).toNat))∧rE (SV.denL [i6 (↑a:Int)])∧(True∧True)∧rE (SV.denL [stiL m f])∧((∀ (i:Nat),
i<m→True∧True∧(∀ (i_1:Nat),i_1<(f i).3→True∧True∧True)∧True∧True∧True)∧True)∧rE (SV.denL c.cells)∧(True∧True∧True∧True∧True∧True∧True∧True∧True∧True∧True∧True∧True∧True∧True∧True∧True∧True)∧rE (0:Nat)∧rE (0:Nat)∧rE (0:Nat)∧rE (0:Nat)∧(canP (r17 c) (Sti.mk (f (↑a:Int).toNat).inn (f (↑a:Int).toNat).takes (f (↑a:Int).toNat).on (ftOf fun i=>((f (↑a:Int).toNat).out i).sv) (f (↑a:Int).toNat).pay (f (↑a:Int).toNat).most) (↑z:Int)↔canP c (f a) (↑(↑z:Int).toNat:Int))∧rE ((f a).6+(1:Int))∧(↑z:Int)=(↑(↑z:Int).toNat:Int)∧(e17 (wiX (r17 c) (↑a:Int) (Sti.mk (f (↑a:Int).toNat).inn (f (↑a:Int).toNat).takes (f (↑a:Int).toNat).on (ftOf fun i=>((f (↑a:Int).toNat).out i).sv) (f (↑a:Int).toNat).pay (f (↑a:Int).toNat).most) (↑z:Int)) (wiX c (↑a:Int) (f a) (↑(↑z:Int).toNat
: Int)) (True)))∧∀ (z_1:Nat),(a<m∧z_1≤(f a).6.toNat)∧z_1=(↑z:Int).toNat→(¬canP c (f a) (↑z_1:Int)→cnC f m a c z=(crA f m a c).length)∧(¬¬canP c (f a) (↑z_1:Int)→rI ((↑a:Int)+(1:Int))∧(0:Nat)<(1:Nat)∧(∀ (i:Nat),i<m→True∧True∧(∀ (i_1:Nat),i_1<(f i).3→True∧True∧True)∧True∧True∧True)∧((SV.lst (5:Nat) m fun i=>(f i).sv)=stiL m fun i=>stiOf (f i).sv)∧(∀ (i:Nat),i<m→True∧True∧(∀ (i_1:Nat),i_1<(f i).3→True∧True∧True)∧True∧True∧True)∧((SV.lst (5:Nat) m fun i=>(stiOf (f i).sv).sv)=stiL m fun i=>stiOf (stiOf (f i).sv).sv)∧ciP M m (fun i=>stiOf (stiOf (f i).sv).sv) ((↑a:Int)+(1:Int)) (r17 (wiX c (↑a:Int) (f a) (↑z_1:Int)))∧((True∧True)∧((∀ (i:Nat),i<m→True∧True∧(∀ (i_1:Nat),i_1<(f i).3→True∧True∧True)∧True∧True∧True)∧True)∧(True
∧ True∧True∧True∧True∧True∧True∧True∧True∧True∧True∧True∧True∧True∧True∧True∧True∧True)∧(True∧True)∧((∀ (i:Nat),i<m→True∧True∧(∀ (i_1:Nat),i_1<(f i).3→True∧True∧True)∧True∧True∧True)∧True)∧(True∧True∧True∧True∧True∧True∧True∧True∧True∧True∧True∧True∧True∧True∧True∧True∧True∧True)∧∃ (z_2:Nat),(z_2=(0:Nat)∧ckP m f a c (↑z_1:Int).toNat)∧cnC f m a c z=cnC f m a c (↑z_1:Int).toNat+(0:Nat)∧rE (SV.denL [i6 (↑a:Int)])∧(True∧True)∧rE (SV.denL [stiL m f])∧((∀ (i:Nat),i<m→True∧True∧(∀ (i_1:Nat),i_1<(f i).3→True∧True∧True)∧True∧True∧True)∧True)∧rE (SV.denL c.cells)∧(True∧True∧True∧True∧True∧True∧True∧True∧True∧True∧True∧True∧True∧True∧True∧True∧True∧True)∧rE (0:Nat)∧rE (0:Nat)∧rE ((f a).6
+ (1:Int))∧(↑z_1:Int)=(↑(↑z_1:Int).toNat:Int)∧rE (Fn.func (45:FuncId))∧SV.denL [i6 ((↑a:Int)+(1:Int))]=SV.denL [SV.int IntKind.i64 ((↑a:Int)+(1:Int))]∧(True∧True)∧SV.denL [stiL m fun i=>stiOf (f i).sv]=SV.denL [SV.lst (5:Nat) m fun i=>(stiOf (f i).sv).sv]∧((∀ (i:Nat),i<m→True∧True∧(∀ (i_1:Nat),i_1<(f i).3→True∧True∧True)∧True∧True∧True)∧True)∧SV.denL (r17 (wiX c (↑a:Int) (f a) (↑z_1:Int))).cells=SV.denL [SV.int IntKind.i64 ((wiX c (↑a:Int) (f a) (↑z_1:Int)).p (0:Nat)),SV.int IntKind.i64 ((wiX c (↑a:Int) (f a) (↑z_1:Int)).p (1:Nat)),SV.int IntKind.i64 ((wiX c (↑a:Int) (f a) (↑z_1:Int)).p (2:Nat)),SV.int IntKind.i64 ((wiX c (↑a:Int) (f a) (↑z_1:Int)).p (3:Nat)),SV.int IntKind.i64 ((wiX c (↑a:Int) (f a) (↑z_1:Int)).l (0:Nat)).lo,SV.int IntKind.i64 ((wiX c (↑a:Int) (f a)
(↑z_1:Int)).l (0:Nat)).hi,SV.int IntKind.i64 ((wiX c (↑a:Int) (f a) (↑z_1:Int)).l (1:Nat)).lo,SV.int IntKind.i64 ((wiX c (↑a:Int) (f a) (↑z_1:Int)).l (1:Nat)).hi,SV.int IntKind.i64 ((wiX c (↑a:Int) (f a) (↑z_1:Int)).l (2:Nat)).lo,SV.int IntKind.i64 ((wiX c (↑a:Int) (f a) (↑z_1:Int)).l (2:Nat)).hi,SV.int IntKind.i64 ((wiX c (↑a:Int) (f a) (↑z_1:Int)).l (3:Nat)).lo,SV.int IntKind.i64 ((wiX c (↑a:Int) (f a) (↑z_1:Int)).l (3:Nat)).hi,SV.int IntKind.i64 ((wiX c (↑a:Int) (f a) (↑z_1:Int)).l (4:Nat)).lo,SV.int IntKind.i64 ((wiX c (↑a:Int) (f a) (↑z_1:Int)).l (4:Nat)).hi,SV.int IntKind.i64 ((wiX c (↑a:Int) (f a) (↑z_1:Int)).l (5:Nat)).lo,SV.int IntKind.i64 ((wiX c (↑a:Int) (f a) (↑z_1:Int)).l (5:Nat)).hi,SV.int IntKind.i64 (wiX c (↑a:Int) (f a) (↑z_1:Int)).c]∧(True∧True∧True∧True∧True∧True∧True∧True∧True
∧ True∧True∧True∧True∧True∧True∧True∧True∧True)∧True)∧(∀ (j:Nat),j<(crA (fun i=>stiOf (stiOf (f i).sv).sv) m ((↑a:Int)+(1:Int)).toNat (r17 (wiX c (↑a:Int) (f a) (↑z_1:Int)))).length→∀ (z:Nat),z=j∧ckP m f a c (↑z_1:Int).toNat→(0:Nat)<(1:Nat)∧(0:Nat)<(1:Nat)∧cnC f m a c (↑z_1:Int).toNat+j<(crA f m a c).length∧(e17 ((crA (fun i=>stiOf (stiOf (f i).sv).sv) m ((↑a:Int)+(1:Int)).toNat (r17 (wiX c (↑a:Int) (f a) (↑z_1:Int)))).getD j zC) ((crA f m a c).getD (cnC f m a c (↑z_1:Int).toNat+j) zC) ((∃ (z:Nat),(z=j.succ∧ckP m f a c (↑z_1:Int).toNat)∧(cnC f m a c (↑z_1:Int).toNat+j).succ=cnC f m a c (↑z_1:Int).toNat+j.succ∧True)∧True)))∧∀ (z_2:Nat),z_2=(crA (fun i=>stiOf (stiOf (f i).sv).sv) m ((↑a:Int)+(1:Int)).toNat (r17 (wiX c (↑a:Int) (f a) (↑z_1:Int)))).length∧ckP
m f a c (↑z_1:Int).toNat→rI ((↑(↑z_1:Int).toNat:Int)+(1:Int))∧∃ (z_3:Nat),cjP m f a c z_3∧(f a).6.toNat+(1:Nat) - z_3<(f a).6.toNat+(1:Nat) - z∧cnC f m a c (↑z_1:Int).toNat+(crA (fun i=>stiOf (stiOf (f i).sv).sv) m ((↑a:Int)+(1:Int)).toNat (r17 (wiX c (↑a:Int) (f a) (↑z_1:Int)))).length=cnC f m a c z_3∧rE (SV.denL [i6 (↑a:Int)])∧(True∧True)∧rE (SV.denL [stiL m f])∧((∀ (i:Nat),i<m→True∧True∧(∀ (i_1:Nat),i_1<(f i).3→True∧True∧True)∧True∧True∧True)∧True)∧rE (SV.denL c.cells)∧(True∧True∧True∧True∧True∧True∧True∧True∧True∧True∧True∧True∧True∧True∧True∧True∧True∧True)∧rE (0:Nat)∧rE (0:Nat)∧rE ((f a).6+(1:Int))∧(↑(↑z_1:Int).toNat:Int)+(1:Int)=(↑z_3:Int)∧True))∧(¬(↑z:Int)<(f a).6+(1:Int)→cnC f m a c z=(crA f m a c).length))) :=
by kernel_rfl
end Go.Proofs.Ytifjghgejnkdoaa

namespace Go.Proofs.Ytifjghgejnkdoaa
open Go Go.Lg
end Go.Proofs.Ytifjghgejnkdoaa

set_option maxRecDepth 100000
namespace Go.Proofs.Ytifjghgejnkdoaa
open Go Go.Lg
attribute [local irreducible] funS bodyH
theorem crA_end (f:Nat→Sti) (m:Nat) (c:Crs):crA f m m c=[c]:=by unfold crA; rw [Nat.sub_self]; rfl
theorem crA_step (f:Nat→Sti) {m a:Nat} (c:Crs) (h:a<m):crA f m a c=(List.range ((f a).most.toNat+1)).flatMap (sbC f m a c):=by
 unfold crA
 rw [show m - a=(m - (a+1))+1 by omega]
 simp only [crL]
 rw [show m - (m - (a+1)+1)=a by omega]
 rfl
theorem cnC_zero (f:Nat→Sti) (m a:Nat) (c:Crs):cnC f m a c 0=0:=rfl
theorem cnC_succ (f:Nat→Sti) (m a:Nat) (c:Crs) (t:Nat):cnC f m a c (t+1)=cnC f m a c t+(sbC f m a c t).length:=by
 unfold cnC
 rw [List.range_succ,List.flatMap_append]
 simp
theorem sbC_yes {f:Nat→Sti} {m a:Nat} {c:Crs} {t:Nat} (h:canP c (f a) t):sbC f m a c t=crA f m (a+1) (r17 (wiX c a (f a) t)):=by
 unfold sbC crA
 rw [if_pos h,wiX,if_pos h]
theorem sbC_no {f:Nat→Sti} {m a:Nat} {c:Crs} {t:Nat} (h:¬ canP c (f a) t):sbC f m a c t=[]:=by
 unfold sbC
 rw [if_neg h]
theorem can_mono {c:Crs} {s:Sti} {t t':Int} (hs:0≤s.takes) (h:canP c s t') (ht:t≤t'):canP c s t:=by
 unfold canP at *
 have:=Int.mul_le_mul_of_nonneg_right ht hs
 omega
theorem cn_total {f:Nat→Sti} {m a:Nat} {c:Crs} (h:a<m):cnC f m a c ((f a).most.toNat+1)=(crA f m a c).length:=by
 rw [crA_step f c h]; rfl
theorem cn_stop {f:Nat→Sti} {m a:Nat} {c:Crs} {z:Nat} (hs:0≤(f a).takes) (hn:¬ canP c (f a) z):∀ d,cnC f m a c (z+d)=cnC f m a c z
 | 0=>rfl
 | d+1=>by
  rw [← Nat.add_assoc,cnC_succ,cn_stop hs hn d,sbC_no fun h=>hn (can_mono hs h (by push_cast; omega))]
  rfl
theorem cn_get {f:Nat→Sti} {m a:Nat} {c:Crs} {z i:Nat} (h:a<m) (hz:z≤(f a).most.toNat) (hi:i<(sbC f m a c z).length):cnC f m a c z+i<(crA f m a c).length∧(crA f m a c).getD (cnC f m a c z+i) zC=(sbC f m a c z).getD i zC:=by
 have e:∀ d,(List.range (z+1+d)).flatMap (sbC f m a c)=(List.range z).flatMap (sbC f m a c) ++ sbC f m a c z ++ (List.range d).flatMap fun q=>sbC f m a c (z+1+q):=by
  intro d
  induction d with
  | zero=>simp [List.range_succ]
  | succ d ih =>
   rw [← Nat.add_assoc,List.range_succ,List.flatMap_append,ih,List.range_succ,List.flatMap_append]
   simp
 have e3:=e ((f a).most.toNat - z)
 rw [show z+1+((f a).most.toNat - z)=(f a).most.toNat+1 by omega,← crA_step f c h] at e3
 have hl:((List.range z).flatMap (sbC f m a c)).length=cnC f m a c z:=rfl
 rw [e3]
 constructor
 ·simp only [List.length_append]; omega
 ·simp only [List.getD]
  rw [List.append_assoc,List.getElem?_append_right (by omega),hl,show cnC f m a c z+i - cnC f m a c z=i by omega,List.getElem?_append_left hi]
theorem nx_bd {B:Int} {c:Crs} {a:Int} {s:Sti} {t:Int} (h:bdC B c) (hB:0≤B) (hs:okSt s) (ht:okT t):bdC (B+100000000) (nxC c a s t):=by
 have pay:=mul_bd ht.1 ht.2 hs.p0 hs.p1
 refine ⟨?_,?_⟩
 ·exact bd_ad (bd_ad (bd_ad (bd_z (b:=0) (by omega)) h.1 (c:=B) (by omega)) (bd_tk hs ht) (c:=B+10000000) (by omega)) (bd_md hs ht) (c:=B+100000000) (by omega)
 ·have:=h.2
  show _≤c.c+t*s.pay∧c.c+t*s.pay≤_
  omega
theorem e17_len {c d:Crs} {r:Prop} (h:c=d) (hr:r):e17 c d r:=by subst h; exact e17_r hr
theorem cu_true (m:Nat) (f:Nat→Sti) (a:Int) (c:Crs):cuG m f a c:=by
 rw [cuG_vc]
 simp [rE]
theorem cu_ok:cuC.OkF Try.prog:=by
 refine ⟨by kernel_rfl,fun x k hk=>?_⟩
 simp only [cuC] at hk
 split at hk
 ·rename_i m f a v
  obtain ⟨c,rfl,hf,hk⟩:=crK_spec hk
  have hh:=cu_true m (fun i=>stiOf (f i)) a c
  unfold cuG at hh
  rw [← hf] at hh
  exact ⟨_,funH_does nilS_cs nilS_x nilS_ic mixed hh,hk⟩
 ·exact hk.elim
theorem ci_true {M m:Nat} {f:Nat→Sti} {a:Nat} {c:Crs} (h:ciP (M+1) m f a c):ci1 M m f a c:=by
 rw [ci1_vc]
 simp only [rI,rE,tt3,tt4,tt5,tt13,tt14,and_true,true_and,Nat.zero_lt_one,and_self,implies_true,Int.toNat_natCast,Nat.zero_add,Nat.add_zero,Nat.one_mul,Nat.mul_one,Classical.not_not,iff_self,Bool.false_eq_true,imp_false,and_imp,true_implies,forall_const,gdV_cells,sc1,sc0,ft_fold,sti_fold,sal_fold,yd_fold,iOf_fold,stiOf_fold,salOf_fold,yv_fold]
 have a1:=h.a1
 have hM:=h.M
 have hma:=h.s.a
 simp only [Int.toNat_natCast] at hM
 refine ⟨fun e=>?_,fun e=>?_⟩
 ·have e:a=m:=by omega
  subst e
  rw [crA_end]
  exact ⟨Nat.one_pos,e17_r rfl⟩
 ·have ha:a<m:=by omega
  obtain ⟨hs,ht⟩:=h.s.b a ha
  have t0:=ht.1
  have t8:=ht.2
  have tk:=hs.t0
  refine ⟨by omega,by omega,by omega,⟨0,⟨ha,by omega⟩,(cnC_zero f m a c).symm,rfl⟩,fun z hz=>⟨fun hl=>⟨⟨by omega,by omega,rfl,by omega,hs,⟨by omega,by omega⟩,bdC_r ⟨bd_mono h.b.1 (by omega),by have:=h.b.2; omega⟩,⟨ha,by omega⟩,can_r (by have:=hs.i0; have:=hs.i1; omega),?_⟩,?_⟩,fun hl=>?_⟩⟩
  ·by_cases hc:canP c (f a) z
   ·rw [wiX,if_pos ((can_r (by have:=hs.i0; have:=hs.i1; omega)).2 hc),wiX,if_pos hc]
    exact nx_r trivial
   ·rw [wiX,if_neg fun hh=>hc ((can_r (by have:=hs.i0; have:=hs.i1; omega)).1 hh),wiX,if_neg hc]
    exact e17_r trivial
  ·rintro z1 _ hz1 rfl
   refine ⟨fun hn=>?_,fun hc=>?_⟩
   ·rw [← cn_total ha]
    have:=cn_stop (m:=m) (by omega:0≤(f a).takes) hn ((f a).most.toNat+1 - z1)
    rw [show z1+((f a).most.toNat+1 - z1)=(f a).most.toNat+1 by omega] at this
    exact this.symm
   ·have es:=sbC_yes (m:=m) hc
    have ea:((a:Int)+1).toNat=a+1:=by omega
    rw [ea,← es]
    refine ⟨by omega,rfl,rfl,⟨by omega,by omega,h.s,?_,by omega⟩,⟨0,⟨rfl,ha,hz1,hc⟩,rfl,rfl,rfl⟩,fun j hj z hz _=>?_,fun z2 hz2 _=>⟨by omega,z1+1,⟨ha,by omega⟩,by omega,(cnC_succ f m a c z1).symm,by omega⟩⟩
    ·rw [wiX,if_pos hc]
     have:=nx_bd (a:=(a:Int)) (t:=(z1:Int)) h.b (by omega) hs ⟨by omega,by omega⟩
     have e:(100000000:Int)*((a:Int)+1)+100000000=100000000*((a:Int)+1+1):=by omega
     rw [e] at this
     exact bdC_r this
    ·obtain ⟨g1,g2⟩:=cn_get ha hz1 hj
     exact ⟨g1,e17_len g2.symm ⟨j+1,⟨rfl,ha,hz1,hc⟩,by omega⟩⟩
  ·have hk:=hz.k
   have:z=(f a).most.toNat+1:=by omega
   rw [this]; exact cn_total ha
theorem ciC_ok:∀ M,(ciC M).Ok Try.prog
 | 0=>⟨by kernel_rfl,fun fs us k hk=>by
  simp only [ciC] at hk
  split at hk
  ·obtain ⟨c,_,_,h,_⟩:=crK_spec hk
   have:=h.M
   omega
  ·exact hk.elim⟩
 | M+1=>⟨by kernel_rfl,fun fs us k hk=>by
  have ih:=ciC_ok M
  have hic:SoundIH Try.prog (ictrs [ciC M]):=ictrs_sound (by
   intro x hx
   simp only [List.mem_cons,List.not_mem_nil,or_false] at hx
   subst hx
   exact ih)
  simp only [ciC] at hk
  split at hk
  ·rename_i a m f cs
   obtain ⟨c,ec,hf,hP,hk⟩:=crK_spec hk
   have ha:=hP.a0
   have e:((a.toNat:Nat):Int)=a:=by omega
   have key:ci1 M m (fun i=>stiOf (f i)) a.toNat c:=ci_true (by rw [e]; exact hP)
   unfold ci1 at key
   rw [e,← hf] at key
   have ec:cs=c.cells:=by
    have:SV.agg cs=SV.agg c.cells:=ec
    injection this
   rw [← ec] at key
   have:=itH_ok (ctrsF_sound (one_cs wi_ok) (by intro x hx; simp at hx; subst hx; exact cu_ok)) (fun Γ γ _=>noX_sound) hic mixed key
   exact ⟨_,1,_,this,fun j hj=>rfl,hk⟩
  ·exact hk.elim⟩
end Go.Proofs.Ytifjghgejnkdoaa
