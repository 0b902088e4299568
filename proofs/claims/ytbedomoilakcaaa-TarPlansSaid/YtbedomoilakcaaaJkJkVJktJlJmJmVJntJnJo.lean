import Derived.Test.YtbedomoilakcaaaJhJhVJitJi
set_option linter.unusedVariables false
set_option linter.unusedSimpArgs false
namespace Go.Proofs.Ytbedomoilakcaaa
open Go Go.Lg
attribute [local irreducible] bodyH funS
noncomputable def crL (f:Nat→Sti) (m:Nat):Nat→Crs→List Crs
 | 0,c=>[c]
 | d+1,c=>(List.range ((f (m - (d+1))).most.toNat+1)).flatMap fun t=>by
  classical exact if canP c (f (m - (d+1))) t then crL f m d (r17 (nxC c (m - (d+1):Nat) (f (m - (d+1))) t)) else []
open Classical in
noncomputable def sbC (f:Nat→Sti) (m a:Nat) (c:Crs) (t:Nat):List Crs:=if canP c (f a) t then crL f m (m - (a+1)) (r17 (nxC c a (f a) t)) else []
noncomputable def cnC (f:Nat→Sti) (m a:Nat) (c:Crs) (t:Nat):Nat:=((List.range t).flatMap (sbC f m a c)).length
noncomputable def crA (f:Nat→Sti) (m a:Nat) (c:Crs):List Crs:=crL f m (m - a) c
structure okSs (m:Nat) (f:Nat→Sti):Prop where
 a:m≤4
 b:∀ i,i<m→okSt (f i)∧okT (f i).most
def crsV (m:Nat) (f:Nat→Sti) (a:Int) (c:Crs):SV:=.clo (.func 45) [] [.ipt [i6 a],.ipt [stiL m f],.ipt c.cells]
noncomputable def cuG (m:Nat) (f:Nat→Sti) (a:Int) (c:Crs):Prop:=funH Try.prog (ctrs []) noX (ictrs []) noL noL 27 [stiL m f,i6 a,c.sv] (crsV m f a c)
noncomputable def cuC:Ctr:=⟨27,fun args k=>match args with
 | [.lst 5 m f,.int .i64 a,v]=>crK v fun c=>SV.lst 5 m f=stiL m (fun i=>stiOf (f i))∧k (crsV m (fun i=>stiOf (f i)) a c)
 | _=>False⟩
structure ciP (M m:Nat) (f:Nat→Sti) (a:Int) (c:Crs):Prop where
 a0:0≤a
 a1:a≤m
 s:okSs m f
 b:bdC (100000000*(a+1)) c
 M:m - a.toNat<M
noncomputable def ciC (M:Nat):ICtr:=⟨45,fun fs us k=>match fs,us with
 | [],[.ipt [.int .i64 a],.ipt [.lst 5 m f],.ipt cs]=>crK (.agg cs) fun c=>SV.lst 5 m f=stiL m (fun i=>stiOf (f i))∧ciP M m (fun i=>stiOf (f i)) a c∧k (crA (fun i=>stiOf (f i)) m a.toNat c).length 1 fun j=>[((crA (fun i=>stiOf (f i)) m a.toNat c).getD j zC).sv]
 | _,_=>False⟩
structure cjP (m:Nat) (f:Nat→Sti) (a:Nat) (c:Crs) (t:Nat):Prop where
 h:a<m
 k:t≤(f a).most.toNat+1
structure ckP (m:Nat) (f:Nat→Sti) (a:Nat) (c:Crs) (t:Nat):Prop where
 h:a<m
 k:t≤(f a).most.toNat
 p:canP c (f a) t
noncomputable def ciF (m:Nat) (f:Nat→Sti) (a:Nat) (c:Crs) (l:List (Nat × SV)):FS:=mkF 49 ([(0,.yld 0),(1,.ipt [i6 a]),(2,.ipt [stiL m f]),(3,.ipt c.cells),(4,.ptr 1 0 0),(21,i6 ((f a).most+1))] ++ l)
noncomputable def rd22:FS→XS→(Nat→Prop)→Prop:=fun t X k=>match sget 49 t 22 with
 | .int _ z=>k z.toNat
 | _=>False
theorem rd22_ok (t:FS) (X:XS) (k:Nat→Prop) (h:rd22 t X k):∃ s,k s:=by
 unfold rd22 at h
 split at h
 ·exact ⟨_,h⟩
 ·exact h.elim
noncomputable def ciR (m:Nat) (f:Nat→Sti) (a:Nat) (c:Crs):HSpec :=
 { toLSpec:={ σ:=Nat,inv:=fun t=>a<m∧t≤(f a).most.toNat,μ:=fun _=>0,nr:=2,ms:=fun t _=>(match sget 49 t 6 with | .ptr r _ _=>[some r] | _=>[]),t:=fun t=>ciF m f a c [(6,.ptr 2 0 0),(7,.dec (canP c (f a) t) (Classical.propDecidable _)),(22,i6 t)],X:=fun t=>mkX [none,vr 1 (.yld 0),vr 17 (wiX c a (f a) t).sv],rd:=rd22,rdOK:=rd22_ok },D:=[(12,2)],nb:=some 2,par:=some ⟨rd22,rd22_ok⟩,kinv:=fun y t=>t=y }
noncomputable def ci1 (M m:Nat) (f:Nat→Sti) (a:Nat) (c:Crs):Prop:=itH Try.prog (ctrsF [cuC] (ctrs [wiC])) noX (ictrs [ciC M])
 (twoL 1006 (ciR m f a c) <| oneL 0 (natH (fun t=>cjP m f a c t) (fun t=>(f a).most.toNat+1 - t) 2 (fun t=>mkF 49 [(0,.yld 0),(1,.ipt [i6 a]),(2,.ipt [stiL m f]),(3,.ipt c.cells),(4,.ptr 1 0 0),(21,i6 ((f a).most+1)),(22,i6 t)]) (fun _=>mkX [none,vr 1 (.yld 0)]) fun t=>some (cnC f m a c t)))
 (oneL 2 (itN 49 22 2 (fun y _=>ckP m f a c y) (fun y=>mkF 49 [(0,.yld 0),(1,.ipt [i6 a]),(2,.ipt [stiL m f]),(3,.ipt c.cells),(4,.ptr 1 0 0),(21,i6 ((f a).most+1)),(22,i6 y)]) (fun _ _=>mkX [none,vr 1 (.yld 0)]) fun y j=>some (cnC f m a c y+j)))
 45 [] [.ipt [i6 a],.ipt [stiL m f],.ipt c.cells] (crA f m a c).length fun j=>[((crA f m a c).getD j zC).sv]
end Go.Proofs.Ytbedomoilakcaaa

set_option maxRecDepth 100000
namespace Go.Proofs.Ytbedomoilakcaaa
open Go Go.Lg
theorem cuG_vc (m:Nat) (f:Nat→Sti) (a:Int) (c:Crs):cuG m f a c =
((0:Nat)<(1:Nat)∧a=a∧(0:Nat)<(1:Nat)∧m=m∧(∀ (i:Nat),i<m→rE ((f i).sv.den)∧True∧True∧(∀ (i_1:Nat),i_1<(f i).3→True∧True∧True)∧True∧True∧True)∧(0:Nat)<(1:Nat)∧rE (c.1 (0:Nat))∧rE (c.1 (1:Nat))∧rE (c.1 (2:Nat))∧rE (c.1 (3:Nat))∧rE ((c.l (0:Nat)).1)∧rE ((c.l (0:Nat)).2)∧rE ((c.l (1:Nat)).1)∧rE ((c.l (1:Nat)).2)∧rE ((c.l (2:Nat)).1)∧rE ((c.l (2:Nat)).2)∧rE ((c.l (3:Nat)).1)∧rE ((c.l (3:Nat)).2)∧rE ((c.l (4:Nat)).1)∧rE ((c.l (4:Nat)).2)∧rE ((c.l (5:Nat)).1)∧rE ((c.l (5:Nat)).2)∧c.3=c.3∧True):=by kernel_rfl
theorem ci1_vc (M:Nat) (m:Nat) (f:Nat→Sti) (a:Nat) (c:Crs):ci1 M m f a c=(((↑a:Int)=(↑m:Int)→(0:Nat)<(1:Nat)∧(0:Nat)<(crA f m a c).length∧(e17 c ((crA f m a c).getD (0:Nat) zC) ((1:Nat)=(crA f m a c).length∧True)))∧(¬(↑a:Int)=(↑m:Int)→(0:Int)≤(↑a:Int)∧(↑a:Int)<(↑m:Int)∧rI ((f (↑a:Int).toNat).6+(1:Int))∧(∃ (z:Nat),cjP m f a c z∧(0:Nat)=cnC f m a c z∧rE (SV.denL [i6 (↑a:Int)])∧(True∧True)∧rE (SV.denL [stiL m f])∧((∀ (i:Nat),i<m→True∧True∧(∀ (i_1:Nat),i_1<(f i).3→True∧True∧True)∧True∧True∧True)∧True)∧rE (SV.denL c.cells)∧(True∧True∧True∧True∧True∧True∧True∧True∧True∧True∧True∧True∧True∧True∧True∧True∧True∧True)∧rE (0:Nat)∧rE (0:Nat)∧(f (↑a:Int).toNat).6+(1:Int)=(f a).6+(1:Int)∧(0:Int)=(↑z:Int) ∧
True)∧∀ (z:Nat),cjP m f a c z→((↑z:Int)<(f a).6+(1:Int)→(True∧True∧True∧True∧True∧(0:Int)≤(↑a:Int)∧(↑a:Int)<(↑m:Int)∧True∧True∧True∧(∀ (i:Nat),i<(f (↑a:Int).toNat).3→True∧True∧True)∧(SV.lst (2:Nat) (f (↑a:Int).toNat).on fun i=>((f (↑a:Int).toNat).out i).sv)=twL (f (↑a:Int).toNat).on (ftOf fun i=>((f (↑a:Int).toNat).out i).sv)∧((0:Int)≤(↑a:Int)∧(↑a:Int)≤(3:Int))∧okSt (Sti.mk (f (↑a:Int).toNat).inn (f (↑a:Int).toNat).takes (f (↑a:Int).toNat).on (ftOf fun i=>((f (↑a:Int).toNat).out i).sv) (f (↑a:Int).toNat).pay (f (↑a:Int).toNat).most)∧okT (↑z:Int)∧bdC (10000000000:Int) (r17 c)∧True∧True∧True∧True∧True∧True∧((a<m∧(↑z:Int).toNat≤(f a).6.toNat)∧rE ((↑z:Int).toNat))∧rE (SV.denL [i6 (↑a:Int)])∧(True∧True)∧rE (SV.denL [stiL m f])∧((∀ (i:Nat),
i<m→True∧True∧(∀ (i_1:Nat),i_1<(f i).3→True∧True∧True)∧True∧True∧True)∧True)∧rE (SV.denL c.cells)∧(True∧True∧True∧True∧True∧True∧True∧True∧True∧True∧True∧True∧True∧True∧True∧True∧True∧True)∧rE (0:Nat)∧rE (0:Nat)∧rE (0:Nat)∧rE (0:Nat)∧(canP (r17 c) (Sti.mk (f (↑a:Int).toNat).inn (f (↑a:Int).toNat).takes (f (↑a:Int).toNat).on (ftOf fun i=>((f (↑a:Int).toNat).out i).sv) (f (↑a:Int).toNat).pay (f (↑a:Int).toNat).most) (↑z:Int)↔canP c (f a) (↑(↑z:Int).toNat:Int))∧rE ((f a).6+(1:Int))∧(↑z:Int)=(↑(↑z:Int).toNat:Int)∧(e17 (wiX (r17 c) (↑a:Int) (Sti.mk (f (↑a:Int).toNat).inn (f (↑a:Int).toNat).takes (f (↑a:Int).toNat).on (ftOf fun i=>((f (↑a:Int).toNat).out i).sv) (f (↑a:Int).toNat).pay (f (↑a:Int).toNat).most) (↑z:Int)) (wiX c (↑a:Int) (f a) (↑(↑z:Int).toNat
: Int)) (True)))∧∀ (z_1:Nat),(a<m∧z_1≤(f a).6.toNat)∧z_1=(↑z:Int).toNat→(¬canP c (f a) (↑z_1:Int)→cnC f m a c z=(crA f m a c).length)∧(¬¬canP c (f a) (↑z_1:Int)→rI ((↑a:Int)+(1:Int))∧(0:Nat)<(1:Nat)∧(∀ (i:Nat),i<m→True∧True∧(∀ (i_1:Nat),i_1<(f i).3→True∧True∧True)∧True∧True∧True)∧((SV.lst (5:Nat) m fun i=>(f i).sv)=stiL m fun i=>stiOf (f i).sv)∧(∀ (i:Nat),i<m→True∧True∧(∀ (i_1:Nat),i_1<(f i).3→True∧True∧True)∧True∧True∧True)∧((SV.lst (5:Nat) m fun i=>(stiOf (f i).sv).sv)=stiL m fun i=>stiOf (stiOf (f i).sv).sv)∧ciP M m (fun i=>stiOf (stiOf (f i).sv).sv) ((↑a:Int)+(1:Int)) (r17 (wiX c (↑a:Int) (f a) (↑z_1:Int)))∧((True∧True)∧((∀ (i:Nat),i<m→True∧True∧(∀ (i_1:Nat),i_1<(f i).3→True∧True∧True)∧True∧True∧True)∧True)∧(True
∧ True∧True∧True∧True∧True∧True∧True∧True∧True∧True∧True∧True∧True∧True∧True∧True∧True)∧(True∧True)∧((∀ (i:Nat),i<m→True∧True∧(∀ (i_1:Nat),i_1<(f i).3→True∧True∧True)∧True∧True∧True)∧True)∧(True∧True∧True∧True∧True∧True∧True∧True∧True∧True∧True∧True∧True∧True∧True∧True∧True∧True)∧∃ (z_2:Nat),(z_2=(0:Nat)∧ckP m f a c (↑z_1:Int).toNat)∧cnC f m a c z=cnC f m a c (↑z_1:Int).toNat+(0:Nat)∧rE (SV.denL [i6 (↑a:Int)])∧(True∧True)∧rE (SV.denL [stiL m f])∧((∀ (i:Nat),i<m→True∧True∧(∀ (i_1:Nat),i_1<(f i).3→True∧True∧True)∧True∧True∧True)∧True)∧rE (SV.denL c.cells)∧(True∧True∧True∧True∧True∧True∧True∧True∧True∧True∧True∧True∧True∧True∧True∧True∧True∧True)∧rE (0:Nat)∧rE (0:Nat)∧rE ((f a).6
+ (1:Int))∧(↑z_1:Int)=(↑(↑z_1:Int).toNat:Int)∧rE (Fn.func (45:FuncId))∧SV.denL [i6 ((↑a:Int)+(1:Int))]=SV.denL [SV.int IntKind.i64 ((↑a:Int)+(1:Int))]∧(True∧True)∧SV.denL [stiL m fun i=>stiOf (f i).sv]=SV.denL [SV.lst (5:Nat) m fun i=>(stiOf (f i).sv).sv]∧((∀ (i:Nat),i<m→True∧True∧(∀ (i_1:Nat),i_1<(f i).3→True∧True∧True)∧True∧True∧True)∧True)∧SV.denL (r17 (wiX c (↑a:Int) (f a) (↑z_1:Int))).cells=SV.denL [SV.int IntKind.i64 ((wiX c (↑a:Int) (f a) (↑z_1:Int)).p (0:Nat)),SV.int IntKind.i64 ((wiX c (↑a:Int) (f a) (↑z_1:Int)).p (1:Nat)),SV.int IntKind.i64 ((wiX c (↑a:Int) (f a) (↑z_1:Int)).p (2:Nat)),SV.int IntKind.i64 ((wiX c (↑a:Int) (f a) (↑z_1:Int)).p (3:Nat)),SV.int IntKind.i64 ((wiX c (↑a:Int) (f a) (↑z_1:Int)).l (0:Nat)).lo,SV.int IntKind.i64 ((wiX c (↑a:Int) (f a)
(↑z_1:Int)).l (0:Nat)).hi,SV.int IntKind.i64 ((wiX c (↑a:Int) (f a) (↑z_1:Int)).l (1:Nat)).lo,SV.int IntKind.i64 ((wiX c (↑a:Int) (f a) (↑z_1:Int)).l (1:Nat)).hi,SV.int IntKind.i64 ((wiX c (↑a:Int) (f a) (↑z_1:Int)).l (2:Nat)).lo,SV.int IntKind.i64 ((wiX c (↑a:Int) (f a) (↑z_1:Int)).l (2:Nat)).hi,SV.int IntKind.i64 ((wiX c (↑a:Int) (f a) (↑z_1:Int)).l (3:Nat)).lo,SV.int IntKind.i64 ((wiX c (↑a:Int) (f a) (↑z_1:Int)).l (3:Nat)).hi,SV.int IntKind.i64 ((wiX c (↑a:Int) (f a) (↑z_1:Int)).l (4:Nat)).lo,SV.int IntKind.i64 ((wiX c (↑a:Int) (f a) (↑z_1:Int)).l (4:Nat)).hi,SV.int IntKind.i64 ((wiX c (↑a:Int) (f a) (↑z_1:Int)).l (5:Nat)).lo,SV.int IntKind.i64 ((wiX c (↑a:Int) (f a) (↑z_1:Int)).l (5:Nat)).hi,SV.int IntKind.i64 (wiX c (↑a:Int) (f a) (↑z_1:Int)).c]∧(True∧True∧True∧True∧True∧True∧True∧True∧True
∧ True∧True∧True∧True∧True∧True∧True∧True∧True)∧True)∧(∀ (j:Nat),j<(crA (fun i=>stiOf (stiOf (f i).sv).sv) m ((↑a:Int)+(1:Int)).toNat (r17 (wiX c (↑a:Int) (f a) (↑z_1:Int)))).length→∀ (z:Nat),z=j∧ckP m f a c (↑z_1:Int).toNat→(0:Nat)<(1:Nat)∧(0:Nat)<(1:Nat)∧cnC f m a c (↑z_1:Int).toNat+j<(crA f m a c).length∧(e17 ((crA (fun i=>stiOf (stiOf (f i).sv).sv) m ((↑a:Int)+(1:Int)).toNat (r17 (wiX c (↑a:Int) (f a) (↑z_1:Int)))).getD j zC) ((crA f m a c).getD (cnC f m a c (↑z_1:Int).toNat+j) zC) ((∃ (z:Nat),(z=j.succ∧ckP m f a c (↑z_1:Int).toNat)∧(cnC f m a c (↑z_1:Int).toNat+j).succ=cnC f m a c (↑z_1:Int).toNat+j.succ∧True)∧True)))∧∀ (z_2:Nat),z_2=(crA (fun i=>stiOf (stiOf (f i).sv).sv) m ((↑a:Int)+(1:Int)).toNat (r17 (wiX c (↑a:Int) (f a) (↑z_1:Int)))).length∧ckP
m f a c (↑z_1:Int).toNat→rI ((↑(↑z_1:Int).toNat:Int)+(1:Int))∧∃ (z_3:Nat),cjP m f a c z_3∧(f a).6.toNat+(1:Nat) - z_3<(f a).6.toNat+(1:Nat) - z∧cnC f m a c (↑z_1:Int).toNat+(crA (fun i=>stiOf (stiOf (f i).sv).sv) m ((↑a:Int)+(1:Int)).toNat (r17 (wiX c (↑a:Int) (f a) (↑z_1:Int)))).length=cnC f m a c z_3∧rE (SV.denL [i6 (↑a:Int)])∧(True∧True)∧rE (SV.denL [stiL m f])∧((∀ (i:Nat),i<m→True∧True∧(∀ (i_1:Nat),i_1<(f i).3→True∧True∧True)∧True∧True∧True)∧True)∧rE (SV.denL c.cells)∧(True∧True∧True∧True∧True∧True∧True∧True∧True∧True∧True∧True∧True∧True∧True∧True∧True∧True)∧rE (0:Nat)∧rE (0:Nat)∧rE ((f a).6+(1:Int))∧(↑(↑z_1:Int).toNat:Int)+(1:Int)=(↑z_3:Int)∧True))∧(¬(↑z:Int)<(f a).6+(1:Int)→cnC f m a c z=(crA f m a c).length))) :=
by kernel_rfl
end Go.Proofs.Ytbedomoilakcaaa

namespace Go.Proofs.Ytbedomoilakcaaa
open Go Go.Lg
end Go.Proofs.Ytbedomoilakcaaa

set_option maxRecDepth 100000
namespace Go.Proofs.Ytbedomoilakcaaa
open Go Go.Lg
attribute [local irreducible] funS bodyH
theorem crA_end (f:Nat→Sti) (m:Nat) (c:Crs):crA f m m c=[c]:=by unfold crA; rw [Nat.sub_self]; rfl
theorem crA_step (f:Nat→Sti) {m a:Nat} (c:Crs) (h:a<m):crA f m a c=(List.range ((f a).most.toNat+1)).flatMap (sbC f m a c):=by
 unfold crA
 rw [show m - a=(m - (a+1))+1 by omega]
 simp only [crL]
 rw [show m - (m - (a+1)+1)=a by omega]
 rfl
theorem cnC_zero (f:Nat→Sti) (m a:Nat) (c:Crs):cnC f m a c 0=0:=rfl
theorem cnC_succ (f:Nat→Sti) (m a:Nat) (c:Crs) (t:Nat):cnC f m a c (t+1)=cnC f m a c t+(sbC f m a c t).length:=by
 unfold cnC
 rw [List.range_succ,List.flatMap_append]
 simp
theorem sbC_yes {f:Nat→Sti} {m a:Nat} {c:Crs} {t:Nat} (h:canP c (f a) t):sbC f m a c t=crA f m (a+1) (r17 (wiX c a (f a) t)):=by
 unfold sbC crA
 rw [if_pos h,wiX,if_pos h]
theorem sbC_no {f:Nat→Sti} {m a:Nat} {c:Crs} {t:Nat} (h:¬ canP c (f a) t):sbC f m a c t=[]:=by
 unfold sbC
 rw [if_neg h]
theorem can_mono {c:Crs} {s:Sti} {t t':Int} (hs:0≤s.takes) (h:canP c s t') (ht:t≤t'):canP c s t:=by
 unfold canP at *
 have:=Int.mul_le_mul_of_nonneg_right ht hs
 omega
theorem cn_total {f:Nat→Sti} {m a:Nat} {c:Crs} (h:a<m):cnC f m a c ((f a).most.toNat+1)=(crA f m a c).length:=by
 rw [crA_step f c h]; rfl
theorem cn_stop {f:Nat→Sti} {m a:Nat} {c:Crs} {z:Nat} (hs:0≤(f a).takes) (hn:¬ canP c (f a) z):∀ d,cnC f m a c (z+d)=cnC f m a c z
 | 0=>rfl
 | d+1=>by
  rw [← Nat.add_assoc,cnC_succ,cn_stop hs hn d,sbC_no fun h=>hn (can_mono hs h (by push_cast; omega))]
  rfl
theorem cn_get {f:Nat→Sti} {m a:Nat} {c:Crs} {z i:Nat} (h:a<m) (hz:z≤(f a).most.toNat) (hi:i<(sbC f m a c z).length):cnC f m a c z+i<(crA f m a c).length∧(crA f m a c).getD (cnC f m a c z+i) zC=(sbC f m a c z).getD i zC:=by
 have e:∀ d,(List.range (z+1+d)).flatMap (sbC f m a c)=(List.range z).flatMap (sbC f m a c) ++ sbC f m a c z ++ (List.range d).flatMap fun q=>sbC f m a c (z+1+q):=by
  intro d
  induction d with
  | zero=>simp [List.range_succ]
  | succ d ih =>
   rw [← Nat.add_assoc,List.range_succ,List.flatMap_append,ih,List.range_succ,List.flatMap_append]
   simp
 have e3:=e ((f a).most.toNat - z)
 rw [show z+1+((f a).most.toNat - z)=(f a).most.toNat+1 by omega,← crA_step f c h] at e3
 have hl:((List.range z).flatMap (sbC f m a c)).length=cnC f m a c z:=rfl
 rw [e3]
 constructor
 ·simp only [List.length_append]; omega
 ·simp only [List.getD]
  rw [List.append_assoc,List.getElem?_append_right (by omega),hl,show cnC f m a c z+i - cnC f m a c z=i by omega,List.getElem?_append_left hi]
theorem nx_bd {B:Int} {c:Crs} {a:Int} {s:Sti} {t:Int} (h:bdC B c) (hB:0≤B) (hs:okSt s) (ht:okT t):bdC (B+100000000) (nxC c a s t):=by
 have pay:=mul_bd ht.1 ht.2 hs.p0 hs.p1
 refine ⟨?_,?_⟩
 ·exact bd_ad (bd_ad (bd_ad (bd_z (b:=0) (by omega)) h.1 (c:=B) (by omega)) (bd_tk hs ht) (c:=B+10000000) (by omega)) (bd_md hs ht) (c:=B+100000000) (by omega)
 ·have:=h.2
  show _≤c.c+t*s.pay∧c.c+t*s.pay≤_
  omega
theorem e17_len {c d:Crs} {r:Prop} (h:c=d) (hr:r):e17 c d r:=by subst h; exact e17_r hr
theorem cu_true (m:Nat) (f:Nat→Sti) (a:Int) (c:Crs):cuG m f a c:=by
 rw [cuG_vc]
 simp [rE]
theorem cu_ok:cuC.OkF Try.prog:=by
 refine ⟨by kernel_rfl,fun x k hk=>?_⟩
 simp only [cuC] at hk
 split at hk
 ·rename_i m f a v
  obtain ⟨c,rfl,hf,hk⟩:=crK_spec hk
  have hh:=cu_true m (fun i=>stiOf (f i)) a c
  unfold cuG at hh
  rw [← hf] at hh
  exact ⟨_,funH_does nilS_cs nilS_x nilS_ic mixed hh,hk⟩
 ·exact hk.elim
theorem ci_true {M m:Nat} {f:Nat→Sti} {a:Nat} {c:Crs} (h:ciP (M+1) m f a c):ci1 M m f a c:=by
 rw [ci1_vc]
 simp only [rI,rE,tt3,tt4,tt5,tt13,tt14,and_true,true_and,Nat.zero_lt_one,and_self,implies_true,Int.toNat_natCast,Nat.zero_add,Nat.add_zero,Nat.one_mul,Nat.mul_one,Classical.not_not,iff_self,Bool.false_eq_true,imp_false,and_imp,true_implies,forall_const,gdV_cells,sc1,sc0,ft_fold,sti_fold,sal_fold,yd_fold,iOf_fold,stiOf_fold,salOf_fold,yv_fold]
 have a1:=h.a1
 have hM:=h.M
 have hma:=h.s.a
 simp only [Int.toNat_natCast] at hM
 refine ⟨fun e=>?_,fun e=>?_⟩
 ·have e:a=m:=by omega
  subst e
  rw [crA_end]
  exact ⟨Nat.one_pos,e17_r rfl⟩
 ·have ha:a<m:=by omega
  obtain ⟨hs,ht⟩:=h.s.b a ha
  have t0:=ht.1
  have t8:=ht.2
  have tk:=hs.t0
  refine ⟨by omega,by omega,by omega,⟨0,⟨ha,by omega⟩,(cnC_zero f m a c).symm,rfl⟩,fun z hz=>⟨fun hl=>⟨⟨by omega,by omega,rfl,by omega,hs,⟨by omega,by omega⟩,bdC_r ⟨bd_mono h.b.1 (by omega),by have:=h.b.2; omega⟩,⟨ha,by omega⟩,can_r (by have:=hs.i0; have:=hs.i1; omega),?_⟩,?_⟩,fun hl=>?_⟩⟩
  ·by_cases hc:canP c (f a) z
   ·rw [wiX,if_pos ((can_r (by have:=hs.i0; have:=hs.i1; omega)).2 hc),wiX,if_pos hc]
    exact nx_r trivial
   ·rw [wiX,if_neg fun hh=>hc ((can_r (by have:=hs.i0; have:=hs.i1; omega)).1 hh),wiX,if_neg hc]
    exact e17_r trivial
  ·rintro z1 _ hz1 rfl
   refine ⟨fun hn=>?_,fun hc=>?_⟩
   ·rw [← cn_total ha]
    have:=cn_stop (m:=m) (by omega:0≤(f a).takes) hn ((f a).most.toNat+1 - z1)
    rw [show z1+((f a).most.toNat+1 - z1)=(f a).most.toNat+1 by omega] at this
    exact this.symm
   ·have es:=sbC_yes (m:=m) hc
    have ea:((a:Int)+1).toNat=a+1:=by omega
    rw [ea,← es]
    refine ⟨by omega,rfl,rfl,⟨by omega,by omega,h.s,?_,by omega⟩,⟨0,⟨rfl,ha,hz1,hc⟩,rfl,rfl,rfl⟩,fun j hj z hz _=>?_,fun z2 hz2 _=>⟨by omega,z1+1,⟨ha,by omega⟩,by omega,(cnC_succ f m a c z1).symm,by omega⟩⟩
    ·rw [wiX,if_pos hc]
     have:=nx_bd (a:=(a:Int)) (t:=(z1:Int)) h.b (by omega) hs ⟨by omega,by omega⟩
     have e:(100000000:Int)*((a:Int)+1)+100000000=100000000*((a:Int)+1+1):=by omega
     rw [e] at this
     exact bdC_r this
    ·obtain ⟨g1,g2⟩:=cn_get ha hz1 hj
     exact ⟨g1,e17_len g2.symm ⟨j+1,⟨rfl,ha,hz1,hc⟩,by omega⟩⟩
  ·have hk:=hz.k
   have:z=(f a).most.toNat+1:=by omega
   rw [this]; exact cn_total ha
theorem ciC_ok:∀ M,(ciC M).Ok Try.prog
 | 0=>⟨by kernel_rfl,fun fs us k hk=>by
  simp only [ciC] at hk
  split at hk
  ·obtain ⟨c,_,_,h,_⟩:=crK_spec hk
   have:=h.M
   omega
  ·exact hk.elim⟩
 | M+1=>⟨by kernel_rfl,fun fs us k hk=>by
  have ih:=ciC_ok M
  have hic:SoundIH Try.prog (ictrs [ciC M]):=ictrs_sound (by
   intro x hx
   simp only [List.mem_cons,List.not_mem_nil,or_false] at hx
   subst hx
   exact ih)
  simp only [ciC] at hk
  split at hk
  ·rename_i a m f cs
   obtain ⟨c,ec,hf,hP,hk⟩:=crK_spec hk
   have ha:=hP.a0
   have e:((a.toNat:Nat):Int)=a:=by omega
   have key:ci1 M m (fun i=>stiOf (f i)) a.toNat c:=ci_true (by rw [e]; exact hP)
   unfold ci1 at key
   rw [e,← hf] at key
   have ec:cs=c.cells:=by
    have:SV.agg cs=SV.agg c.cells:=ec
    injection this
   rw [← ec] at key
   have:=itH_ok (ctrsF_sound (one_cs wi_ok) (by intro x hx; simp at hx; subst hx; exact cu_ok)) (fun Γ γ _=>noX_sound) hic mixed key
   exact ⟨_,1,_,this,fun j hj=>rfl,hk⟩
  ·exact hk.elim⟩
end Go.Proofs.Ytbedomoilakcaaa

namespace Go.Proofs.Ytbedomoilakcaaa
open Go Go.Lg
attribute [local irreducible] bodyH funS
noncomputable def owC (Y:Yd) (c:Crs):Int:=(seS Y.sal (stF Y.sal Y.q) (c6 c.l) Y.q).c - c.c
noncomputable def alC (Y:Yd):List Crs:=crA Y.sti Y.m 0 (r17 (stC Y.g Y.st))
open Classical in
noncomputable def bsP (Y:Yd):Nat→Crs × Int
 | 0=>(zC,0)
 | j+1=>if (bsP Y j).2<owC Y ((alC Y).getD j zC) then ((alC Y).getD j zC,owC Y ((alC Y).getD j zC)) else bsP Y j
open Classical in
noncomputable def pnN (Y:Yd):Nat:=if okYd Y then Y.m else 0
open Classical in
noncomputable def pnI (Y:Yd):Int:=if okYd Y then (bsP Y (alC Y).length).2 else 0
open Classical in
noncomputable def pnE (Y:Yd):Int:=if okYd Y then 0 else 1
noncomputable def pnF (Y:Yd):Nat→Int:=(bsP Y (alC Y).length).1.p
noncomputable def pnR (Y:Yd):SV:=.tup [iA (pnN Y) (pnF Y),i6 (pnI Y),i6 (pnE Y)]
noncomputable def pnH (Y:Yd):HSpec :=
 { toLSpec:={ σ:=Unit,inv:=fun _=>True,μ:=fun _=>0,nr:=4,ms:=fun _ _=>[],t:=fun _=>mkF 50 [(1,.ptr 0 0 0),(3,.ptr 1 0 0),(5,.ptr 2 0 0),(6,.ptr 3 0 0),(22,crsV Y.m Y.sti 0 (stC Y.g Y.st))],X:=fun _=>mkX [vr 3 Y.sv,vr 1 (i6 0),vr 2 (.agg [salL Y.q Y.sal,iL Y.q (stF Y.sal Y.q)]),vr 17 zC.sv],rd:=fun _ _ k=>k (),rdOK:=fun _ _ _ h=>⟨(),h⟩ },D:=[(1,0),(3,0)] }
noncomputable def pnG (Y:Yd):Prop:=funN Try.prog (ctrsF [nmC,cuC] (ctrs [ydC 25,ncC,seC])) noX (ictrs [ciC 100]) (oneL 1005 (pnH Y))
 (oneL 0 (itS 4 (fun _=>True) (mkF 50 [(1,.ptr 0 0 0),(3,.ptr 1 0 0),(5,.ptr 2 0 0),(6,.ptr 3 0 0)]) (fun j=>mkX [vr 3 Y.sv,vr 1 (i6 (bsP Y j).2),vr 2 (.agg [salL Y.q Y.sal,iL Y.q (stF Y.sal Y.q)]),vr 17 (bsP Y j).1.sv]) fun _=>none))
 11 [Y.sv] (pnR Y)
noncomputable def pnC:Ctr:=⟨11,fun args k=>match args with
 | [.agg [.lst 1 g st,.lst 5 m sti,.lst 3 q sal]]=>SV.agg [.lst 1 g st,.lst 5 m sti,.lst 3 q sal]=(ydOf g st m sti q sal).sv∧k (pnR (ydOf g st m sti q sal))
 | _=>False⟩
end Go.Proofs.Ytbedomoilakcaaa

set_option maxRecDepth 100000
namespace Go.Proofs.Ytbedomoilakcaaa
open Go Go.Lg
theorem pnG_vc (Y:Yd):pnG Y=((0:Nat)<(1:Nat)∧(∀ (i:Nat),i<Y.1→True)∧(∀ (i:Nat),i<Y.3→True∧True∧(∀ (i_1:Nat),i_1<(Y.sti i).3→True∧True∧True)∧True∧True∧True)∧(∀ (i:Nat),i<Y.5→True∧True∧True∧True)∧SV.agg [SV.lst (1:Nat) Y.g fun i=>i6 (Y.st i),SV.lst (5:Nat) Y.m fun i=>(Y.sti i).sv,SV.lst (3:Nat) Y.q fun i=>(Y.sal i).sv]=(ydOf Y.g (fun i=>i6 (Y.st i)) Y.m (fun i=>(Y.sti i).sv) Y.q fun i=>(Y.sal i).sv).sv∧(¬okYd (ydOf Y.g (fun i=>i6 (Y.st i)) Y.m (fun i=>(Y.sti i).sv) Y.q fun i=>(Y.sal i).sv)→(0:Nat)<(1:Nat)∧(0:Nat)=pnN Y∧(0:Int)=pnI Y∧(1:Int)=pnE Y∧True)∧(¬¬okYd (ydOf Y.g (fun i=>i6 (Y.st i)) Y.m (fun i=>(Y.sti i).sv) Y.q fun i=>(Y.sal i).sv)→(0:Nat)<(1:Nat)∧(∀ (i:Nat),i<Y.5→True∧True∧True∧True)∧((SV.lst (3:Nat) Y.q fun i=>(Y.sal i).sv)
= salL Y.q fun i=>salOf (Y.sal i).sv)∧Y.5≤(6:Nat)∧(True∧True∧True∧True∧(0:Nat)<(1:Nat)∧True∧True∧True∧True∧(0:Nat)<(1:Nat)∧True∧True∧(∀ (i:Nat),i<Y.1→True)∧(SV.lst (1:Nat) Y.g fun i=>i6 (Y.st i))=iL Y.g (iOf fun i=>i6 (Y.st i))∧Y.1≤(6:Nat)∧True∧True∧(∀ (i:Nat),i<Y.3→True∧True∧(∀ (i_1:Nat),i_1<(Y.sti i).3→True∧True∧True)∧True∧True∧True)∧((SV.lst (5:Nat) Y.m fun i=>(Y.sti i).sv)=stiL Y.m fun i=>stiOf (Y.sti i).sv)∧True∧rE (0:Nat)∧rE (0:Nat)∧rE (0:Nat)∧rE (0:Nat)∧rE (0:Nat)∧rE (0:Nat)∧rE (0:Nat)∧rE (0:Nat)∧rE (Fn.func (45:FuncId))∧rE (SV.denL [i6 (0:Int)])∧(True∧True)∧SV.denL [stiL Y.m fun i=>stiOf (Y.sti i).sv]=SV.denL [stiL Y.m Y.sti]∧((∀ (i:Nat),i<Y.3→True∧True∧(∀ (i_1:Nat),i_1<(Y.sti i).3→True∧True∧True)
∧ True∧True∧True)∧True)∧SV.denL (r17 (stC Y.g (iOf fun i=>i6 (Y.st i)))).cells=SV.denL (stC Y.g Y.st).cells∧(True∧True∧True∧True∧True∧True∧True∧True∧True∧True∧True∧True∧True∧True∧True∧True∧True∧True)∧Y.1=Y.1∧(∀ (i:Nat),i<Y.1→rE ((i6 (Y.st i)).den)∧True)∧Y.3=Y.3∧(∀ (i:Nat),i<Y.3→rE ((Y.sti i).sv.den)∧True∧True∧(∀ (i_1:Nat),i_1<(Y.sti i).3→True∧True∧True)∧True∧True∧True)∧Y.5=Y.5∧(∀ (i:Nat),i<Y.5→rE ((Y.sal i).sv.den)∧True∧True∧True∧True)∧rE (0:Int)∧Y.5=Y.5∧(∀ (i:Nat),i<Y.5→(salOf (Y.sal i).sv).sv.den=(Y.sal i).sv.den∧True∧True∧True∧True)∧Y.5=Y.5∧(∀ (i:Nat),i<Y.5→(i6 (stF (fun i=>salOf (Y.sal i).sv) Y.q i)).den=(i6 (stF Y.sal Y.q i)).den∧True)∧rE (0:Int)∧rE (0:Int)∧rE (0:Int)∧rE (0:Int)∧rE (0:Int)∧rE (0:Int)
∧ rE (0:Int)∧rE (0:Int)∧rE (0:Int)∧rE (0:Int)∧rE (0:Int)∧rE (0:Int)∧rE (0:Int)∧rE (0:Int)∧rE (0:Int)∧rE (0:Int)∧rE (0:Int)∧True)∧∀ (z:Unit),True→(∀ (i:Nat),i<Y.3→True∧True∧(∀ (i_1:Nat),i_1<(Y.sti i).3→True∧True∧True)∧True∧True∧True)∧((SV.lst (5:Nat) Y.m fun i=>(Y.sti i).sv)=stiL Y.m fun i=>stiOf (Y.sti i).sv)∧ciP (100:Nat) Y.m (fun i=>stiOf (Y.sti i).sv) (0:Int) (r17 (stC Y.g Y.st))∧((True∧True)∧((∀ (i:Nat),i<Y.3→True∧True∧(∀ (i_1:Nat),i_1<(Y.sti i).3→True∧True∧True)∧True∧True∧True)∧True)∧(True∧True∧True∧True∧True∧True∧True∧True∧True∧True∧True∧True∧True∧True∧True∧True∧True∧True)∧∃ (z:Nat),(z=(0:Nat)∧True)∧rE (0:Nat)∧rE (0:Nat)∧rE (0:Nat)∧rE (0:Nat)∧rE (0:Nat)∧rE (0:Nat)∧rE (0:Nat)∧rE
(0:Nat)∧rE (Fn.func (45:FuncId))∧SV.denL [i6 (0:Int)]=SV.denL [SV.int IntKind.i64 (0:Int)]∧(True∧True)∧SV.denL [stiL Y.m Y.sti]=SV.denL [SV.lst (5:Nat) Y.m fun i=>(Y.sti i).sv]∧((∀ (i:Nat),i<Y.3→True∧True∧(∀ (i_1:Nat),i_1<(Y.sti i).3→True∧True∧True)∧True∧True∧True)∧True)∧SV.denL (stC Y.g Y.st).cells=SV.denL [SV.int IntKind.i64 ((stC Y.g Y.st).p (0:Nat)),SV.int IntKind.i64 ((stC Y.g Y.st).p (1:Nat)),SV.int IntKind.i64 ((stC Y.g Y.st).p (2:Nat)),SV.int IntKind.i64 ((stC Y.g Y.st).p (3:Nat)),SV.int IntKind.i64 ((stC Y.g Y.st).l (0:Nat)).lo,SV.int IntKind.i64 ((stC Y.g Y.st).l (0:Nat)).hi,SV.int IntKind.i64 ((stC Y.g Y.st).l (1:Nat)).lo,SV.int IntKind.i64 ((stC Y.g Y.st).l (1:Nat)).hi,SV.int IntKind.i64 ((stC Y.g Y.st).l (2:Nat)).lo,SV.int IntKind.i64 ((stC Y.g Y.st).l (2:Nat)).hi,SV.int IntKind.i64 ((stC
Y.g Y.st).l (3:Nat)).lo,SV.int IntKind.i64 ((stC Y.g Y.st).l (3:Nat)).hi,SV.int IntKind.i64 ((stC Y.g Y.st).l (4:Nat)).lo,SV.int IntKind.i64 ((stC Y.g Y.st).l (4:Nat)).hi,SV.int IntKind.i64 ((stC Y.g Y.st).l (5:Nat)).lo,SV.int IntKind.i64 ((stC Y.g Y.st).l (5:Nat)).hi,SV.int IntKind.i64 (stC Y.g Y.st).c]∧(True∧True∧True∧True∧True∧True∧True∧True∧True∧True∧True∧True∧True∧True∧True∧True∧True∧True)∧Y.1=Y.1∧(∀ (i:Nat),i<Y.1→rE ((i6 (Y.st i)).den)∧True)∧Y.3=Y.3∧(∀ (i:Nat),i<Y.3→rE ((Y.sti i).sv.den)∧True∧True∧(∀ (i_1:Nat),i_1<(Y.sti i).3→True∧True∧True)∧True∧True∧True)∧Y.5=Y.5∧(∀ (i:Nat),i<Y.5→rE ((Y.sal i).sv.den)∧True∧True∧True∧True)∧(0:Int)=(bsP Y z).2∧Y.5=Y.5∧(∀ (i:Nat),i<Y.5→rE ((Y.sal i).sv.den)∧True∧True∧True∧True)∧Y.5=Y.5∧(∀ (i :
Nat),i<Y.5→rE ((i6 (stF Y.sal Y.q i)).den)∧True)∧(e17 zC ((bsP Y z).fst) (True)))∧(∀ (j:Nat),j<(crA (fun i=>stiOf (Y.sti i).sv) Y.m (Int.toNat (0:Int)) (r17 (stC Y.g Y.st))).length→∀ (z:Nat),z=j∧True→(0:Nat)<(1:Nat)∧(0:Nat)<(1:Nat)∧(∀ (i:Nat),i<Y.5→True∧True∧True∧True)∧(∀ (i:Nat),i<Y.5→True)∧((SV.lst (3:Nat) Y.q fun i=>(Y.sal i).sv)=salL Y.q fun i=>salOf (Y.sal i).sv)∧(SV.lst (1:Nat) Y.q fun i=>i6 (stF Y.sal Y.q i))=iL Y.q (iOf fun i=>i6 (stF Y.sal Y.q i))∧Y.5=Y.5∧okOr Y.q (fun i=>salOf (Y.sal i).sv) (iOf fun i=>i6 (stF Y.sal Y.q i))∧bdG (10000000000:Int) (c6 (((crA (fun i=>stiOf (Y.sti i).sv) Y.m (Int.toNat (0:Int)) (r17 (stC Y.g Y.st))).getD j zC).l))∧(0:Nat)<(1:Nat)∧rI ((seS (fun i=>salOf (Y.sal i).sv) (iOf fun i=>i6 (stF Y.sal Y.q i)) (c6 (((crA (fun i=>stiOf (Y.sti
i).sv) Y.m (Int.toNat (0:Int)) (r17 (stC Y.g Y.st))).getD j zC).l)) Y.q).3 - ((crA (fun i=>stiOf (Y.sti i).sv) Y.m (Int.toNat (0:Int)) (r17 (stC Y.g Y.st))).getD j zC).3)∧(0:Nat)<(1:Nat)∧((bsP Y z).2<(seS (fun i=>salOf (Y.sal i).sv) (iOf fun i=>i6 (stF Y.sal Y.q i)) (c6 (((crA (fun i=>stiOf (Y.sti i).sv) Y.m (Int.toNat (0:Int)) (r17 (stC Y.g Y.st))).getD j zC).l)) Y.q).3 - ((crA (fun i=>stiOf (Y.sti i).sv) Y.m (Int.toNat (0:Int)) (r17 (stC Y.g Y.st))).getD j zC).3→(0:Nat)<(1:Nat)∧∃ (z:Nat),(z=j.succ∧True)∧Y.1=Y.1∧(∀ (i:Nat),i<Y.1→rE ((i6 (Y.st i)).den)∧True)∧Y.3=Y.3∧(∀ (i:Nat),i<Y.3→rE ((Y.sti i).sv.den)∧True∧True∧(∀ (i_1:Nat),i_1<(Y.sti i).3→True∧True∧True)∧True∧True∧True)∧Y.5=Y.5∧(∀ (i:Nat),i<Y.5→rE ((Y.sal i).sv.den)∧True∧True∧True∧True)∧(seS (fun i=>salOf (Y.sal i).sv)
(iOf fun i=>i6 (stF Y.sal Y.q i)) (c6 (((crA (fun i=>stiOf (Y.sti i).sv) Y.m (Int.toNat (0:Int)) (r17 (stC Y.g Y.st))).getD j zC).l)) Y.q).3 - ((crA (fun i=>stiOf (Y.sti i).sv) Y.m (Int.toNat (0:Int)) (r17 (stC Y.g Y.st))).getD j zC).3=(bsP Y z).2∧Y.5=Y.5∧(∀ (i:Nat),i<Y.5→rE ((Y.sal i).sv.den)∧True∧True∧True∧True)∧Y.5=Y.5∧(∀ (i:Nat),i<Y.5→rE ((i6 (stF Y.sal Y.q i)).den)∧True)∧(e17 ((crA (fun i=>stiOf (Y.sti i).sv) Y.m (Int.toNat (0:Int)) (r17 (stC Y.g Y.st))).getD j zC) ((bsP Y z).fst) (True)))∧(¬(bsP Y z).2<(seS (fun i=>salOf (Y.sal i).sv) (iOf fun i=>i6 (stF Y.sal Y.q i)) (c6 (((crA (fun i=>stiOf (Y.sti i).sv) Y.m (Int.toNat (0:Int)) (r17 (stC Y.g Y.st))).getD j zC).l)) Y.q).3 - ((crA (fun i=>stiOf (Y.sti i).sv) Y.m (Int.toNat (0:Int)) (r17 (stC Y.g Y.st))).getD j zC).3→∃ (z_1:Nat),(z_1=j.succ∧True)∧Y.1=Y.1
∧ (∀ (i:Nat),i<Y.1→rE ((i6 (Y.st i)).den)∧True)∧Y.3=Y.3∧(∀ (i:Nat),i<Y.3→rE ((Y.sti i).sv.den)∧True∧True∧(∀ (i_1:Nat),i_1<(Y.sti i).3→True∧True∧True)∧True∧True∧True)∧Y.5=Y.5∧(∀ (i:Nat),i<Y.5→rE ((Y.sal i).sv.den)∧True∧True∧True∧True)∧(bsP Y z).2=(bsP Y z_1).2∧Y.5=Y.5∧(∀ (i:Nat),i<Y.5→rE ((Y.sal i).sv.den)∧True∧True∧True∧True)∧Y.5=Y.5∧(∀ (i:Nat),i<Y.5→rE ((i6 (stF Y.sal Y.q i)).den)∧True)∧(e17 ((bsP Y z).fst) ((bsP Y z_1).fst) (True))))∧∀ (z:Nat),z=(crA (fun i=>stiOf (Y.sti i).sv) Y.m (Int.toNat (0:Int)) (r17 (stC Y.g Y.st))).length∧True→(0:Nat)<(1:Nat)∧(0:Int)≤(↑Y.3:Int)∧(↑Y.3:Int)≤(↑Y.3:Int)∧(↑Y.3:Int)≤(1048576:Int)∧(↑Y.3:Int)*(↑(8:Nat):Int)≤(140737488355328:Int)∧(0:Int)≤(0:Int)∧(0:Int)≤(↑(4:Nat):Int)∧(↑(4
: Nat):Int)≤(↑(4:Nat):Int)∧rE (0:Nat)∧rE ((↑Y.3:Int).toNat)∧(↑Y.3:Int).toNat≤((↑(4:Nat):Int) - (0:Int)).toNat∧(0:Nat)+((↑(4:Nat):Int) - (0:Int)).toNat≤(17:Nat)∧(0:Nat)<(1:Nat)∧(0:Nat)<(1:Nat)∧(↑Y.3:Int).toNat=pnN Y∧(0:Nat)+pnN Y≤(↑Y.3:Int).toNat∧(∀ (i:Nat),i<pnN Y→rE (1:Nat)∧rE (1:Nat)∧cellZ (bsP Y z).fst.cells ((0:Nat)+(i+(0:Nat)))=pnF Y i∧True)∧(bsP Y z).2=pnI Y∧(0:Int)=pnE Y∧True)):=by kernel_rfl
end Go.Proofs.Ytbedomoilakcaaa

namespace Go.Proofs.Ytbedomoilakcaaa
open Go Go.Lg
end Go.Proofs.Ytbedomoilakcaaa

set_option maxRecDepth 100000
namespace Go.Proofs.Ytbedomoilakcaaa
open Go Go.Lg
attribute [local irreducible] funS bodyH
theorem okSs_of {Y:Yd} (h:okYd Y):okSs Y.m Y.sti:=⟨h.s.a,fun i hi=>⟨okSt_of (by have:=h.g.b; omega) (h.s.b i hi).2,(h.s.b i hi).2.m0,(h.s.b i hi).2.m1⟩⟩
theorem crL_bd {f:Nat→Sti} {m:Nat} (h:okSs m f):∀ (d:Nat) (c:Crs) (B:Int),d≤m→0≤B→bdC B c→∀ x ∈ crL f m d c,bdC (B+100000000*d) x
 | 0,c,B,_,_,hc,x,hx=>by
  simp only [crL,List.mem_singleton] at hx
  subst hx
  simpa using hc
 | d+1,c,B,hd,hB,hc,x,hx=>by
  simp only [crL,List.mem_flatMap,List.mem_range] at hx
  obtain ⟨t,ht,hx⟩:=hx
  split at hx
  ·obtain ⟨hs,hm⟩:=h.b (m - (d+1)) (by omega)
   have m0:=hm.1
   have m8:=hm.2
   have h1:=nx_bd (a:=((m - (d+1):Nat):Int)) (t:=(t:Int)) hc hB hs ⟨by omega,by omega⟩
   have:=crL_bd h d _ (B+100000000) (by omega) (by omega) (bdC_r h1) x hx
   have e:B+100000000+100000000*(d:Int)=B+100000000*((d+1:Nat):Int):=by push_cast; omega
   rw [e] at this
   exact this
  ·simp at hx
theorem alC_bd {Y:Yd} (h:okYd Y) {j:Nat}:bdC 500000000 ((alC Y).getD j zC):=by
 by_cases hj:j<(alC Y).length
 ·have hm:=h.s.a
  have:=crL_bd (okSs_of h) Y.m (r17 (stC Y.g Y.st)) 100000000 (Nat.le_refl _) (by omega) (bdC_r (st_bd h.g.c)) ((alC Y).getD j zC) (by
   unfold alC crA at hj ⊢
   rw [Nat.sub_zero] at hj ⊢
   simp only [List.getD,List.getElem?_eq_getElem hj,Option.getD_some]
   exact List.getElem_mem hj)
  exact ⟨bd_mono this.1 (by omega),by have:=this.2; omega⟩
 ·have e:(alC Y).getD j zC=zC:=by simp [List.getD,List.getElem?_eq_none (Nat.le_of_not_lt hj)]
  rw [e]
  exact ⟨bd_z (by omega),by show (-500000000:Int)≤0∧(0:Int)≤500000000; omega⟩
theorem cr_p (c:Crs) {z:Nat} (h:z<4):cellZ c.cells z=c.p z:=by
 have:z=0∨z=1∨z=2∨z=3:=by omega
 rcases this with rfl | rfl | rfl | rfl <;> rfl
theorem ow_bd {Y:Yd} (h:okYd Y) {c:Crs} (hc:bdC 500000000 c):-(100000000000000000:Int)≤owC Y c∧owC Y c≤100000000000000000:=by
 have hb1:bdG 10000000000 (c6 c.l):=bd_c6 (bd_mono hc.1 (by omega))
 have cb:=(se_bd (or_of h) hb1 Y.q (Nat.le_refl _)).2
 have q6:=h.l.a
 have:=hc.2
 unfold owC
 omega
theorem pn_true (Y:Yd):pnG Y:=by
 rw [pnG_vc]
 simp only [rI,rE,tt3,tt4,tt5,tt13,tt14,and_true,true_and,Nat.zero_lt_one,and_self,implies_true,Int.toNat_natCast,Nat.zero_add,Nat.add_zero,Nat.one_mul,Nat.mul_one,Classical.not_not,iff_self,Bool.false_eq_true,imp_false,and_imp,true_implies,forall_const,gdV_cells,sc1,sc0,ft_fold,sti_fold,sal_fold,yd_fold,iOf_fold,stiOf_fold,salOf_fold,yv_fold]
 refine ⟨fun h=>⟨by rw [pnN,if_neg h],by rw [pnI,if_neg h],by rw [pnE,if_neg h]⟩,fun h=>?_⟩
 have ho:=or_of h
 have q6:=h.l.a
 have m4:=h.s.a
 have st:=bdC_r (st_bd h.g.c)
 have ea:crA Y.sti Y.m (Int.toNat 0) (r17 (stC Y.g Y.st))=alC Y:=rfl
 rw [ea]
 refine ⟨rfl,q6,⟨rfl,h.g.b,rfl,rfl,fun i hi=>rfl⟩,rfl,⟨by omega,by omega,okSs_of h,?_,by simp; omega⟩,⟨0,rfl,rfl,rfl,rfl,e17_r trivial⟩,fun j hj z hz=>?_,fun z hz=>?_⟩
 ·have e:(100000000:Int)*(0+1)=100000000:=by decide
  rw [e]; exact st
 ·subst hz
  have hb:=alC_bd h (j:=z)
  have eo:(seS Y.sal (stF Y.sal Y.q) (c6 ((alC Y).getD z zC).l) Y.q).c - ((alC Y).getD z zC).c=owC Y ((alC Y).getD z zC):=rfl
  rw [eo]
  have ob:=ow_bd h hb
  refine ⟨rfl,rfl,ho,bd_c6 (bd_mono hb.1 (by omega)),by omega,fun hl=>⟨z+1,rfl,?_,?_⟩,fun hl=>⟨z+1,rfl,?_,?_⟩⟩
  ·simp only [bsP,if_pos hl]
  ·simp only [bsP,if_pos hl]; exact e17_r trivial
  ·simp only [bsP,if_neg hl]
  ·simp only [bsP,if_neg hl]; exact e17_r trivial
 ·subst hz
  have e1:pnN Y=Y.m:=by rw [pnN,if_pos h]
  rw [e1]
  refine ⟨by omega,by omega,by omega,by omega,by omega,by omega,by omega,by omega,by omega,rfl,Nat.le_refl _,fun i hi=>?_,by rw [pnI,if_pos h],by rw [pnE,if_pos h]⟩
  rw [cr_p _ (by omega)]
  rfl
theorem csN_sound:SoundS Try.prog (ctrsF [nmC,cuC] (ctrs [ydC 25,ncC,seC])):=ctrsF_sound (three_cs yd_ok nc_ok se_ok) (by intro x hx; simp at hx; rcases hx with rfl | rfl; exact nm_ok; exact cu_ok)
theorem pn_ok:pnC.Ok Try.prog:=by
 refine ⟨by kernel_rfl,fun x k hk=>?_⟩
 simp only [pnC] at hk
 split at hk
 ·rename_i g st m sti q sal
  obtain ⟨hf,hk⟩:=hk
  have hh:=pn_true (ydOf g st m sti q sal)
  unfold pnG at hh
  rw [← hf] at hh
  exact ⟨_,newD csN_sound nilS_x (ictrs_sound (by intro x hx; simp at hx; subst hx; exact ciC_ok 100)) hh (by simp [flatS,flatSL,scS,SV.cells,iA,pnR]),hk⟩
 ·exact hk.elim
end Go.Proofs.Ytbedomoilakcaaa

namespace Go.Proofs.Ytbedomoilakcaaa
open Go Go.Lg
noncomputable def rnL (f:Nat→Sti) (m:Nat) (p:Nat→Int):Nat→Crs→Crs
 | 0,c=>c
 | d+1,c=>rnL f m p d (r17 (nxC c (m - (d+1):Nat) (f (m - (d+1))) (p (m - (d+1)))))
def cnL (f:Nat→Sti) (m:Nat) (p:Nat→Int):Nat→Crs→Prop
 | 0,c=>True
 | d+1,c=>canP c (f (m - (d+1))) (p (m - (d+1)))∧cnL f m p d (r17 (nxC c (m - (d+1):Nat) (f (m - (d+1))) (p (m - (d+1)))))
theorem r17_p {c:Crs} {i:Nat} (h:i<4):(r17 c).p i=c.p i:=by
 have:i=0∨i=1∨i=2∨i=3:=by omega
 rcases this with rfl | rfl | rfl | rfl <;> rfl
theorem mem_p {f:Nat→Sti} {m:Nat} (hm:m≤4) (hs:∀ i,i<m→0≤(f i).most):∀ (d:Nat) (c x:Crs),d≤m→x ∈ crL f m d c→(∀ i,i<m - d→x.p i=c.p i)∧(∀ i,m - d≤i→i<m→okNb (f i).most (x.p i))∧cnL f m x.p d c∧x=rnL f m x.p d c
 | 0,c,x,_,hx=>by
  simp only [crL,List.mem_singleton] at hx
  subst hx
  exact ⟨fun _ _=>rfl,fun i h1 h2=>by omega,trivial,rfl⟩
 | d+1,c,x,hd,hx=>by
  simp only [crL,List.mem_flatMap,List.mem_range] at hx
  obtain ⟨t,ht,hx⟩:=hx
  split at hx
  ·rename_i hc
   obtain ⟨h1,h2,h3,h4⟩:=mem_p hm hs d _ x (by omega) hx
   have ha:m - (d+1)<m - d:=by omega
   have e:=h1 _ ha
   rw [r17_p (by omega)] at e
   have e:x.p (m - (d+1))=t:=by rw [e]; simp [nxC]
   have m0:=hs (m - (d+1)) (by omega)
   refine ⟨fun i hi=>?_,fun i hi1 hi2=>?_,?_,?_⟩
   ·rw [h1 i (by omega),r17_p (by omega)]
    simp only [nxC]
    rw [if_neg (by omega)]
   ·by_cases hh:i=m - (d+1)
    ·subst hh; rw [e]; exact ⟨by omega,by omega⟩
    ·exact h2 i (by omega) hi2
   ·simp only [cnL,e]; exact ⟨hc,h3⟩
   ·simp only [rnL,e]; exact h4
  ·simp at hx
theorem mem_of {f:Nat→Sti} {m:Nat} {p:Nat→Int}:∀ (d:Nat) (c:Crs),d≤m→(∀ i,m - d≤i→i<m→okNb (f i).most (p i))→cnL f m p d c→rnL f m p d c ∈ crL f m d c
 | 0,c,_,_,_=>by simp [crL,rnL]
 | d+1,c,hd,hb,hc=>by
  simp only [cnL] at hc
  have b:=hb (m - (d+1)) (by omega) (by omega)
  unfold okNb at b
  have ih:=mem_of d _ (by omega) (fun i h1 h2=>hb i (by omega) h2) hc.2
  simp only [crL,rnL,List.mem_flatMap,List.mem_range]
  refine ⟨(p (m - (d+1))).toNat,by omega,?_⟩
  have e:(((p (m - (d+1))).toNat:Nat):Int)=p (m - (d+1)):=by omega
  rw [e,if_pos hc.1]
  exact ih
def lexC (m:Nat) (x y:Nat→Int):Prop:=∃ i,i<m∧(∀ k,k<i→x k=y k)∧x i<y i
theorem crL_lex {f:Nat→Sti} {m:Nat} (hm:m≤4) (hs:∀ i,i<m→0≤(f i).most):∀ (d:Nat) (c:Crs),d≤m→List.Pairwise (fun x y=>lexC m x.p y.p) (crL f m d c)
 | 0,c,_=>by simp [crL]
 | d+1,c,hd=>by
  simp only [crL]
  rw [List.pairwise_flatMap]
  refine ⟨fun t ht=>?_,?_⟩
  ·split
   ·exact crL_lex hm hs d _ (by omega)
   ·exact List.Pairwise.nil
  ·refine List.Pairwise.imp ?_ List.pairwise_lt_range
   intro t1 t2 ht x hx y hy
   split at hx
   ·split at hy
    ·obtain ⟨a1,_⟩:=mem_p hm hs d _ x (by omega) hx
     obtain ⟨b1,_⟩:=mem_p hm hs d _ y (by omega) hy
     refine ⟨m - (d+1),by omega,fun k hk=>?_,?_⟩
     ·rw [a1 k (by omega),b1 k (by omega),r17_p (by omega),r17_p (by omega)]
      simp only [nxC]
      rw [if_neg (by omega),if_neg (by omega)]
     ·rw [a1 _ (by omega),b1 _ (by omega),r17_p (by omega),r17_p (by omega)]
      simp only [nxC,if_true]
      omega
    ·simp at hy
   ·simp at hx
structure eqC (c d:Crs):Prop where
 p:∀ i,i<4→c.p i=d.p i
 l:∀ i,i<6→c.l i=d.l i
 c:c.c=d.c
theorem nx_eq {c d:Crs} {a:Int} {s:Sti} {t:Int} (h:eqC c d):eqC (r17 (nxC c a s t)) (nxC d a s t):=by
 refine ⟨fun i hi=>?_,fun i hi=>?_,?_⟩
 ·rw [r17_p hi]; simp only [nxC,h.p i hi]
 ·show c6 _ i=_
  rw [c6_eq hi]; simp only [nxC,adG,h.l i hi]
 ·show c.c+_=d.c+_
  rw [h.c]
theorem can_eq {c d:Crs} {s:Sti} {t:Int} (h:eqC c d) (hi:s.inn.toNat<6):canP c s t↔canP d s t:=by
 unfold canP; rw [h.l _ hi]
theorem rn_eq {Y:Yd} {p:Nat→Int} (hi:∀ i,i<Y.m→(Y.sti i).inn.toNat<6):∀ (d:Nat) (c:Crs),d≤Y.m→eqC c (plX Y p (Y.m - d))→eqC (rnL Y.sti Y.m p d c) (plX Y p Y.m)∧(cnL Y.sti Y.m p d c↔∀ i,Y.m - d≤i→i<Y.m→canP (plX Y p i) (Y.sti i) (p i))
 | 0,c,_,h=>⟨by simpa [rnL] using h,⟨fun _ i h1 h2=>by omega,fun _=>trivial⟩⟩
 | d+1,c,hd,h=>by
  have e:Y.m - d=(Y.m - (d+1))+1:=by omega
  have hn:eqC (r17 (nxC c (Y.m - (d+1):Nat) (Y.sti (Y.m - (d+1))) (p (Y.m - (d+1))))) (plX Y p (Y.m - d)):=by
   rw [e]; exact nx_eq h
  obtain ⟨h1,h2⟩:=rn_eq hi d _ (by omega) hn
  refine ⟨h1,?_⟩
  simp only [cnL]
  rw [h2,can_eq h (hi _ (by omega))]
  constructor
  ·rintro ⟨a,b⟩ i h3 h4
   by_cases hh:i=Y.m - (d+1)
   ·subst hh; exact a
   ·exact b i (by omega) h4
  ·intro hh
   exact ⟨hh _ (by omega) (by omega),fun i h3 h4=>hh i (by omega) h4⟩
noncomputable def inO (Y:Yd) (p:Nat→Int):Int:=(inS Y p).c - (plX Y p Y.m).c
theorem plX_congr {Y:Yd} {p p':Nat→Int}:∀ k,(∀ i,i<k→p i=p' i)→plX Y p k=plX Y p' k
 | 0,_=>rfl
 | k+1,h=>by
  simp only [plX]
  rw [plX_congr k fun i hi=>h i (by omega),h k (by omega)]
theorem canL_congr {Y:Yd} {p p':Nat→Int} {k:Nat} (h:∀ i,i<k→p i=p' i):canL Y p k↔canL Y p' k:=by
 unfold canL
 constructor <;> intro hh i hi
 ·rw [← plX_congr i fun j hj=>h j (by omega),← h i hi]; exact hh i hi
 ·rw [plX_congr i fun j hj=>h j (by omega),h i hi]; exact hh i hi
theorem inO_congr {Y:Yd} {p p':Nat→Int} (h:∀ i,i<Y.m→p i=p' i):inO Y p=inO Y p':=by
 unfold inO inS; rw [plX_congr Y.m h]
theorem ow_eq {Y:Yd} (h:okYd Y) {p:Nat→Int} {x:Crs} (hx:eqC x (plX Y p Y.m)):owC Y x=inO Y p:=by
 unfold owC inO inS
 rw [(se_congr (or_of h) (fun i hi=>by rw [c6_eq hi,hx.l i hi]) Y.q (Nat.le_refl _)).2.2,hx.c]
section
variable {Y:Yd} (h:okYd Y)
include h
theorem inn_lt:∀ i,i<Y.m→(Y.sti i).inn.toNat<6:=fun i hi=>by
 have s:=okSt_of (by have:=h.g.b; omega) (h.s.b i hi).2
 have:=s.i0
 have:=s.i1
 omega
omit h in
theorem alC_def (Y:Yd):alC Y=crL Y.sti Y.m Y.m (r17 (stC Y.g Y.st)):=by unfold alC crA; rw [Nat.sub_zero]
theorem al_mem {j:Nat} (hj:j<(alC Y).length):okPl Y.m Y.sti Y.m ((alC Y).getD j zC).p∧canL Y ((alC Y).getD j zC).p Y.m∧eqC ((alC Y).getD j zC) (plX Y ((alC Y).getD j zC).p Y.m):=by
 have hx:(alC Y).getD j zC ∈ crL Y.sti Y.m Y.m (r17 (stC Y.g Y.st)):=by
  rw [← alC_def Y]
  simp only [List.getD,List.getElem?_eq_getElem hj,Option.getD_some]
  exact List.getElem_mem hj
 obtain ⟨-,h2,h3,h4⟩:=mem_p h.s.a (fun i hi=>(h.s.b i hi).2.m0) Y.m _ _ (Nat.le_refl _) hx
 have hst:eqC (r17 (stC Y.g Y.st)) (plX Y ((alC Y).getD j zC).p (Y.m - Y.m)):=by
  rw [Nat.sub_self]; exact ⟨fun i hi=>r17_p hi,fun i hi=>c6_eq hi,rfl⟩
 obtain ⟨h5,h6⟩:=rn_eq (inn_lt h) Y.m _ (Nat.le_refl _) hst
 refine ⟨⟨rfl,fun i hi=>h2 i (by omega) hi⟩,fun i hi=>h6.1 h3 i (by omega) hi,?_⟩
 rw [← h4] at h5; exact h5
theorem al_of {p:Nat→Int} (hp:okPl Y.m Y.sti Y.m p) (hc:canL Y p Y.m):∃ j,j<(alC Y).length∧eqC ((alC Y).getD j zC) (plX Y p Y.m)∧∀ i,i<Y.m→((alC Y).getD j zC).p i=p i:=by
 have hst:eqC (r17 (stC Y.g Y.st)) (plX Y p (Y.m - Y.m)):=by
  rw [Nat.sub_self]; exact ⟨fun i hi=>r17_p hi,fun i hi=>c6_eq hi,rfl⟩
 obtain ⟨h5,h6⟩:=rn_eq (inn_lt h) Y.m _ (Nat.le_refl _) hst
 have hm:=mem_of Y.m (r17 (stC Y.g Y.st)) (Nat.le_refl _) (fun i _ hi=>hp.h i hi) (h6.2 fun i _ hi=>hc i hi)
 rw [← alC_def Y] at hm
 obtain ⟨j,hj,e⟩:=List.getElem_of_mem hm
 have e2:(alC Y).getD j zC=rnL Y.sti Y.m p Y.m (r17 (stC Y.g Y.st)):=by simp only [List.getD,List.getElem?_eq_getElem hj,Option.getD_some,e]
 refine ⟨j,hj,by rw [e2]; exact h5,fun i hi=>?_⟩
 rw [e2,h5.p i (by have:=h.s.a; omega)]
 have key:∀ k,i<k→(plX Y p k).p i=p i:=by
  intro k
  induction k with
  | zero=>intro h; omega
  | succ k ih =>
   intro hk
   show (if (i:Int)=(k:Int) then p k else (plX Y p k).p i)=p i
   by_cases e:i=k
   ·subst e; rw [if_pos rfl]
   ·rw [if_neg (by omega)]; exact ih (by omega)
 exact key Y.m hi
theorem al_lt {j j':Nat} (hj:j<j') (hj':j'<(alC Y).length):lexC Y.m ((alC Y).getD j zC).p ((alC Y).getD j' zC).p:=by
 have hp:=crL_lex (f:=Y.sti) (m:=Y.m) h.s.a (fun i hi=>(h.s.b i hi).2.m0) Y.m (r17 (stC Y.g Y.st)) (Nat.le_refl _)
 rw [← alC_def Y,List.pairwise_iff_getElem] at hp
 have:=hp j j' (by omega) hj' hj
 simp only [List.getD,List.getElem?_eq_getElem (show j<(alC Y).length by omega),List.getElem?_eq_getElem hj',Option.getD_some]
 exact this
omit h in
theorem bs_inv (Y:Yd):∀ j,0≤(bsP Y j).2∧(∀ i,i<j→owC Y ((alC Y).getD i zC)≤(bsP Y j).2)∧((bsP Y j=(zC,0))∨∃ i,i<j∧bsP Y j=((alC Y).getD i zC,owC Y ((alC Y).getD i zC))∧∀ i',i'<i→owC Y ((alC Y).getD i' zC)<owC Y ((alC Y).getD i zC))
 | 0=>⟨Int.le_refl 0,fun i hi=>by omega,.inl rfl⟩
 | j+1=>by
  obtain ⟨h1,h2,h3⟩:=bs_inv Y j
  by_cases hl:(bsP Y j).2<owC Y ((alC Y).getD j zC)
  ·have e:bsP Y (j+1)=((alC Y).getD j zC,owC Y ((alC Y).getD j zC)):=by simp only [bsP,if_pos hl]
   rw [e]
   refine ⟨by simp only; omega,fun i hi=>?_,.inr ⟨j,by omega,rfl,fun i' hi'=>by have:=h2 i' hi'; omega⟩⟩
   by_cases hh:i=j
   ·subst hh; exact Int.le_refl _
   ·have:=h2 i (by omega); simp only; omega
  ·have e:bsP Y (j+1)=bsP Y j:=by simp only [bsP,if_neg hl]
   rw [e]
   refine ⟨h1,fun i hi=>?_,h3.imp id fun ⟨i,a,b⟩=>⟨i,by omega,b⟩⟩
   by_cases hh:i=j
   ·subst hh; omega
   ·exact h2 i (by omega)
theorem pl_zero:∀ k,k≤Y.m→canL Y (fun _=>0) k∧(∀ i,i<6→0≤((plX Y (fun _=>0) k).l i).lo)∧(plX Y (fun _=>0) k).c=0
 | 0,_=>⟨fun i hi=>by omega,fun i hi=>by
   show 0≤(if i<Y.g then (⟨Y.st i,Y.st i⟩:Tw) else ⟨0,0⟩).lo
   split
   ·rename_i hg; exact (h.g.c i hg).1
   ·exact Int.le_refl 0,rfl⟩
 | k+1,hk=>by
  obtain ⟨h1,h2,h3⟩:=pl_zero k (by omega)
  have hin:=inn_lt h k (by omega)
  have hc:canP (plX Y (fun _=>0) k) (Y.sti k) 0:=by
   unfold canP; rw [Int.zero_mul]; exact h2 _ hin
  refine ⟨fun i hi=>?_,fun i hi=>?_,?_⟩
  ·by_cases e:i=k
   ·subst e; exact hc
   ·exact h1 i (by omega)
  ·show 0≤(0+((plX Y (fun _=>0) k).l i).lo+(tkG (Y.sti k) 0 i).lo)+(mdG (Y.sti k) 0 (Y.sti k).on i).lo
   have:=h2 i hi
   unfold tkG mdG
   split <;> split <;> simp <;> omega
  ·show (plX Y (fun _=>0) k).c+0*(Y.sti k).pay=0
   rw [h3]; simp
omit h in
theorem se_nonneg {Y:Yd} {L:Nat→Tw} {o:Nat→Int} (ho:okOr Y.q Y.sal o) (hL:∀ i,i<6→0≤(L i).lo):∀ k,k≤Y.q→(∀ i,i<6→0≤((seS Y.sal o L k).l i).lo)∧0≤(seS Y.sal o L k).c
 | 0,_=>⟨hL,Int.le_refl 0⟩
 | k+1,hk=>by
  obtain ⟨h1,h2⟩:=se_nonneg ho hL k (by omega)
  have b:=ho.b k (by omega)
  have hs:=ho.s.b (o k).toNat (by omega)
  have g0:=hs.g0
  have g1:=hs.g1
  have m0:=hs.m0
  have l:=h1 (Y.sal (o k).toNat).good.toNat (by omega)
  have av:0≤ssA Y.sal (seS Y.sal o L k) (o k):=by unfold ssA; omega
  refine ⟨fun i hi=>?_,?_⟩
  ·have hi':=h1 i hi
   by_cases e:i=(Y.sal (o k).toNat).good.toNat
   ·have el:(seS Y.sal o L (k+1)).l i=⟨((seS Y.sal o L k).l i).lo - ssA Y.sal (seS Y.sal o L k) (o k),((seS Y.sal o L k).l i).hi⟩:=by simp only [seS,ssN,if_pos e]
    rw [el]
    unfold ssA
    rw [← e]
    simp only
    omega
   ·have el:(seS Y.sal o L (k+1)).l i=(seS Y.sal o L k).l i:=by simp only [seS,ssN,if_neg e]
    rw [el]; exact hi'
  ·have p:=Int.mul_nonneg av hs.p0
   show 0≤(seS Y.sal o L k).c+ssA Y.sal (seS Y.sal o L k) (o k)*(Y.sal (o k).toNat).price
   omega
theorem best_spec:okPl Y.m Y.sti Y.m (pnF Y)∧canL Y (pnF Y) Y.m∧inO Y (pnF Y)=pnI Y∧∀ p,okPl Y.m Y.sti Y.m p→canL Y p Y.m→inO Y p≤pnI Y∧(inO Y p=pnI Y→¬ lexC Y.m p (pnF Y)):=by
 have eI:pnI Y=(bsP Y (alC Y).length).2:=by rw [pnI,if_pos h]
 obtain ⟨h1,h2,h3⟩:=bs_inv Y (alC Y).length
 have up:∀ p,okPl Y.m Y.sti Y.m p→canL Y p Y.m→inO Y p≤pnI Y:=fun p hp hc=>by
  obtain ⟨j,hj,he,-⟩:=al_of h hp hc
  rw [eI,← ow_eq h he]; exact h2 j hj
 rcases h3 with h3 | ⟨i,hi,h3,h4⟩
 ·have eF:pnF Y=fun _=>0:=by unfold pnF; rw [h3]; rfl
  have e0:pnI Y=0:=by rw [eI,h3]
  obtain ⟨z1,z2,z3⟩:=pl_zero h Y.m (Nat.le_refl _)
  have hok:okPl Y.m Y.sti Y.m (fun _=>0):=⟨rfl,fun i hi=>⟨Int.le_refl 0,(h.s.b i hi).2.m0⟩⟩
  have hs:=(se_nonneg (or_of h) z2 Y.q (Nat.le_refl _)).2
  have hz:0≤inO Y (fun _=>0):=by unfold inO inS; rw [z3]; omega
  rw [eF]
  refine ⟨hok,z1,by have:=up _ hok z1; omega,fun p hp hc=>⟨up p hp hc,fun _ ⟨i,hi,_,hl⟩=>?_⟩⟩
  have:=(hp.h i hi).1
  have hl:p i<0:=hl
  omega
 ·obtain ⟨m1,m2,m3⟩:=al_mem h hi
  have eF:pnF Y=((alC Y).getD i zC).p:=by unfold pnF; rw [h3]
  have eo:inO Y (pnF Y)=pnI Y:=by rw [eI,h3,eF,← ow_eq h m3]
  rw [eF] at eo ⊢
  refine ⟨m1,m2,eo,fun p hp hc=>⟨up p hp hc,fun he hl=>?_⟩⟩
  obtain ⟨j,hj,hje,hjp⟩:=al_of h hp hc
  have hjo:owC Y ((alC Y).getD j zC)=owC Y ((alC Y).getD i zC):=by rw [ow_eq h hje,he,eI,h3]
  obtain ⟨k,hk,hk1,hk2⟩:=hl
  rcases Nat.lt_trichotomy j i with hji | hji | hji
  ·have:=h4 j hji; omega
  ·subst hji
   have:=hjp k hk
   omega
  ·obtain ⟨k',hk',hk1',hk2'⟩:=al_lt h hji hj
   rw [hjp k' hk'] at hk2'
   rcases Nat.lt_trichotomy k k' with e | e | e
   ·have:=hk1' k e
    rw [hjp k hk] at this
    omega
   ·subst e; omega
   ·have:=hk1 k' e
    omega
end
end Go.Proofs.Ytbedomoilakcaaa
