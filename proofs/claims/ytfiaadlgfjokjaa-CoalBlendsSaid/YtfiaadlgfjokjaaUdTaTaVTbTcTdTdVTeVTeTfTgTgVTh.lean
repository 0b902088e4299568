import Derived.Test.YtfiaadlgfjokjaaQmUaUaVUbUcUcVSaSaVSbSc
set_option linter.unusedVariables false
set_option linter.unusedSimpArgs false
set_option maxRecDepth 100000
namespace Go.Proofs.Ytfiaadlgfjokjaa
open Go Go.Lg
attribute [local irreducible] funS bodyH
theorem sn_y {M:Ms} {z:Nat} (h:stI M z):snF M (z+1)=snF M z+1:=by
 have e:snF M (z+1)=snF M z+1 - 1+(@ite _ (stI M z) (Classical.propDecidable _) 1 0):=by unfold snF; simp only [sumJ]; omega
 rw [e,if_pos h]; omega
theorem sn_n {M:Ms} {z:Nat} (h:¬ stI M z):snF M (z+1)=snF M z:=by
 have e:snF M (z+1)=snF M z+1 - 1+(@ite _ (stI M z) (Classical.propDecidable _) 1 0):=by unfold snF; simp only [sumJ]; omega
 rw [e,if_neg h]; omega
theorem sn_bd (M:Ms) (z:Nat):-1≤snF M z∧snF M z≤z - 1:=by
 induction z with
 | zero=>simp [snF,sumJ]
 | succ z ih =>
  by_cases h:stI M z
  ·rw [sn_y h]; omega
  ·rw [sn_n h]; omega
theorem lr_true {Y:Yd} {b:Int} (h:0≤b∧b<Y.m.n∧Y.m.n≤1000):lrG Y b:=by
 rw [lrG_vc]
 simp only [rI,rE,tA,tB,tC,tD,and_true,true_and,Nat.zero_lt_one,and_self,implies_true,Int.toNat_natCast,Classical.not_not]
 refine ⟨⟨0,by omega,rfl,rfl⟩,fun z hz=>⟨fun hl=>⟨by omega,by omega,fun hd=>?_,fun hd=>⟨fun h0=>?_,fun h0=>⟨by omega,by omega,by omega,fun hp=>?_,fun hp=>⟨by omega,by omega,by omega,fun hh=>?_,fun hh=>?_⟩⟩⟩⟩,fun hl=>?_⟩⟩
 ·exact ⟨by omega,z+1,by omega,by omega,(sn_n fun s=>s.1 hd).symm,by omega⟩
 ·have b:=sn_bd Y.m z
  exact ⟨by omega,by omega,z+1,by omega,by omega,(sn_y ⟨hd,.inl (by omega)⟩).symm,by omega⟩
 all_goals try (have e1:((z:Int) - 1).toNat=z - 1:=by omega)
 ·rw [e1] at hp
  have b:=sn_bd Y.m z
  exact ⟨by omega,by omega,z+1,by omega,by omega,(sn_y ⟨hd,.inr (.inl hp)⟩).symm,by omega⟩
 ·rw [e1] at hh
  have b:=sn_bd Y.m z
  exact ⟨by omega,by omega,z+1,by omega,by omega,(sn_y ⟨hd,.inr (.inr hh)⟩).symm,by omega⟩
 ·rw [e1] at hh hp
  refine ⟨by omega,z+1,by omega,by omega,(sn_n fun s=>?_).symm,by omega⟩
  rcases s.2 with s | s | s
  ·omega
  ·exact hp s
  ·exact s hh
 ·have:z=(b+1).toNat:=by omega
  rw [this]
theorem lr_ok:lrC.Ok Try.prog:=by
 refine ⟨by kernel_rfl,fun x k hk=>?_⟩
 simp only [lrC] at hk
 split at hk
 ·rename_i n f m g b
  obtain ⟨h1,h2,h3,hk⟩:=hk
  have hh:=lr_true (Y:=⟨clOf n f,msOf m g⟩) (b:=b) h3
  unfold lrG at hh
  simp only [Yd.sv] at hh
  rw [← h1,← h2] at hh
  have hh:funH Try.prog (ctrs []) noX (ictrs []) _ noL 50 [.agg [.lst 8 n f,.lst 3 m g],i6 b] _:=hh
  exact ⟨_,plainD nilS_cs nilS_x nilS_ic hh trivial,hk⟩
 ·exact hk.elim
theorem co_s (M:Ms) (o:Int) (k i:Nat):ctF M o (k+1) i=ctF M o k i+coI M o i k:=rfl
theorem co_bd {M:Ms} {c o:Int} (h:okMs c M) {k i:Nat} (hk:k≤M.n):0≤ctF M o k i∧ctF M o k i≤33554432:=by
 have:=sj_bd (g:=coI M o i) (B:=1048576) (m:=k) fun j hj=>by
  have m:=h.h j (by omega)
  have:=m.t0
  have:=m.t1
  unfold coI
  split <;> omega
 have:=h.n
 unfold ctF
 omega
end Go.Proofs.Ytfiaadlgfjokjaa

namespace Go.Proofs.Ytfiaadlgfjokjaa
open Go Go.Lg
attribute [local irreducible] bodyH funS
noncomputable def ndJ (L:Nat→Int) (t:Int):Nat→Int
 | 0=>t
 | k+1=>ndJ L t k - min (L k) (ndJ L t k)
noncomputable def owJ (L:Nat→Int) (t:Int) (k:Nat):Int:=min (L k) (ndJ L t k)
noncomputable def csJ (Y:Yd) (i k:Nat):Int:=sumJ (ctF Y.m k i) Y.c.n
open Classical in
noncomputable def wkJ (Y:Yd):Nat→Nat→Int
 | 0,_=>0
 | i+1,k=>if (Y.m.f i).co=-1 then wkJ Y i k+owJ (fun q=>csJ Y i q - wkJ Y i q) (Y.m.f i).tn k else wkJ Y i k
noncomputable def lfJ (Y:Yd) (i k:Nat):Int:=csJ Y i k - wkJ Y i k
noncomputable def oIJ (Y:Yd) (i k:Nat):Int:=owJ (lfJ Y i) (Y.m.f i).tn k
noncomputable def nIJ (Y:Yd) (i k:Nat):Int:=ndJ (lfJ Y i) (Y.m.f i).tn k
open Classical in
noncomputable def atJ (M:Ms) (d:Nat):Nat→Nat
 | 0=>0
 | k+1=>if (M.f k).co=-1∧dn M k=d then k else atJ M d k
noncomputable def oJ (Y:Yd) (d k:Nat):Int:=oIJ Y (atJ Y.m d Y.m.n) k
noncomputable def lnJ (M:Ms):Nat:=(snF M M.n+1).toNat
open Classical in
def pqO (Y:Yd) (i:Nat):Prop:=∀ j,j<i→(Y.m.f j).co=-1→nIJ Y j (lnJ Y.m)≤0
open Classical in
noncomputable def pqN (Y:Yd):Nat:=if pqO Y Y.m.n then dn Y.m Y.m.n else 0
noncomputable def ooL (Y:Yd) (n:Nat):SV:=.lst 1 n fun d=>.lst 1 (lnJ Y.m) fun k=>i6 (oJ Y d k)
noncomputable def pqR (Y:Yd):SV:=.tup [ooL Y (pqN Y),.dec (pqO Y Y.m.n) (Classical.propDecidable _)]
noncomputable def smC:Ctr:=⟨38,fun args k=>match args with
 | [.lst 1 n f]=>SV.lst 1 n f=(tnOf n f).sv∧(n≤1000∧∀ i,i<n→-1099511627776≤(tnOf n f).f i∧(tnOf n f).f i≤1099511627776)∧k (i6 (sumJ (tnOf n f).f n))
 | _=>False⟩
noncomputable def l7C:Ctr:=⟨37,fun args k=>match args with
 | [.agg [.lst 8 n f,.lst 3 m g]]=>SV.lst 8 n f=(clOf n f).sv∧SV.lst 3 m g=(msOf m g).sv∧m≤1000∧k (i6 (snF (msOf m g) m+1))
 | _=>False⟩
noncomputable def c8C:Ctr:=⟨28,fun args k=>match args with
 | [.agg [.lst 8 n f,.lst 3 m g],.int .i64 o,.int .i64 b]=>SV.lst 8 n f=(clOf n f).sv∧SV.lst 3 m g=(msOf m g).sv∧(0≤b∧b≤m∧okCl (clOf n f)∧okMs n (msOf m g))∧k (.lst 1 n fun i=>i6 (ctF (msOf m g) o b.toNat i))
 | _=>False⟩
theorem rd3T {n s1 s2 s3:Nat} (t:FS) (X:XS) (k:Nat × Nat × Nat→Prop) (h:(match sget n t s1,sget n t s2,sget n t s3 with | .int _ a,.int _ b,.int _ c=>k (a.toNat,b.toNat,c.toNat) | _,_,_=>False)):∃ s,k s:=by
 split at h
 ·exact ⟨_,h⟩
 ·exact h.elim
theorem rd3P {n s1 s2:Nat} (t:FS) (X:XS) (k:Nat→Prop) (h:(match sget n t s1,sget n t s2 with
  | .int _ a,.int _ b=>k (a.toNat*64+b.toNat)
  | _,_=>False)):∃ s,k s:=by
 split at h
 ·exact ⟨_,h⟩
 ·exact h.elim
noncomputable def t3H (n s1 s2 s3 nr:Nat) (inv:Nat × Nat × Nat→Prop) (μ:Nat × Nat × Nat→Nat) (t:Nat × Nat × Nat→FS) (X:Nat × Nat × Nat→XS):HSpec :=
 { toLSpec:={ σ:=Nat × Nat × Nat,inv:=inv,μ:=μ,nr:=nr,ms:=fun _ _=>[],t:=t,X:=X,rd:=fun t X k=>(match sget n t s1,sget n t s2,sget n t s3 with | .int _ a,.int _ b,.int _ c=>k (a.toNat,b.toNat,c.toNat) | _,_,_=>False),rdOK:=rd3T },par:=some ⟨fun t X k=>(match sget n t s1,sget n t s2 with | .int _ a,.int _ b=>k (a.toNat*64+b.toNat) | _,_=>False),rd3P⟩,kinv:=fun y s=>s.1*64+s.2.1=y }
noncomputable def pqF (Y:Yd) (i:Nat) (l:List (Nat × SV)):FS:=mkF 80 ([(1,.ptr 0 0 0),(4,.sl 1 0 (dn Y.m i)),(5,i6 (lnJ Y.m)),(6,i6 i)] ++ l)
noncomputable def pqX (Y:Yd) (i:Nat) (l:List (Option SRow)):XS:=mkX ([vr 2 Y.sv,rw' 1 (dn Y.m i) fun d=>.lst 1 (lnJ Y.m) fun k=>i6 (oJ Y d k)] ++ l)
structure pqI (Y:Yd) (i:Nat):Prop where
 a:i≤Y.m.n
 o:pqO Y i
structure pqI2 (Y:Yd) (s:Nat × Nat):Prop where
 a:s.1<Y.m.n
 d:(Y.m.f s.1).co=-1
 o:pqO Y s.1
 k:s.2≤lnJ Y.m
structure pqI4 (Y:Yd) (s:Nat × Nat × Nat):Prop where
 a:s.1<Y.m.n
 d:(Y.m.f s.1).co=-1
 o:pqO Y s.1
 k:s.2.1<lnJ Y.m
 j:s.2.2≤dn Y.m s.1
noncomputable def ldJ (Y:Yd) (i k d:Nat):Int:=csJ Y i k - sumJ (fun d=>oJ Y d k) d
noncomputable def ownF (Y:Yd) (i k:Nat):SRow:=⟨1,lnJ Y.m,fun j=>i6 (if j<k then oIJ Y i j else 0),false⟩
noncomputable def pqG (Y:Yd):Prop:=funZ Try.prog (ctrs [l7C,c8C,smC]) (litX noX) (ictrs [])
 (twoL 0 { appN 80 4 (pqI Y) (fun i=>Y.m.n - i) 1 (fun i=>pqF Y i []) (fun i=>pqX Y i []) with fz:=true } <|
 twoL 2 (twH 80 6 9 3 (pqI2 Y) (fun s=>lnJ Y.m - s.2) (fun s=>pqF Y s.1 [(7,i6 (nIJ Y s.1 s.2)),(8,.sl 2 0 (lnJ Y.m)),(9,i6 s.2)]) (fun s=>pqX Y s.1 [some (ownF Y s.1 s.2)])) <|
 oneL 4 (t3H 80 6 9 11 3 (pqI4 Y) (fun s=>dn Y.m s.1 - s.2.2) (fun s=>pqF Y s.1 [(7,i6 (nIJ Y s.1 s.2.1)),(8,.sl 2 0 (lnJ Y.m)),(9,i6 s.2.1),(10,i6 (ldJ Y s.1 s.2.1 s.2.2)),(11,i6 s.2.2)]) (fun s=>pqX Y s.1 [some (ownF Y s.1 s.2.1)]))) noL
 24 [Y.sv] (pqR Y)
end Go.Proofs.Ytfiaadlgfjokjaa

set_option maxRecDepth 100000
namespace Go.Proofs.Ytfiaadlgfjokjaa
open Go Go.Lg
theorem pqG_vc (Y:Yd):pqG Y=((0:Nat)<(1:Nat)∧tA Y∧tB Y∧tC Y∧tD Y∧Y.m.1≤(1000:Nat)∧(∃ (z:Nat),pqI Y z∧rE (0:Nat)∧rE (0:Nat)∧rE (0:Nat)∧(0:Nat)=dn Y.m z∧snF Y.m Y.m.1+(1:Int)=(↑(lnJ Y.m):Int)∧(0:Int)=(↑z:Int)∧rE Y.c.1∧(∀ (i:Nat),i<Y.c.1→rE ((Y.c.f i).sv.den)∧True∧True∧True∧True∧True∧True∧True∧True∧True)∧rE Y.m.1∧(∀ (i:Nat),i<Y.m.1→rE ((Y.m.f i).sv.den)∧True∧True∧True∧True)∧dn Y.m z=(0:Nat)∧True)∧∀ (z:Nat),pqI Y z→(0:Nat)<(1:Nat)∧((↑z:Int)<(↑Y.m.1:Int)→(0:Nat)<(1:Nat)∧(0:Int)≤(↑z:Int)∧(↑z:Int)<(↑Y.m.1:Int)∧(¬(Y.m.f (↑z:Int).toNat).2=(-1:Int)→rI ((↑z:Int)+(1:Int))∧∃ (z_1:Nat),pqI Y z_1∧Y.m.1 - z_1<Y.m.1 - z∧rE (0:Nat)∧rE (0:Nat)∧rE (0:Nat)∧dn Y.m z=dn Y.m z_1∧rE (↑(lnJ Y.m):Int)∧(↑z:Int)+(1:Int)=(↑z_1:Int)∧rE Y.c.1∧(∀ (i:Nat),i<Y.c.1→rE ((Y.c.f i).sv.den)∧True∧True∧True∧True∧True∧True∧True∧True∧True)∧rE Y.m.1∧(∀ (i:Nat),i<Y.m.1→rE ((Y.m.f i).sv.den)∧True∧True∧True∧True)∧dn Y.m z_1=dn Y.m z∧(∀ (i:Nat),i<dn Y.m z_1→rE (1:Nat)∧rE (lnJ Y.m)∧(∀ (i_1:Nat),i_1<lnJ Y.m→rE ((i6 (oJ Y i i_1)).den)∧True)∧True)∧True)∧(¬¬(Y.m.f (↑z:Int).toNat).2=(-1:Int)→(0:Nat)<(1:Nat)∧(0:Int)≤(↑z:Int)∧(↑z:Int)<(↑Y.m.1:Int)∧(0:Int)≤(↑(lnJ Y.m):Int) ∧
(↑(lnJ Y.m):Int)≤(↑(lnJ Y.m):Int)∧(↑(lnJ Y.m):Int)≤(1048576:Int)∧(↑(lnJ Y.m):Int)*(↑(8:Nat):Int)≤(140737488355328:Int)∧((pqI2 Y ((↑z:Int).toNat,Int.toNat (0:Int))∧z=(↑z:Int).toNat)∧rE (0:Nat)∧rE (0:Nat)∧rE (0:Nat)∧rE (dn Y.m z)∧rE (↑(lnJ Y.m):Int)∧rE (↑z:Int)∧(Y.m.f (↑z:Int).toNat).3=nIJ Y z (0:Nat)∧rE (0:Nat)∧(↑(lnJ Y.m):Int).toNat=lnJ Y.m∧(0:Int)=(↑(0:Nat):Int)∧rE Y.c.1∧(∀ (i:Nat),i<Y.c.1→rE ((Y.c.f i).sv.den)∧True∧True∧True∧True∧True∧True∧True∧True∧True)∧rE Y.m.1∧(∀ (i:Nat),i<Y.m.1→rE ((Y.m.f i).sv.den)∧True∧True∧True∧True)∧rE (dn Y.m z)∧(∀ (i:Nat),i<dn Y.m z→rE (1:Nat)∧rE (lnJ Y.m)∧(∀ (i_1:Nat),i_1<lnJ Y.m→rE ((i6 (oJ Y i i_1)).den)∧True)∧True)∧lnJ Y.m=(↑(lnJ Y.m):Int).toNat∧(∀ (i:Nat),i<lnJ Y.m→rE (1:Nat)∧((0:Int)=if i<(0:Nat) then oIJ Y z i else (0:Int))∧True)∧True)∧∀ (z_1:Nat × Nat),pqI2 Y z_1∧z_1.1=(↑z:Int).toNat→((↑z_1.2:Int)<(↑(lnJ Y.m):Int)→(0:Nat)<(1:Nat)∧tA Y∧tB Y∧tC Y∧tD Y∧((0:Int)≤(↑z_1.1:Int)∧(↑z_1.1:Int)≤(↑Y.m.1:Int)∧okCl Y.c∧okMs (↑Y.c.n:Int) Y.m)∧(∀ (i:Nat),i<Y.c.1→True)∧(SV.lst (1:Nat) Y.c.n fun i=>i6 (ctF Y.m (↑z_1.snd:Int) (↑z_1.fst:Int).toNat i))=(tnOf Y.c.n fun i=>i6 (ctF Y.m (↑z_1.snd:Int) (↑z_1.fst:Int).toNat i)).sv∧(Y.c.1≤(1000:Nat) ∧
∀ (i:Nat),i<Y.c.1→(-1099511627776:Int)≤ctF Y.m (↑z_1.2:Int) (↑z_1.1:Int).toNat i∧ctF Y.m (↑z_1.2:Int) (↑z_1.1:Int).toNat i≤(1099511627776:Int))∧((pqI4 Y ((↑z_1.fst:Int).toNat,(↑z_1.snd:Int).toNat,Int.toNat (0:Int))∧rE ((↑z_1.1:Int).toNat*(64:Nat)+(↑z_1.2:Int).toNat))∧rE (0:Nat)∧rE (0:Nat)∧rE (0:Nat)∧dn Y.m z_1.1=dn Y.m (↑z_1.1:Int).toNat∧rE (↑(lnJ Y.m):Int)∧(↑z_1.1:Int)=(↑(↑z_1.1:Int).toNat:Int)∧nIJ Y z_1.1 z_1.2=nIJ Y (↑z_1.1:Int).toNat (↑z_1.2:Int).toNat∧rE (0:Nat)∧rE (lnJ Y.m)∧(↑z_1.2:Int)=(↑(↑z_1.2:Int).toNat:Int)∧sumJ (tnOf Y.c.n fun i=>i6 (ctF Y.m (↑z_1.snd:Int) (↑z_1.fst:Int).toNat i)).f Y.c.1=ldJ Y (↑z_1.1:Int).toNat (↑z_1.2:Int).toNat (0:Nat)∧(0:Int)=(↑(0:Nat):Int)∧rE Y.c.1∧(∀ (i:Nat),i<Y.c.1→rE ((Y.c.f i).sv.den)∧True∧True∧True∧True∧True∧True∧True∧True∧True)∧rE Y.m.1∧(∀ (i:Nat),i<Y.m.1→rE ((Y.m.f i).sv.den)∧True∧True∧True∧True)∧dn Y.m (↑z_1.1:Int).toNat=dn Y.m z_1.1∧(∀ (i:Nat),i<dn Y.m (↑z_1.1:Int).toNat→rE (1:Nat)∧rE (lnJ Y.m)∧(∀ (i_1:Nat),i_1<lnJ Y.m→rE ((i6 (oJ Y i i_1)).den)∧True)∧True)∧rE (lnJ Y.m)∧(∀ (i:Nat),i<lnJ Y.m→rE (1:Nat)∧((if i<z_1.2 then oIJ Y z_1.1 i else (0:Int))=if i<(↑z_1.2:Int).toNat then oIJ Y (↑z_1.1:Int).toNat i else (0:Int))∧True)∧True)∧∀ (z_2:Nat × Nat × Nat),pqI4 Y z_2 ∧
z_2.1*(64:Nat)+z_2.snd.1=(↑z_1.1:Int).toNat*(64:Nat)+(↑z_1.2:Int).toNat→((↑z_2.snd.2:Int)<(↑(dn Y.m z_2.1):Int)→(0:Int)≤(↑z_2.snd.2:Int)∧(↑z_2.snd.2:Int)<(↑(dn Y.m z_2.1):Int)∧(0:Nat)+(↑z_2.snd.2:Int).toNat<dn Y.m z_2.1∧(0:Int)≤(↑z_2.snd.1:Int)∧(↑z_2.snd.1:Int)<(↑(lnJ Y.m):Int)∧rI (ldJ Y z_2.1 z_2.snd.1 z_2.snd.2 - oJ Y ((0:Nat)+(↑z_2.snd.2:Int).toNat) (↑z_2.snd.1:Int).toNat)∧rI ((↑z_2.snd.2:Int)+(1:Int))∧(pqI4 Y ((↑z_2.fst:Int).toNat,(↑z_2.snd.fst:Int).toNat,((↑z_2.snd.snd:Int)+(1:Int)).toNat)∧(↑z_2.1:Int).toNat*(64:Nat)+(↑z_2.snd.1:Int).toNat=(↑z_1.1:Int).toNat*(64:Nat)+(↑z_1.2:Int).toNat)∧dn Y.m (↑z_2.1:Int).toNat - ((↑z_2.snd.2:Int)+(1:Int)).toNat<dn Y.m z_2.1 - z_2.snd.2∧rE (0:Nat)∧rE (0:Nat)∧rE (0:Nat)∧dn Y.m z_2.1=dn Y.m (↑z_2.1:Int).toNat∧rE (↑(lnJ Y.m):Int)∧(↑z_2.1:Int)=(↑(↑z_2.1:Int).toNat:Int)∧nIJ Y z_2.1 z_2.snd.1=nIJ Y (↑z_2.1:Int).toNat (↑z_2.snd.1:Int).toNat∧rE (0:Nat)∧rE (lnJ Y.m)∧(↑z_2.snd.1:Int)=(↑(↑z_2.snd.1:Int).toNat:Int)∧ldJ Y z_2.1 z_2.snd.1 z_2.snd.2 - oJ Y ((0:Nat)+(↑z_2.snd.2:Int).toNat) (↑z_2.snd.1:Int).toNat=ldJ Y (↑z_2.1:Int).toNat (↑z_2.snd.1:Int).toNat ((↑z_2.snd.2:Int)+(1:Int)).toNat∧(↑z_2.snd.2:Int)+(1:Int)=(↑((↑z_2.snd.2:Int)+(1:Int)).toNat:Int)∧rE Y.c.1∧(∀ (i:Nat),i<Y.c.1→rE ((Y.c.f i).sv.den)∧True ∧
True∧True∧True∧True∧True∧True∧True∧True)∧rE Y.m.1∧(∀ (i:Nat),i<Y.m.1→rE ((Y.m.f i).sv.den)∧True∧True∧True∧True)∧dn Y.m (↑z_2.1:Int).toNat=dn Y.m z_2.1∧(∀ (i:Nat),i<dn Y.m (↑z_2.1:Int).toNat→rE (1:Nat)∧rE (lnJ Y.m)∧(∀ (i_1:Nat),i_1<lnJ Y.m→rE ((i6 (oJ Y i i_1)).den)∧True)∧True)∧rE (lnJ Y.m)∧(∀ (i:Nat),i<lnJ Y.m→rE (1:Nat)∧((if i<z_2.snd.1 then oIJ Y z_2.1 i else (0:Int))=if i<(↑z_2.snd.1:Int).toNat then oIJ Y (↑z_2.1:Int).toNat i else (0:Int))∧True)∧True)∧(¬(↑z_2.snd.2:Int)<(↑(dn Y.m z_2.1):Int)→(0:Int)≤(↑z_2.snd.1:Int)∧(↑z_2.snd.1:Int)<(↑(lnJ Y.m):Int)∧(0:Nat)+(1:Nat)≤(1:Nat)∧(0:Nat)+(↑z_2.snd.1:Int).toNat<lnJ Y.m∧(∀ (i':Nat),rE true)∧(0:Int)≤(↑z_2.snd.1:Int)∧(↑z_2.snd.1:Int)<(↑(lnJ Y.m):Int)∧(0:Nat)+(↑z_2.snd.1:Int).toNat<lnJ Y.m∧(((-9223372036854775808:Int)≤nIJ Y z_2.1 z_2.snd.1 - if (0:Nat)+(↑z_2.snd.1:Int).toNat=(0:Nat)+(↑z_2.snd.1:Int).toNat then min (ldJ Y z_2.1 z_2.snd.1 z_2.snd.2) (nIJ Y z_2.1 z_2.snd.1) else if (0:Nat)+(↑z_2.snd.1:Int).toNat<z_2.snd.1 then oIJ Y z_2.1 ((0:Nat)+(↑z_2.snd.1:Int).toNat) else (0:Int)) ∧
(nIJ Y z_2.1 z_2.snd.1 - if (0:Nat)+(↑z_2.snd.1:Int).toNat=(0:Nat)+(↑z_2.snd.1:Int).toNat then min (ldJ Y z_2.1 z_2.snd.1 z_2.snd.2) (nIJ Y z_2.1 z_2.snd.1) else if (0:Nat)+(↑z_2.snd.1:Int).toNat<z_2.snd.1 then oIJ Y z_2.1 ((0:Nat)+(↑z_2.snd.1:Int).toNat) else (0:Int))≤(9223372036854775807:Int))∧rI ((↑z_2.snd.1:Int)+(1:Int))∧(pqI2 Y ((↑z_2.fst:Int).toNat,((↑z_2.snd.fst:Int)+(1:Int)).toNat)∧(↑z_2.1:Int).toNat=(↑z:Int).toNat)∧lnJ Y.m - ((↑z_2.snd.1:Int)+(1:Int)).toNat<lnJ Y.m - z_1.2∧rE (0:Nat)∧rE (0:Nat)∧rE (0:Nat)∧dn Y.m z_2.1=dn Y.m (↑z_2.1:Int).toNat∧rE (↑(lnJ Y.m):Int)∧(↑z_2.1:Int)=(↑(↑z_2.1:Int).toNat:Int)∧(nIJ Y z_2.1 z_2.snd.1 - if (0:Nat)+(↑z_2.snd.1:Int).toNat=(0:Nat)+(↑z_2.snd.1:Int).toNat then min (ldJ Y z_2.1 z_2.snd.1 z_2.snd.2) (nIJ Y z_2.1 z_2.snd.1) else if (0:Nat)+(↑z_2.snd.1:Int).toNat<z_2.snd.1 then oIJ Y z_2.1 ((0:Nat)+(↑z_2.snd.1:Int).toNat) else (0:Int))=nIJ Y (↑z_2.1:Int).toNat ((↑z_2.snd.1:Int)+(1:Int)).toNat∧rE (0:Nat)∧rE (lnJ Y.m)∧(↑z_2.snd.1:Int)+(1:Int)=(↑((↑z_2.snd.1:Int)+(1:Int)).toNat:Int)∧rE Y.c.1∧(∀ (i:Nat),i<Y.c.1→rE ((Y.c.f i).sv.den)∧True∧True∧True∧True∧True∧True∧True∧True∧True)∧rE Y.m.1∧(∀ (i:Nat),i<Y.m.1→rE ((Y.m.f i).sv.den)∧True∧True∧True∧True)∧dn Y.m (↑z_2.1:Int).toNat=dn Y.m z_2.1 ∧
(∀ (i:Nat),i<dn Y.m (↑z_2.1:Int).toNat→rE (1:Nat)∧rE (lnJ Y.m)∧(∀ (i_1:Nat),i_1<lnJ Y.m→rE ((i6 (oJ Y i i_1)).den)∧True)∧True)∧rE (lnJ Y.m)∧(∀ (i:Nat),i<lnJ Y.m→rE (1:Nat)∧((if i=(0:Nat)+(↑z_2.snd.1:Int).toNat then min (ldJ Y z_2.1 z_2.snd.1 z_2.snd.2) (nIJ Y z_2.1 z_2.snd.1) else if i<z_2.snd.1 then oIJ Y z_2.1 i else (0:Int))=if i<((↑z_2.snd.1:Int)+(1:Int)).toNat then oIJ Y (↑z_2.1:Int).toNat i else (0:Int))∧True)∧True))∧(¬(↑z_1.2:Int)<(↑(lnJ Y.m):Int)→((0:Int)<nIJ Y z_1.1 z_1.2→(0:Nat)=pqN Y∧(false=true↔pqO Y Y.m.n)∧True)∧(¬(0:Int)<nIJ Y z_1.1 z_1.2→True∧(0:Nat)+(1:Nat)≤(1:Nat)∧(∀ (i:Nat),i<(1:Nat)→rE true)∧rE (0:Nat)∧rE (dn Y.m z_1.1)∧dn Y.m z_1.1+(1:Nat)≤(4611686018427387904:Nat)∧(dn Y.m z_1.1+(1:Nat))*(24:Nat)≤(140737488355328:Nat)∧dn Y.m z_1.1+(1:Nat)≤(4611686018427387904:Nat)∧rI ((↑z_1.1:Int)+(1:Int))∧∃ (z_2:Nat),pqI Y z_2∧Y.m.1 - z_2<Y.m.1 - z∧rE (0:Nat)∧rE (0:Nat)∧rE (0:Nat)∧dn Y.m z_1.1+(1:Nat)=dn Y.m z_2∧rE (↑(lnJ Y.m):Int)∧(↑z_1.1:Int)+(1:Int)=(↑z_2:Int)∧rE Y.c.1∧(∀ (i:Nat),i<Y.c.1→rE ((Y.c.f i).sv.den)∧True∧True∧True∧True∧True∧True∧True∧True∧True)∧rE Y.m.1∧(∀ (i:Nat),i<Y.m.1→rE ((Y.m.f i).sv.den)∧True∧True∧True∧True) ∧
((rowsK (Try.prog.cellsOf (44:Nat)) (dn Y.m z_1.fst+(1:Nat)) (appP (dn Y.m z_1.fst) (1:Nat) (fun d=>SV.lst (1:Nat) (lnJ Y.m) fun k=>i6 (oJ Y d k)) fun i=>chainF [SV.sl (2:Nat) (0:Nat) (lnJ Y.m)] (i+(0:Nat)))).f=appP (dn Y.m z_1.fst) (1:Nat) (fun d=>SV.lst (1:Nat) (lnJ Y.m) fun k=>i6 (oJ Y d k)) fun i=>chainF [SV.sl (2:Nat) (0:Nat) (lnJ Y.m)] (i+(0:Nat)))∧rE (dn Y.m z_1.1+(1:Nat))∧dn Y.m z_1.1+(1:Nat)≤(4611686018427387904:Nat)∧dn Y.m z_2=dn Y.m z_1.1+(1:Nat)∧(∀ (i:Nat),i<dn Y.m z_1.1→rE (1:Nat)∧rE (lnJ Y.m)∧(∀ (i_1:Nat),i_1<lnJ Y.m→rE ((i6 (oJ Y i i_1)).den)∧True)∧True)∧(∀ (i:Nat),i<(1:Nat)→rE (1:Nat)∧rE (lnJ Y.m)∧(0:Nat)+lnJ Y.m≤lnJ Y.m∧(∀ (i_1:Nat),i_1<lnJ Y.m→((ownF Y z_1.fst z_1.snd).f (i_1+(0:Nat))).den=(i6 (oJ Y (dn Y.m z_1.fst+i) i_1)).den∧rE (1:Nat)∧True)∧True)∧True))))∧(¬(↑z:Int)<(↑Y.m.1:Int)→dn Y.m z=pqN Y∧(0:Nat)+pqN Y≤dn Y.m z∧(∀ (i:Nat),i<pqN Y→rE (1:Nat)∧rE (1:Nat)∧rE (lnJ Y.m)∧(∀ (i_1:Nat),i_1<lnJ Y.m→(i6 (oJ Y (i+(0:Nat)) i_1)).den=(i6 (oJ Y i i_1)).den∧True)∧True)∧(rE true↔pqO Y Y.m.n)∧True)):=by kernel_rfl
end Go.Proofs.Ytfiaadlgfjokjaa

set_option maxRecDepth 100000
namespace Go.Proofs.Ytfiaadlgfjokjaa
open Go Go.Lg
attribute [local irreducible] funS bodyH
theorem dn_mn (M:Ms):∀ {i k:Nat},i≤k→dn M i≤dn M k:=by
 intro i k h
 induction k with
 | zero =>
  have:i=0:=by omega
  subst this; exact Nat.le_refl _
 | succ k ih =>
  by_cases e:i=k+1
  ·rw [e]; exact Nat.le_refl _
  ·have:=ih (by omega)
   by_cases hc:(M.f k).co=-1
   ·rw [dn_y hc]; omega
   ·rw [dn_n hc]; omega
theorem at_is {M:Ms} {i:Nat} (h:(M.f i).co=-1):∀ {K:Nat},i<K→atJ M (dn M i) K=i:=by
 intro K
 induction K with
 | zero=>intro h; omega
 | succ k ih =>
  intro hi
  by_cases e:k=i
  ·subst e; simp only [atJ,h,and_self,if_true]
  ·have hn:¬ ((M.f k).co=-1∧dn M k=dn M i):=fun hh=>by
    have:=dn_mn M (i:=i+1) (k:=k) (by omega)
    rw [dn_y h] at this; omega
   simp only [atJ,if_neg hn]
   exact ih (by omega)
theorem oJ_is {Y:Yd} {i:Nat} (h:(Y.m.f i).co=-1) (hi:i<Y.m.n) (k:Nat):oJ Y (dn Y.m i) k=oIJ Y i k:=by
 unfold oJ; rw [at_is h hi]
theorem wk_y {Y:Yd} {i k:Nat} (h:(Y.m.f i).co=-1):wkJ Y (i+1) k=wkJ Y i k+oIJ Y i k:=by simp only [wkJ,if_pos h]; rfl
theorem wk_n {Y:Yd} {i k:Nat} (h:¬ (Y.m.f i).co=-1):wkJ Y (i+1) k=wkJ Y i k:=by simp only [wkJ,if_neg h]
theorem wk_sum (Y:Yd) (k:Nat):∀ {i:Nat},i≤Y.m.n→wkJ Y i k=sumJ (fun d=>oJ Y d k) (dn Y.m i):=by
 intro i
 induction i with
 | zero=>intro _; rfl
 | succ i ih =>
  intro hi
  by_cases h:(Y.m.f i).co=-1
  ·rw [wk_y h,dn_y h,ih (by omega)]
   show _=sumJ _ (dn Y.m i)+oJ Y (dn Y.m i) k
   rw [oJ_is h (by omega)]
  ·rw [wk_n h,dn_n h,ih (by omega)]
theorem nd_bd {L:Nat→Int} {t:Int} {K:Nat} (hL:∀ k,k<K→0≤L k) (ht:0≤t):∀ {k:Nat},k≤K→0≤ndJ L t k∧ndJ L t k≤t:=by
 intro k
 induction k with
 | zero=>intro _; exact ⟨ht,Int.le_refl _⟩
 | succ k ih =>
  intro hk
  have i:=ih (by omega)
  have:=hL k (by omega)
  show 0≤ndJ L t k - min (L k) (ndJ L t k)∧ndJ L t k - min (L k) (ndJ L t k)≤t
  omega
theorem ow_bd {L:Nat→Int} {t:Int} {k:Nat} (hL:∀ q,q<k+1→0≤L q) (ht:0≤t):0≤owJ L t k∧owJ L t k≤L k:=by
 have:=nd_bd hL ht (k:=k) (by omega)
 have:=hL k (by omega)
 unfold owJ; omega
theorem ct_mono {M:Ms} {c o:Int} (h:okMs c M) {k i:Nat} (hk:k<M.n):ctF M o k i≤ctF M o (k+1) i:=by
 rw [co_s]
 have m:=(h.h k hk).t0
 have:0≤coI M o i k:=by unfold coI; split <;> omega
 omega
theorem sum_le {f g:Nat→Int} {m:Nat} (h:∀ i,i<m→f i≤g i):sumJ f m≤sumJ g m:=by
 induction m with
 | zero=>exact Int.le_refl _
 | succ m ih =>
  have:=ih fun i hi=>h i (by omega)
  have:=h m (by omega)
  show sumJ f m+f m≤sumJ g m+g m
  omega
theorem cs_bd {Y:Yd} (hC:okCl Y.c) (h:okMs Y.c.n Y.m) {i k:Nat} (hi:i≤Y.m.n):0≤csJ Y i k∧csJ Y i k≤335544320:=by
 have:=sj_bd (g:=ctF Y.m k i) (B:=33554432) (m:=Y.c.n) fun j hj=>co_bd (i:=j) h hi
 have:=hC.b
 unfold csJ; omega
theorem cs_mono {Y:Yd} (h:okMs Y.c.n Y.m) {i k:Nat} (hi:i<Y.m.n):csJ Y i k≤csJ Y (i+1) k:=sum_le fun j hj=>ct_mono h hi
theorem lfJ_bd {Y:Yd} (hC:okCl Y.c) (h:okMs Y.c.n Y.m):∀ {i:Nat},i≤Y.m.n→∀ k,0≤wkJ Y i k∧0≤lfJ Y i k∧lfJ Y i k≤335544320:=by
 intro i
 induction i with
 | zero=>intro hi k; have:=cs_bd hC h (i:=0) (k:=k) hi; show 0≤(0:Int)∧0≤csJ Y 0 k - 0∧csJ Y 0 k - 0≤_; omega
 | succ i ih =>
  intro hi k
  have j:=ih (by omega)
  have a:=j k
  have b:=cs_mono h (i:=i) (k:=k) (by omega)
  have c:=cs_bd hC h (i:=i+1) (k:=k) hi
  unfold lfJ at *
  by_cases hd:(Y.m.f i).co=-1
  ·have t:=(h.h i (by omega)).t0
   have o:=ow_bd (L:=fun k=>csJ Y i k - wkJ Y i k) (t:=(Y.m.f i).tn) (k:=k) (fun q _=>(j q).2.1) (by omega)
   have e:=wk_y (k:=k) hd
   have e2:oIJ Y i k=owJ (fun k=>csJ Y i k - wkJ Y i k) (Y.m.f i).tn k:=rfl
   rw [e,e2]
   omega
  ·rw [wk_n hd]; omega
end Go.Proofs.Ytfiaadlgfjokjaa

set_option maxRecDepth 100000
namespace Go.Proofs.Ytfiaadlgfjokjaa
open Go Go.Lg
attribute [local irreducible] funS bodyH
theorem tn1 (n:Nat) (f:Nat→Int):(tnOf n fun i=>i6 (f i))=⟨n,f⟩:=rfl
theorem tn2 (n:Nat) (f:Nat→Int):(SV.lst 1 n fun i=>i6 (f i))=(Tn.mk n f).sv:=rfl
theorem ownf (Y:Yd) (i k j:Nat):(ownF Y i k).f j=i6 (if j<k then oIJ Y i j else 0):=rfl
theorem snN (M:Ms):snF M M.n+1=(lnJ M:Int):=by
 have:=sn_bd M M.n
 unfold lnJ; omega
theorem ln_le (M:Ms):lnJ M≤M.n:=by
 have:=sn_bd M M.n
 unfold lnJ; omega
theorem dn_i (M:Ms):∀ i,dn M i≤i:=by
 intro i
 induction i with
 | zero=>exact Nat.le_refl _
 | succ i ih =>
  by_cases h:(M.f i).co=-1
  ·rw [dn_y h]; omega
  ·rw [dn_n h]; omega
theorem at_ex {M:Ms} {d:Nat}:∀ {K:Nat},d<dn M K→∃ j,j<K∧(M.f j).co=-1∧dn M j=d:=by
 intro K
 induction K with
 | zero=>intro h; simp [dn] at h
 | succ K ih =>
  intro h
  by_cases hc:(M.f K).co=-1
  ·rw [dn_y hc] at h
   by_cases e:d=dn M K
   ·exact ⟨K,by omega,hc,e.symm⟩
   ·obtain ⟨j,h1,h2⟩:=ih (by omega)
    exact ⟨j,by omega,h2⟩
  ·rw [dn_n hc] at h
   obtain ⟨j,h1,h2⟩:=ih h
   exact ⟨j,by omega,h2⟩
theorem oI_bd {Y:Yd} (hC:okCl Y.c) (hM:okMs Y.c.n Y.m) {i k:Nat} (hi:i<Y.m.n):0≤oIJ Y i k∧oIJ Y i k≤335544320:=by
 have l:=lfJ_bd hC hM (i:=i) (by omega)
 have t:=(hM.h i hi).t0
 have o:=ow_bd (L:=lfJ Y i) (t:=(Y.m.f i).tn) (k:=k) (fun q _=>(l q).2.1) (by omega)
 have:=(l k).2.2
 unfold oIJ; omega
theorem oJ_bd {Y:Yd} (hC:okCl Y.c) (hM:okMs Y.c.n Y.m) {d k:Nat} (hd:d<dn Y.m Y.m.n):0≤oJ Y d k∧oJ Y d k≤335544320:=by
 obtain ⟨j,h1,h2,rfl⟩:=at_ex hd
 rw [oJ_is h2 h1]
 exact oI_bd hC hM h1
theorem ld_bd {Y:Yd} (hC:okCl Y.c) (hM:okMs Y.c.n Y.m) {i k d:Nat} (hi:i≤Y.m.n) (hd:d≤dn Y.m Y.m.n):-10737418240≤ldJ Y i k d∧ldJ Y i k d≤335544320:=by
 have c:=cs_bd hC hM (i:=i) (k:=k) hi
 have s:=sj_bd (g:=fun d=>oJ Y d k) (B:=335544320) (m:=d) fun j hj=>oJ_bd hC hM (by omega)
 have:=dn_i Y.m Y.m.n
 have:=hM.n
 unfold ldJ; omega
theorem ld_s (Y:Yd) (i k d:Nat):ldJ Y i k (d+1)=ldJ Y i k d - oJ Y d k:=by
 show csJ Y i k - (sumJ (fun d=>oJ Y d k) d+oJ Y d k)=csJ Y i k - sumJ (fun d=>oJ Y d k) d - oJ Y d k
 omega
theorem ld_0 (Y:Yd) (i k:Nat):sumJ (ctF Y.m k i) Y.c.n=ldJ Y i k 0:=by
 show csJ Y i k=csJ Y i k - 0
 omega
theorem ld_e {Y:Yd} {i k:Nat} (hi:i≤Y.m.n):ldJ Y i k (dn Y.m i)=lfJ Y i k:=by
 unfold ldJ lfJ; rw [wk_sum Y k hi]
theorem n_bd {Y:Yd} (hC:okCl Y.c) (hM:okMs Y.c.n Y.m) {i k:Nat} (hi:i<Y.m.n):0≤nIJ Y i k∧nIJ Y i k≤1048576:=by
 have l:=lfJ_bd hC hM (i:=i) (by omega)
 have t:=(hM.h i hi).t0
 have t1:=(hM.h i hi).t1
 have:=nd_bd (L:=lfJ Y i) (t:=(Y.m.f i).tn) (K:=k) (fun q _=>(l q).2.1) (by omega) (k:=k) (Nat.le_refl _)
 unfold nIJ; omega
theorem n_s (Y:Yd) (i k:Nat):nIJ Y i (k+1)=nIJ Y i k - min (lfJ Y i k) (nIJ Y i k):=rfl
theorem oI_is (Y:Yd) (i k:Nat):min (lfJ Y i k) (nIJ Y i k)=oIJ Y i k:=rfl
theorem pq_true {Y:Yd} (hC:okCl Y.c) (hM:okMs Y.c.n Y.m):pqG Y:=by
 rw [pqG_vc]
 have hs:=snN Y.m
 have hl:=ln_le Y.m
 have hn:=hM.n
 have hcn:=hC.b
 simp only [rI,rE,tA,tB,tC,tD,and_true,true_and,Nat.zero_lt_one,and_self,implies_true,Int.toNat_natCast,Classical.not_not,ms_fold,cl_fold,mv_fold,cv_fold,Nat.zero_add,Nat.add_zero,tn1,tn2,hs,hC,hM,ownf,Bool.false_eq_true,false_iff,if_true,true_iff]
 refine ⟨by omega,⟨0,⟨by omega,fun j hj=>by omega⟩,rfl,rfl,rfl⟩,fun z hz=>⟨fun hl1=>⟨by omega,by omega,fun hd=>⟨by omega,z+1,⟨by omega,fun j hj hj2=>?_⟩,by omega,(dn_n hd).symm,by omega,dn_n hd⟩,fun hd=>⟨by omega,by omega,by omega,by omega,by omega,by omega,⟨⟨by omega,hd,hz.o,by omega⟩,rfl,rfl,fun i hi=>?_⟩,?_⟩⟩,fun hl1=>?_⟩⟩
 ·by_cases e:j=z
  ·subst e; exact absurd hj2 hd
  ·exact hz.o j (by omega) hj2
 ·rw [if_neg (Nat.not_lt_zero i)]
 ·rintro ⟨i,k⟩ ⟨h2,rfl⟩
  have hi:=h2.a
  dsimp only at hi hz hd hl1
  refine ⟨fun hk=>⟨by omega,⟨by omega,fun c hc=>?_⟩,⟨⟨hi,hd,h2.o,by show k<lnJ Y.m; dsimp only at hk; omega,Nat.zero_le _⟩,ld_0 Y i k,rfl⟩,?_⟩,fun hk=>⟨fun hp=>?_,fun hp=>?_⟩⟩
  ·have:=co_bd (o:=k) (i:=c) hM (k:=i) (by omega)
   dsimp only
   omega
  ·rintro ⟨i2,k2,d⟩ ⟨h4,e⟩
   have ha:=h4.a
   have hk4:=h4.k
   have hj4:=h4.j
   dsimp only at ha hk4 hj4 e hk
   have hle:=dn_i Y.m i2
   obtain ⟨rfl,rfl⟩:i2=i∧k2=k:=by omega
   dsimp only
   have hdn:=dn_mn Y.m (i:=i2) (k:=Y.m.n) (by omega)
   have b1:=ld_bd hC hM (i:=i2) (k:=k2) (d:=d) (by omega) (by omega)
   have b2:=n_bd hC hM (i:=i2) (k:=k2) (by omega)
   refine ⟨fun hdl=>?_,fun hdl=>?_⟩
   ·have b3:=oJ_bd hC hM (d:=d) (k:=k2) (by omega)
    have e1:((d:Int)+1).toNat=d+1:=by omega
    rw [e1,ld_s]
    exact ⟨by omega,by omega,by omega,by omega,by omega,by omega,by omega,⟨⟨ha,hd,h2.o,hk4,by show d+1≤dn Y.m i2; omega⟩,rfl⟩,by omega,rfl,by omega⟩
   ·have ed:d=dn Y.m i2:=by omega
    subst ed
    have e1:((k2:Int)+1).toNat=k2+1:=by omega
    rw [ld_e (by omega),oI_is,e1,n_s,oI_is]
    have b4:=oI_bd hC hM (i:=i2) (k:=k2) (by omega)
    refine ⟨by omega,by omega,by omega,by omega,by omega,by omega,by omega,by omega,by omega,⟨⟨ha,hd,h2.o,by show k2+1≤_; omega⟩,rfl⟩,by omega,rfl,by omega,fun j hj=>?_⟩
    by_cases hj1:j=k2
    ·subst hj1; rw [if_pos rfl,if_pos (by omega)]
    ·rw [if_neg hj1]
     by_cases hj2:j<k2
     ·rw [if_pos hj2,if_pos (by omega)]
     ·rw [if_neg hj2,if_neg (by omega)]
  ·have ek:k=lnJ Y.m:=by have:=h2.k; dsimp only at this hk; omega
   subst ek
   have hno:¬ pqO Y Y.m.n:=fun h=>by have:=h i hi hd; dsimp only at hp; omega
   exact ⟨by unfold pqN; rw [if_neg hno],hno⟩
  ·have ek:k=lnJ Y.m:=by have:=h2.k; dsimp only at this hk; omega
   subst ek
   have hdi:=dn_i Y.m i
   dsimp only at hp ⊢
   refine ⟨by omega,by omega,by omega,by omega,by omega,i+1,⟨by omega,fun j hj hj2=>?_⟩,by omega,(dn_y hd).symm,by omega,rfl,by omega,dn_y hd,fun q hq=>⟨by omega,fun j hj=>?_⟩⟩
   ·by_cases e:j=i
    ·subst e; omega
    ·exact h2.o j (by omega) hj2
   ·have:q=0:=by omega
    subst this
    rw [if_pos hj,Nat.add_zero,oJ_is hd hi]
 ·have ez:z=Y.m.n:=by have:=hz.a; omega
  subst ez
  have e:pqN Y=dn Y.m Y.m.n:=by unfold pqN; rw [if_pos hz.o]
  exact ⟨e.symm,by omega,hz.o⟩
end Go.Proofs.Ytfiaadlgfjokjaa

namespace Go.Proofs.Ytfiaadlgfjokjaa
open Go Go.Lg
attribute [local irreducible] bodyH funS
noncomputable def smG (T:Tn):Prop:=funH Try.prog (ctrs []) noX (ictrs [])
 (oneL 0 (natH (fun k=>k≤T.n) (fun k=>T.n - k) 0 (fun k=>mkF 18 [(0,T.sv),(3,i6 (sumJ T.f k)),(4,i6 k)]) (fun _=>mkX []) fun _=>none)) noL 38 [T.sv] (i6 (sumJ T.f T.n))
noncomputable def l7G (Y:Yd):Prop:=funH Try.prog (ctrs [lrC]) noX (ictrs []) noL noL 37 [Y.sv] (i6 (snF Y.m Y.m.n+1))
noncomputable def c8G (Y:Yd) (o:Int) (b:Nat):Prop:=funN Try.prog (ctrs [lrC]) noX (ictrs [])
 (oneL 0 (natH (fun k=>k≤b) (fun k=>b - k) 2 (fun k=>mkF 47 [(1,i6 o),(2,i6 b),(3,.ptr 0 0 0),(7,.sl 1 0 Y.c.n),(8,i6 k)]) (fun k=>mkX [vr 2 Y.sv,rw' 1 Y.c.n fun i=>i6 (ctF Y.m o k i)]) fun _=>none)) noL 28 [Y.sv,i6 o,i6 b] (.lst 1 Y.c.n fun i=>i6 (ctF Y.m o b i))
noncomputable def pqC:Ctr:=⟨24,fun args k=>match args with
 | [.agg [.lst 8 n f,.lst 3 m g]]=>SV.lst 8 n f=(clOf n f).sv∧SV.lst 3 m g=(msOf m g).sv∧(okCl (clOf n f)∧okMs n (msOf m g))∧k (pqR ⟨clOf n f,msOf m g⟩)
 | _=>False⟩
noncomputable def spC:Ctr:=⟨49,fun args k=>match args with
 | [.agg [.int .i64 a,.int .i64 b]]=>k (.dec (okSp a b) (Classical.propDecidable _))
 | _=>False⟩
noncomputable def spG (a b:Int):Prop:=funH Try.prog (ctrs []) noX (ictrs []) noL noL 49 [.agg [i6 a,i6 b]] (.dec (okSp a b) (Classical.propDecidable _))
noncomputable def inC:Ctr:=⟨34,fun args k=>match args with
 | [.int .i64 n,.int .i64 a,.int .i64 b]=>k (.dec (a≤n∧n≤b) inferInstance)
 | _=>False⟩
noncomputable def inG (n a b:Int):Prop:=funH Try.prog (ctrs []) noX (ictrs []) noL noL 34 [i6 n,i6 a,i6 b] (.dec (a≤n∧n≤b) inferInstance)
structure ydI0 (Y:Yd) (k:Nat):Prop where
 a:k≤Y.c.n
 h:∀ i,i<k→okCo (Y.c.f i)
structure ydI1 (Y:Yd) (k:Nat):Prop where
 c:∀ i,i<Y.c.n→okCo (Y.c.f i)
 a:k≤Y.m.n
 h:∀ i,i<k→okMv Y.c.n Y.m i
noncomputable def ydC:Ctr:=⟨23,fun args k=>match args with
 | [.agg [.lst 8 n f,.lst 3 m g]]=>SV.lst 8 n f=(clOf n f).sv∧SV.lst 3 m g=(msOf m g).sv∧(n≤1000∧m≤1000)∧k (.dec (okCl (clOf n f)∧okMs n (msOf m g)) (Classical.propDecidable _))
 | _=>False⟩
noncomputable def ydG (Y:Yd):Prop:=funH Try.prog (ctrs [spC,inC]) noX (ictrs [])
 (twoL 0 (natH (ydI0 Y) (fun k=>Y.c.n - k) 1 (fun k=>mkF 99 [(1,.ptr 0 0 0),(3,i6 k)]) (fun _=>mkX [vr 2 Y.sv]) fun _=>none) <|
 oneL 2 (natH (ydI1 Y) (fun k=>Y.m.n - k) 1 (fun k=>mkF 99 [(1,.ptr 0 0 0),(5,i6 k)]) (fun _=>mkX [vr 2 Y.sv]) fun _=>none)) noL 23 [Y.sv] (.dec (okCl Y.c∧okMs Y.c.n Y.m) (Classical.propDecidable _))
open Classical in
noncomputable def stE (Y:Yd):Int:=if okCl Y.c∧okMs Y.c.n Y.m then (if pqO Y Y.m.n then 0 else 10) else 1
noncomputable def stN (Y:Yd):Nat:=if stE Y=0 then dn Y.m Y.m.n else 0
noncomputable def stR (Y:Yd):SV:=.tup [ooL Y (stN Y),i6 (stE Y)]
noncomputable def stG (Y:Yd):Prop:=funH Try.prog (ctrsF [pqC] (ctrs [ydC])) noX (ictrs []) noL noL 33 [Y.sv] (stR Y)
noncomputable def stC:Ctr:=⟨33,fun args k=>match args with
 | [.agg [.lst 8 n f,.lst 3 m g]]=>SV.lst 8 n f=(clOf n f).sv∧SV.lst 3 m g=(msOf m g).sv∧(n≤1000∧m≤1000)∧k (stR ⟨clOf n f,msOf m g⟩)
 | _=>False⟩
end Go.Proofs.Ytfiaadlgfjokjaa

set_option maxRecDepth 100000
namespace Go.Proofs.Ytfiaadlgfjokjaa
open Go Go.Lg
theorem smG_vc (T:Tn):smG T=((∃ (z:Nat),z≤T.1∧T.1=T.1∧(∀ (i:Nat),i<T.1→(i6 (T.f i)).den=(i6 (T.f i)).den∧True)∧(0:Int)=sumJ T.f z∧(0:Int)=(↑z:Int)∧True)∧∀ (z:Nat),z≤T.1→((↑z:Int)<(↑T.1:Int)→(0:Int)≤(↑z:Int)∧(↑z:Int)<(↑T.1:Int)∧((-9223372036854775808:Int)≤sumJ T.f z+T.2 (↑z:Int).toNat∧sumJ T.f z+T.2 (↑z:Int).toNat≤(9223372036854775807:Int))∧((-9223372036854775808:Int)≤(↑z:Int)+(1:Int)∧(↑z:Int)+(1:Int)≤(9223372036854775807:Int))∧∃ (z_1:Nat),z_1≤T.1∧T.1 - z_1<T.1 - z∧T.1=T.1∧(∀ (i:Nat),i<T.1→(i6 (T.f i)).den=(i6 (T.f i)).den∧True)∧sumJ T.f z+T.2 (↑z:Int).toNat=sumJ T.f z_1∧(↑z:Int)+(1:Int)=(↑z_1:Int)∧True)∧(¬(↑z:Int)<(↑T.1:Int)→sumJ T.f z=sumJ T.f T.1∧True)):=by kernel_rfl
theorem l7G_vc (Y:Yd):l7G Y=((0:Nat)<(1:Nat)∧((↑Y.m.1:Int)=(0:Int)→(0:Int)=snF Y.m Y.m.1+(1:Int)∧True)∧(¬(↑Y.m.1:Int)=(0:Int)→(0:Nat)<(1:Nat)∧(0:Nat)<(1:Nat)∧rI ((↑Y.m.1:Int) - (1:Int))∧tA Y∧tB Y∧tC Y∧tD Y∧((0:Int)≤(↑Y.m.1:Int) - (1:Int)∧(↑Y.m.1:Int) - (1:Int)<(↑Y.m.1:Int)∧Y.m.1≤(1000:Nat))∧rI ((1:Int)+snF Y.m ((↑Y.m.1:Int) - (1:Int)+(1:Int)).toNat)∧(1:Int)+snF Y.m ((↑Y.m.1:Int) - (1:Int)+(1:Int)).toNat=snF Y.m Y.m.1+(1:Int)∧True)):=by kernel_rfl
theorem c8G_vc (Y:Yd) (o:Int) (b:Nat):c8G Y o b=((0:Nat)<(1:Nat)∧(0:Int)≤(↑Y.c.1:Int)∧(↑Y.c.1:Int)≤(↑Y.c.1:Int)∧(↑Y.c.1:Int)≤(1048576:Int)∧(↑Y.c.1:Int)*(↑(8:Nat):Int)≤(140737488355328:Int)∧(∃ (z:Nat),z≤b∧o=o∧rE (↑b:Int)∧rE (0:Nat)∧rE (0:Nat)∧rE (0:Nat)∧(↑Y.c.1:Int).toNat=Y.c.1∧(0:Int)=(↑z:Int)∧rE Y.c.1∧(∀ (i:Nat),i<Y.c.1→rE ((Y.c.f i).sv.den)∧True∧True∧True∧True∧True∧True∧True∧True∧True)∧rE Y.m.1∧(∀ (i:Nat),i<Y.m.1→rE ((Y.m.f i).sv.den)∧True∧True∧True∧True)∧Y.c.1=(↑Y.c.1:Int).toNat∧(∀ (i:Nat),i<Y.c.1→rE (1:Nat)∧(0:Int)=ctF Y.m o z i∧True)∧True)∧∀ (z:Nat),z≤b→((↑z:Int)<(↑b:Int)→(0:Nat)<(1:Nat)∧(0:Int)≤(↑z:Int)∧(↑z:Int)<(↑Y.m.1:Int)∧(0:Nat)<(1:Nat)∧(¬(Y.m.f (↑z:Int).toNat).2=(-1:Int)→(0:Nat)<(1:Nat)∧tA Y∧tB Y∧tC Y∧tD Y∧((0:Int)≤(↑z:Int)∧(↑z:Int)<(↑Y.m.1:Int)∧Y.m.1≤(1000:Nat))∧(snF Y.m ((↑z:Int)+(1:Int)).toNat=o→(0:Nat)<(1:Nat)∧(0:Nat)<(1:Nat)∧(0:Int)≤(Y.m.f (↑z:Int).toNat).2∧(Y.m.f (↑z:Int).toNat).2<(↑Y.c.1:Int)∧(0:Nat)+(Y.m.f (↑z:Int).toNat).2.toNat<Y.c.1∧(0:Nat)<(1:Nat)∧rI (ctF Y.m o z ((0:Nat)+(Y.m.f (↑z:Int).toNat).2.toNat)+(Y.m.f (↑z:Int).toNat).3)∧(0:Int)≤(Y.m.f (↑z:Int).toNat).2∧(Y.m.f (↑z:Int).toNat).2<(↑Y.c.1:Int) ∧
(0:Nat)+(1:Nat)≤(1:Nat)∧(0:Nat)+(Y.m.f (↑z:Int).toNat).2.toNat<Y.c.1∧(∀ (i':Nat),rE true)∧rI ((↑z:Int)+(1:Int))∧∃ (z_1:Nat),z_1≤b∧b - z_1<b - z∧o=o∧rE (↑b:Int)∧rE (0:Nat)∧rE (0:Nat)∧rE (0:Nat)∧rE Y.c.1∧(↑z:Int)+(1:Int)=(↑z_1:Int)∧rE Y.c.1∧(∀ (i:Nat),i<Y.c.1→rE ((Y.c.f i).sv.den)∧True∧True∧True∧True∧True∧True∧True∧True∧True)∧rE Y.m.1∧(∀ (i:Nat),i<Y.m.1→rE ((Y.m.f i).sv.den)∧True∧True∧True∧True)∧rE Y.c.1∧(∀ (i:Nat),i<Y.c.1→rE (1:Nat)∧(if i=(0:Nat)+(Y.m.f (↑z:Int).toNat).2.toNat then ctF Y.m o z ((0:Nat)+(Y.m.f (↑z:Int).toNat).2.toNat)+(Y.m.f (↑z:Int).toNat).3 else ctF Y.m o z i)=ctF Y.m o z_1 i∧True)∧True)∧(¬snF Y.m ((↑z:Int)+(1:Int)).toNat=o→rI ((↑z:Int)+(1:Int))∧∃ (z_1:Nat),z_1≤b∧b - z_1<b - z∧o=o∧rE (↑b:Int)∧rE (0:Nat)∧rE (0:Nat)∧rE (0:Nat)∧rE Y.c.1∧(↑z:Int)+(1:Int)=(↑z_1:Int)∧rE Y.c.1∧(∀ (i:Nat),i<Y.c.1→rE ((Y.c.f i).sv.den)∧True∧True∧True∧True∧True∧True∧True∧True∧True)∧rE Y.m.1∧(∀ (i:Nat),i<Y.m.1→rE ((Y.m.f i).sv.den)∧True∧True∧True∧True)∧rE Y.c.1∧(∀ (i:Nat),i<Y.c.1→rE (1:Nat)∧ctF Y.m o z i=ctF Y.m o z_1 i∧True)∧True))∧(¬¬(Y.m.f (↑z:Int).toNat).2=(-1:Int)→rI ((↑z:Int)+(1:Int))∧∃ (z_1:Nat),z_1≤b∧b - z_1<b - z∧o=o∧rE (↑b:Int)∧rE (0:Nat) ∧
rE (0:Nat)∧rE (0:Nat)∧rE Y.c.1∧(↑z:Int)+(1:Int)=(↑z_1:Int)∧rE Y.c.1∧(∀ (i:Nat),i<Y.c.1→rE ((Y.c.f i).sv.den)∧True∧True∧True∧True∧True∧True∧True∧True∧True)∧rE Y.m.1∧(∀ (i:Nat),i<Y.m.1→rE ((Y.m.f i).sv.den)∧True∧True∧True∧True)∧rE Y.c.1∧(∀ (i:Nat),i<Y.c.1→rE (1:Nat)∧ctF Y.m o z i=ctF Y.m o z_1 i∧True)∧True))∧(¬(↑z:Int)<(↑b:Int)→rE Y.c.1∧(0:Nat)+Y.c.1≤Y.c.1∧(∀ (i:Nat),i<Y.c.1→rE (1:Nat)∧rE (1:Nat)∧ctF Y.m o z (i+(0:Nat))=ctF Y.m o b i∧True)∧True)):=by kernel_rfl
theorem spG_vc (a:Int) (b:Int):spG a b=((0:Nat)<(1:Nat)∧((0:Int)≤a→(0:Nat)<(1:Nat)∧(0:Nat)<(1:Nat)∧(a≤b→(0:Nat)<(1:Nat)∧(b≤(100000:Int)↔okSp a b)∧True)∧(¬a≤b→(false=true↔okSp a b)∧True))∧(¬(0:Int)≤a→(false=true↔okSp a b)∧True)):=by kernel_rfl
theorem inG_vc (n:Int) (a:Int) (b:Int):inG n a b=((a≤n→(n≤b↔a≤n∧n≤b)∧True)∧(¬a≤n→(false=true↔a≤n∧n≤b)∧True)):=by kernel_rfl
end Go.Proofs.Ytfiaadlgfjokjaa

set_option maxRecDepth 100000
namespace Go.Proofs.Ytfiaadlgfjokjaa
open Go Go.Lg
theorem ydG_vc (Y:Yd):ydG Y=((∃ (z:Nat),ydI0 Y z∧rE (0:Nat)∧rE (0:Nat)∧(0:Int)=(↑z:Int)∧rE Y.c.1∧(∀ (i:Nat),i<Y.c.1→rE ((Y.c.f i).sv.den)∧True∧True∧True∧True∧True∧True∧True∧True∧True)∧rE Y.m.1∧(∀ (i:Nat),i<Y.m.1→rE ((Y.m.f i).sv.den)∧True∧True∧True∧True)∧True)∧∀ (z:Nat),ydI0 Y z→(0:Nat)<(1:Nat)∧((↑z:Int)<(↑Y.c.1:Int)→(0:Nat)<(1:Nat)∧(0:Int)≤(↑z:Int)∧(↑z:Int)<(↑Y.c.1:Int)∧(0:Nat)<(1:Nat)∧(¬okSp (Y.c.f (↑z:Int).toNat).g0 (Y.c.f (↑z:Int).toNat).g1→(false=true↔okCl Y.c∧okMs (↑Y.c.n:Int) Y.m)∧True)∧(¬¬okSp (Y.c.f (↑z:Int).toNat).g0 (Y.c.f (↑z:Int).toNat).g1→(0:Nat)<(1:Nat)∧(¬okSp (Y.c.f (↑z:Int).toNat).t0 (Y.c.f (↑z:Int).toNat).t1→(false=true↔okCl Y.c∧okMs (↑Y.c.n:Int) Y.m)∧True)∧(¬¬okSp (Y.c.f (↑z:Int).toNat).t0 (Y.c.f (↑z:Int).toNat).t1→(0:Nat)<(1:Nat)∧(¬okSp (Y.c.f (↑z:Int).toNat).s0 (Y.c.f (↑z:Int).toNat).s1→(false=true↔okCl Y.c∧okMs (↑Y.c.n:Int) Y.m)∧True)∧(¬¬okSp (Y.c.f (↑z:Int).toNat).s0 (Y.c.f (↑z:Int).toNat).s1→(0:Nat)<(1:Nat)∧(¬okSp (Y.c.f (↑z:Int).toNat).k0 (Y.c.f (↑z:Int).toNat).k1→(false=true↔okCl Y.c∧okMs (↑Y.c.n:Int) Y.m)∧True)∧(¬¬okSp (Y.c.f (↑z:Int).toNat).k0 (Y.c.f (↑z:Int).toNat).k1→rI ((↑z:Int)+(1:Int))∧∃ (z_1:Nat),ydI0 Y z_1∧Y.c.1 - z_1<Y.c.1 - z∧rE (0:Nat)∧rE (0:Nat) ∧
(↑z:Int)+(1:Int)=(↑z_1:Int)∧rE Y.c.1∧(∀ (i:Nat),i<Y.c.1→rE ((Y.c.f i).sv.den)∧True∧True∧True∧True∧True∧True∧True∧True∧True)∧rE Y.m.1∧(∀ (i:Nat),i<Y.m.1→rE ((Y.m.f i).sv.den)∧True∧True∧True∧True)∧True)))))∧(¬(↑z:Int)<(↑Y.c.1:Int)→(∃ (z:Nat),ydI1 Y z∧rE (0:Nat)∧rE (0:Nat)∧(0:Int)=(↑z:Int)∧rE Y.c.1∧(∀ (i:Nat),i<Y.c.1→rE ((Y.c.f i).sv.den)∧True∧True∧True∧True∧True∧True∧True∧True∧True)∧rE Y.m.1∧(∀ (i:Nat),i<Y.m.1→rE ((Y.m.f i).sv.den)∧True∧True∧True∧True)∧True)∧∀ (z:Nat),ydI1 Y z→(0:Nat)<(1:Nat)∧((↑z:Int)<(↑Y.m.1:Int)→(0:Nat)<(1:Nat)∧(0:Int)≤(↑z:Int)∧(↑z:Int)<(↑Y.m.1:Int)∧(0:Nat)<(1:Nat)∧(¬((0:Int)≤(Y.m.f (↑z:Int).toNat).1∧(Y.m.f (↑z:Int).toNat).1≤(1048576:Int))→(false=true↔okCl Y.c∧okMs (↑Y.c.n:Int) Y.m)∧True)∧(¬¬((0:Int)≤(Y.m.f (↑z:Int).toNat).1∧(Y.m.f (↑z:Int).toNat).1≤(1048576:Int))→((0:Int)<(↑z:Int)→(0:Nat)<(1:Nat)∧(0:Nat)<(1:Nat)∧rI ((↑z:Int) - (1:Int))∧(0:Int)≤(↑z:Int) - (1:Int)∧(↑z:Int) - (1:Int)<(↑Y.m.1:Int)∧((Y.m.f (↑z:Int).toNat).1<(Y.m.f ((↑z:Int) - (1:Int)).toNat).1→(false=true↔okCl Y.c∧okMs (↑Y.c.n:Int) Y.m)∧True)∧(¬(Y.m.f (↑z:Int).toNat).1<(Y.m.f ((↑z:Int) - (1:Int)).toNat).1→(0:Nat)<(1:Nat)∧(0:Nat)<(1:Nat) ∧
rI ((↑Y.c.1:Int) - (1:Int))∧(¬((-1:Int)≤(Y.m.f (↑z:Int).toNat).2∧(Y.m.f (↑z:Int).toNat).2≤(↑Y.c.1:Int) - (1:Int))→(false=true↔okCl Y.c∧okMs (↑Y.c.n:Int) Y.m)∧True)∧(¬¬((-1:Int)≤(Y.m.f (↑z:Int).toNat).2∧(Y.m.f (↑z:Int).toNat).2≤(↑Y.c.1:Int) - (1:Int))→(0:Nat)<(1:Nat)∧(¬((1:Int)≤(Y.m.f (↑z:Int).toNat).3∧(Y.m.f (↑z:Int).toNat).3≤(1048576:Int))→(false=true↔okCl Y.c∧okMs (↑Y.c.n:Int) Y.m)∧True)∧(¬¬((1:Int)≤(Y.m.f (↑z:Int).toNat).3∧(Y.m.f (↑z:Int).toNat).3≤(1048576:Int))→rI ((↑z:Int)+(1:Int))∧∃ (z_1:Nat),ydI1 Y z_1∧Y.m.1 - z_1<Y.m.1 - z∧rE (0:Nat)∧rE (0:Nat)∧(↑z:Int)+(1:Int)=(↑z_1:Int)∧rE Y.c.1∧(∀ (i:Nat),i<Y.c.1→rE ((Y.c.f i).sv.den)∧True∧True∧True∧True∧True∧True∧True∧True∧True)∧rE Y.m.1∧(∀ (i:Nat),i<Y.m.1→rE ((Y.m.f i).sv.den)∧True∧True∧True∧True)∧True))))∧(¬(0:Int)<(↑z:Int)→(0:Nat)<(1:Nat)∧(0:Nat)<(1:Nat)∧rI ((↑Y.c.1:Int) - (1:Int))∧(¬((-1:Int)≤(Y.m.f (↑z:Int).toNat).2∧(Y.m.f (↑z:Int).toNat).2≤(↑Y.c.1:Int) - (1:Int))→(false=true↔okCl Y.c∧okMs (↑Y.c.n:Int) Y.m)∧True)∧(¬¬((-1:Int)≤(Y.m.f (↑z:Int).toNat).2∧(Y.m.f (↑z:Int).toNat).2≤(↑Y.c.1:Int) - (1:Int))→(0:Nat)<(1:Nat)∧(¬((1:Int)≤(Y.m.f (↑z:Int).toNat).3∧(Y.m.f (↑z:Int).toNat).3≤(1048576:Int))→(false=true↔okCl Y.c ∧
okMs (↑Y.c.n:Int) Y.m)∧True)∧(¬¬((1:Int)≤(Y.m.f (↑z:Int).toNat).3∧(Y.m.f (↑z:Int).toNat).3≤(1048576:Int))→rI ((↑z:Int)+(1:Int))∧∃ (z_1:Nat),ydI1 Y z_1∧Y.m.1 - z_1<Y.m.1 - z∧rE (0:Nat)∧rE (0:Nat)∧(↑z:Int)+(1:Int)=(↑z_1:Int)∧rE Y.c.1∧(∀ (i:Nat),i<Y.c.1→rE ((Y.c.f i).sv.den)∧True∧True∧True∧True∧True∧True∧True∧True∧True)∧rE Y.m.1∧(∀ (i:Nat),i<Y.m.1→rE ((Y.m.f i).sv.den)∧True∧True∧True∧True)∧True)))))∧(¬(↑z:Int)<(↑Y.m.1:Int)→(0:Nat)<(1:Nat)∧((1:Int)≤(↑Y.c.1:Int)∧(↑Y.c.1:Int)≤(6:Int)→(0:Nat)<(1:Nat)∧((↑Y.m.1:Int)≤(32:Int)↔okCl Y.c∧okMs (↑Y.c.n:Int) Y.m)∧True)∧(¬((1:Int)≤(↑Y.c.1:Int)∧(↑Y.c.1:Int)≤(6:Int))→(false=true↔okCl Y.c∧okMs (↑Y.c.n:Int) Y.m)∧True)))):=by kernel_rfl
theorem stG_vc (Y:Yd):stG Y=((0:Nat)<(1:Nat)∧tA Y∧tB Y∧tC Y∧tD Y∧(Y.c.1≤(1000:Nat)∧Y.m.1≤(1000:Nat))∧(¬(okCl Y.c∧okMs (↑Y.c.n:Int) Y.m)→(0:Nat)=stN Y∧(1:Int)=stE Y∧True)∧(¬¬(okCl Y.c∧okMs (↑Y.c.n:Int) Y.m)→(0:Nat)<(1:Nat)∧tA Y∧tB Y∧tC Y∧tD Y∧(okCl Y.c∧okMs (↑Y.c.n:Int) Y.m)∧(¬pqO Y Y.m.n→(0:Nat)=stN Y∧(10:Int)=stE Y∧True)∧(¬¬pqO Y Y.m.n→pqN Y=stN Y∧(∀ (i:Nat),i<stN Y→(SV.lst (1:Nat) (lnJ Y.m) fun k=>i6 (oJ Y i k)).den=(SV.lst (1:Nat) (lnJ Y.m) fun k=>i6 (oJ Y i k)).den∧∀ (i:Nat),i<lnJ Y.m→True)∧(0:Int)=stE Y∧True))):=by kernel_rfl
end Go.Proofs.Ytfiaadlgfjokjaa

set_option maxRecDepth 100000
namespace Go.Proofs.Ytfiaadlgfjokjaa
open Go Go.Lg
attribute [local irreducible] funS bodyH bodyZ
theorem sm_true {T:Tn} (h:T.n≤1000∧∀ i,i<T.n→-1099511627776≤T.f i∧T.f i≤1099511627776):smG T:=by
 rw [smG_vc]
 have hb:∀ z,z≤T.n→-1099511627776*(z:Int)≤sumJ T.f z∧sumJ T.f z≤1099511627776*(z:Int):=by
  intro z
  induction z with
  | zero=>intro _; simp [sumJ]
  | succ z ih =>
   intro hz
   have:=ih (by omega)
   have:=h.2 z (by omega)
   show _≤sumJ T.f z+T.f z∧sumJ T.f z+T.f z≤_
   omega
 simp only [and_true,true_and,implies_true,Int.toNat_natCast]
 refine ⟨⟨0,by omega,rfl,rfl⟩,fun z hz=>⟨fun hl=>?_,fun hl=>?_⟩⟩
 ·have b:=hb z hz
  have c:=h.2 z (by omega)
  have hn:=h.1
  exact ⟨by omega,by omega,by omega,by omega,z+1,by omega,by omega,rfl,by omega⟩
 ·have:z=T.n:=by omega
  rw [this]
theorem sm_ok:smC.Ok Try.prog:=by
 refine ⟨by kernel_rfl,fun x k hk=>?_⟩
 simp only [smC] at hk
 split at hk
 ·rename_i n f
  obtain ⟨h1,h2,hk⟩:=hk
  have hh:=sm_true (T:=tnOf n f) h2
  unfold smG at hh
  rw [← h1] at hh
  exact ⟨_,plainD nilS_cs nilS_x nilS_ic hh trivial,hk⟩
 ·exact hk.elim
theorem l7_true {Y:Yd} (h:Y.m.n≤1000):l7G Y:=by
 rw [l7G_vc]
 have b:=sn_bd Y.m Y.m.n
 simp only [rI,rE,tA,tB,tC,tD,and_true,true_and,Nat.zero_lt_one,and_self,implies_true,ms_fold,cl_fold,mv_fold,cv_fold]
 refine ⟨fun h0=>?_,fun h0=>?_⟩
 ·have e:Y.m.n=0:=by omega
  rw [e]; simp [snF,sumJ]
 ·have e1:((Y.m.n:Int) - 1+1).toNat=Y.m.n:=by omega
  rw [e1]
  exact ⟨by omega,⟨by omega,by omega,h⟩,by omega,by omega⟩
theorem l7_ok:l7C.Ok Try.prog:=by
 refine ⟨by kernel_rfl,fun x k hk=>?_⟩
 simp only [l7C] at hk
 split at hk
 ·rename_i n f m g
  obtain ⟨h1,h2,h3,hk⟩:=hk
  have hh:=l7_true (Y:=⟨clOf n f,msOf m g⟩) h3
  unfold l7G at hh
  simp only [Yd.sv] at hh
  rw [← h1,← h2] at hh
  exact ⟨_,plainD (one_cs lr_ok) nilS_x nilS_ic hh trivial,hk⟩
 ·exact hk.elim
theorem c8_true {Y:Yd} {o:Int} {b:Nat} (hb:b≤Y.m.n) (hC:okCl Y.c) (hM:okMs Y.c.n Y.m):c8G Y o b:=by
 have hcn:=hC.b
 have hmn:=hM.n
 rw [c8G_vc]
 simp only [rI,rE,tA,tB,tC,tD,and_true,true_and,Nat.zero_lt_one,and_self,implies_true,Int.toNat_natCast,Classical.not_not,ms_fold,cl_fold,mv_fold,cv_fold,Nat.zero_add,Nat.add_zero]
 refine ⟨by omega,by omega,by omega,by omega,⟨0,by omega,rfl,fun i hi=>rfl⟩,fun z hz=>⟨fun hl=>?_,fun hl=>?_⟩⟩
 ·have m:=hM.h z (by omega)
  have t0:=m.t0
  have t1:=m.t1
  have c0:=m.c0
  have c1:=m.c1
  have e1:((z:Int)+1).toNat=z+1:=by omega
  rw [e1]
  refine ⟨by omega,by omega,fun hd=>⟨⟨by omega,by omega,by omega⟩,fun ho=>?_,fun ho=>?_⟩,fun hd=>?_⟩
  ·have b:=co_bd hM (o:=o) (k:=z) (i:=(Y.m.f z).co.toNat) (by omega)
   refine ⟨by omega,by omega,by omega,by omega,by omega,by omega,by omega,by omega,by omega,z+1,by omega,by omega,by omega,fun i hi=>?_⟩
   rw [co_s]
   unfold coI
   by_cases e:i=(Y.m.f z).co.toNat
   ·rw [if_pos e,if_pos ⟨by omega,ho⟩,← e]
   ·rw [if_neg e,if_neg (fun x=>e (by omega))]; omega
  ·refine ⟨by omega,z+1,by omega,by omega,by omega,fun i hi=>?_⟩
   rw [co_s]
   unfold coI
   rw [if_neg fun x=>ho x.2]; omega
  ·refine ⟨by omega,z+1,by omega,by omega,by omega,fun i hi=>?_⟩
   rw [co_s]
   unfold coI
   rw [if_neg fun x=>by omega]; omega
 ·have:z=b:=by omega
  subst this
  exact ⟨Nat.le_refl _,fun i hi=>rfl⟩
theorem c8_ok:c8C.Ok Try.prog:=by
 refine ⟨by kernel_rfl,fun x k hk=>?_⟩
 simp only [c8C] at hk
 split at hk
 ·rename_i n f m g o b
  obtain ⟨h1,h2,⟨h3,h4,h5,h6⟩,hk⟩:=hk
  obtain ⟨q,rfl⟩:=Int.eq_ofNat_of_zero_le h3
  have hh:=c8_true (Y:=⟨clOf n f,msOf m g⟩) (o:=o) (b:=q) (by show q≤m; omega) h5 h6
  unfold c8G at hh
  simp only [Yd.sv] at hh
  rw [← h1,← h2] at hh
  have hh:funN Try.prog (ctrs [lrC]) noX (ictrs []) _ noL 28 [.agg [.lst 8 n f,.lst 3 m g],i6 o,i6 q] _:=hh
  exact ⟨_,newD (one_cs lr_ok) nilS_x nilS_ic hh (by simp [flatS,flatSL,scS,SV.cells]),hk⟩
 ·exact hk.elim
theorem sp_true (a b:Int):spG a b:=by
 rw [spG_vc]
 simp only [and_true,true_and,Nat.zero_lt_one,Bool.false_eq_true,false_iff]
 exact ⟨fun h1=>⟨fun h2=>⟨fun h3=>⟨h1,h2,h3⟩,fun h=>h.c⟩,fun h2 h=>h2 h.b⟩,fun h1 h=>h1 h.a⟩
theorem sp_okT:spC.Ok Try.prog:=by
 refine ⟨by kernel_rfl,fun x k hk=>?_⟩
 simp only [spC] at hk
 split at hk
 ·exact ⟨_,plainD nilS_cs nilS_x nilS_ic (sp_true _ _) trivial,hk⟩
 ·exact hk.elim
theorem in_true (n a b:Int):inG n a b:=by
 rw [inG_vc]
 simp only [and_true,true_and,Bool.false_eq_true,false_iff]
 exact ⟨fun h1=>⟨fun h2=>⟨h1,h2⟩,fun h=>h.2⟩,fun h1 h=>h1 h.1⟩
theorem in_ok:inC.Ok Try.prog:=by
 refine ⟨by kernel_rfl,fun x k hk=>?_⟩
 simp only [inC] at hk
 split at hk
 ·exact ⟨_,plainD nilS_cs nilS_x nilS_ic (in_true _ _ _) trivial,hk⟩
 ·exact hk.elim
theorem pq_ok:pqC.OkF Try.prog:=by
 refine ⟨by kernel_rfl,fun x k hk=>?_⟩
 simp only [pqC] at hk
 split at hk
 ·rename_i n f m g
  obtain ⟨h1,h2,⟨h3,h4⟩,hk⟩:=hk
  have hh:=pq_true (Y:=⟨clOf n f,msOf m g⟩) h3 h4
  unfold pqG at hh
  simp only [Yd.sv] at hh
  rw [← h1,← h2] at hh
  exact ⟨_,funZ_does (three_cs l7_ok c8_ok sm_ok) (litX_sound nilS_x) nilS_ic mixed hh,hk⟩
 ·exact hk.elim
end Go.Proofs.Ytfiaadlgfjokjaa

set_option maxRecDepth 100000
namespace Go.Proofs.Ytfiaadlgfjokjaa
open Go Go.Lg
attribute [local irreducible] funS bodyH bodyZ
theorem yd0 {Y:Yd} {z:Nat} (h:ydI0 Y z) (hz:z<Y.c.n) (a:okSp (Y.c.f z).g0 (Y.c.f z).g1) (b:okSp (Y.c.f z).t0 (Y.c.f z).t1) (c:okSp (Y.c.f z).s0 (Y.c.f z).s1) (d:okSp (Y.c.f z).k0 (Y.c.f z).k1):ydI0 Y (z+1):=⟨by omega,fun i hi=>by
 by_cases e:i=z
 ·subst e; exact ⟨a,b,c,d⟩
 ·exact h.h i (by omega)⟩
theorem yd1 {Y:Yd} {z:Nat} (h:ydI1 Y z) (hz:z<Y.m.n) (a:okMv Y.c.n Y.m z):ydI1 Y (z+1):=⟨h.c,by omega,fun i hi=>by
 by_cases e:i=z
 ·subst e; exact a
 ·exact h.h i (by omega)⟩
theorem yd_true {Y:Yd} (h:Y.c.n≤1000∧Y.m.n≤1000):ydG Y:=by
 rw [ydG_vc]
 obtain ⟨h1,h2⟩:=h
 simp only [rI,rE,tA,tB,tC,tD,and_true,true_and,Nat.zero_lt_one,and_self,implies_true,Int.toNat_natCast,Classical.not_not,Bool.false_eq_true,false_iff]
 refine ⟨⟨0,⟨by omega,fun i hi=>by omega⟩,rfl⟩,fun z hz=>⟨fun hl=>⟨by omega,by omega,fun a n=>a (n.1.h z (by omega)).g,fun a=>⟨fun b n=>b (n.1.h z (by omega)).t,fun b=>⟨fun c n=>c (n.1.h z (by omega)).s,fun c=>⟨fun d n=>d (n.1.h z (by omega)).k,fun d=>⟨by omega,z+1,yd0 hz (by omega) a b c d,by omega,by omega⟩⟩⟩⟩⟩,fun hl=>⟨⟨0,⟨fun i hi=>hz.h i (by have:=hz.a; omega),by omega,fun i hi=>by omega⟩,rfl⟩,fun z hz=>⟨fun hl=>⟨by omega,by omega,fun a n=>?_,fun a=>⟨fun h0=>?_,fun h0=>?_⟩⟩,fun hl=>⟨fun a=>?_,fun a n=>a ⟨by have:=n.1.a; omega,by have:=n.1.b; omega⟩⟩⟩⟩⟩⟩
 ·have m:=n.2.h z (by omega)
  have p0:=m.h0
  have p1:=m.h1
  refine a ⟨?_,p1⟩
  have:∀ k,k≤z→0≤pv Y.m k:=by
   intro k
   cases k with
   | zero=>intro _; exact Int.le_refl _
   | succ k =>
    intro hk
    show 0≤(Y.m.f k).hr
    have:∀ j,j≤k→0≤(Y.m.f j).hr:=by
     intro j
     induction j with
     | zero=>intro _; have:=(n.2.h 0 (by omega)).h0; exact this
     | succ j ih =>
      intro hj
      have i:=ih (by omega)
      have:(Y.m.f j).hr≤(Y.m.f (j+1)).hr:=(n.2.h (j+1) (by omega)).h0
      omega
    exact this k (Nat.le_refl _)
  have:=this z (Nat.le_refl _)
  omega
 ·obtain ⟨q,rfl⟩:∃ q,z=q+1:=⟨z - 1,by omega⟩
  have e1:(((q+1:Nat):Int) - 1).toNat=q:=by omega
  rw [e1]
  refine ⟨by omega,by omega,by omega,fun b n=>?_,fun b=>⟨by omega,fun c n=>?_,fun c=>⟨fun d n=>?_,fun d=>⟨by omega,q+1+1,yd1 hz (by omega) ⟨by show (Y.m.f q).hr≤_; omega,a.2,c.1,by omega,d.1,d.2⟩,by omega,by omega⟩⟩⟩⟩
  ·have:(Y.m.f q).hr≤(Y.m.f (q+1)).hr:=(n.2.h (q+1) (by omega)).h0
   omega
  ·have m:=n.2.h (q+1) (by omega)
   exact c ⟨m.c0,by have:=m.c1; omega⟩
  ·have m:=n.2.h (q+1) (by omega)
   exact d ⟨m.t0,m.t1⟩
 ·obtain rfl:z=0:=by omega
  refine ⟨by omega,fun c n=>?_,fun c=>⟨fun d n=>?_,fun d=>⟨by omega,0+1,yd1 hz (by omega) ⟨by show (0:Int)≤_; exact a.1,a.2,c.1,by omega,d.1,d.2⟩,by omega,by omega⟩⟩⟩
  ·have m:=n.2.h 0 (by omega)
   exact c ⟨m.c0,by have:=m.c1; omega⟩
  ·have m:=n.2.h 0 (by omega)
   exact d ⟨m.t0,m.t1⟩
 ·refine ⟨fun b=>⟨⟨by omega,by omega,hz.c⟩,⟨by omega,fun i hi=>hz.h i (by have:=hz.a; omega)⟩⟩,fun n=>by have:=n.2.n; omega⟩
theorem sp_cs:SoundS Try.prog (ctrs [spC,inC]):=ctrs_sound (by
 intro x hx
 simp at hx
 rcases hx with rfl | rfl
 ·exact sp_okT
 ·exact in_ok)
theorem yd_ok:ydC.Ok Try.prog:=by
 refine ⟨by kernel_rfl,fun x k hk=>?_⟩
 simp only [ydC] at hk
 split at hk
 ·rename_i n f m g
  obtain ⟨h1,h2,h3,hk⟩:=hk
  have hh:=yd_true (Y:=⟨clOf n f,msOf m g⟩) h3
  unfold ydG at hh
  simp only [Yd.sv] at hh
  rw [← h1,← h2] at hh
  exact ⟨_,plainD sp_cs nilS_x nilS_ic hh trivial,hk⟩
 ·exact hk.elim
theorem st_true {Y:Yd} (h:Y.c.n≤1000∧Y.m.n≤1000):stG Y:=by
 rw [stG_vc]
 have e0:Yd.mk Y.c Y.m=Y:=rfl
 simp only [rI,rE,tA,tB,tC,tD,and_true,true_and,Nat.zero_lt_one,and_self,implies_true,Int.toNat_natCast,Classical.not_not,ms_fold,cl_fold,mv_fold,cv_fold,e0]
 refine ⟨h,fun hn=>?_,fun hn=>⟨hn,fun ho=>?_,fun ho=>?_⟩⟩
 ·have e:stE Y=1:=by unfold stE; rw [if_neg hn]
  exact ⟨by unfold stN; rw [e,if_neg (by omega)],e.symm⟩
 ·have e:stE Y=10:=by unfold stE; rw [if_pos hn,if_neg ho]
  exact ⟨by unfold stN; rw [e,if_neg (by omega)],e.symm⟩
 ·have e:stE Y=0:=by unfold stE; rw [if_pos hn,if_pos ho]
  exact ⟨by unfold stN pqN; rw [e,if_pos rfl,if_pos ho],e.symm⟩
theorem st_okT:stC.OkF Try.prog:=by
 refine ⟨by kernel_rfl,fun x k hk=>?_⟩
 simp only [stC] at hk
 split at hk
 ·rename_i n f m g
  obtain ⟨h1,h2,h3,hk⟩:=hk
  have hh:=st_true (Y:=⟨clOf n f,msOf m g⟩) h3
  unfold stG at hh
  simp only [Yd.sv] at hh
  rw [← h1,← h2] at hh
  exact ⟨_,funH_does (ctrsF_sound (one_cs yd_ok) (by intro x hx; simp at hx; subst hx; exact pq_ok)) nilS_x nilS_ic mixed hh,hk⟩
 ·exact hk.elim
end Go.Proofs.Ytfiaadlgfjokjaa

namespace Go.Proofs.Ytfiaadlgfjokjaa
open Go Go.Lg
attribute [local irreducible] bodyH bodyZ funS
def zT:Pt:=⟨0,0⟩
def prL (g:Nat→Int):Nat→List Pt
 | 0=>[]
 | k+1=>if 0<g k then prL g k ++ [⟨k,g k⟩] else prL g k
def ptT (l:List Pt):SV:=ptL l.length fun i=>l.getD i zT
noncomputable def rdE (Y:Yd) (a:Int):Int:=if stE Y=0 then (if 0≤a∧a≤(dn Y.m Y.m.n:Int) - 1 then 0 else 2) else stE Y
noncomputable def rdL (Y:Yd) (a:Int):List Pt:=if rdE Y a=0 then prL (oJ Y a.toNat) (lnJ Y.m) else []
noncomputable def rdR (Y:Yd) (a:Int):SV:=.tup [ptT (rdL Y a),i6 (rdE Y a)]
structure rwI (Y:Yd) (a:Int) (k:Nat):Prop where
 e:rdE Y a=0
 k:k≤lnJ Y.m
noncomputable def prR (g:Nat→Int) (k:Nat):Option SRow:=rw' 2 (prL g k).length fun i=>((prL g k).getD i zT).sv
noncomputable def rdG (Y:Yd) (a:Int):Prop:=funH Try.prog (ctrsF [stC] (ctrs [inC])) noX (ictrs [])
 (oneL 0 (appN 54 8 (rwI Y a) (fun k=>lnJ Y.m - k) 1 (fun k=>mkF 54 [(1,i6 a),(6,ooL Y (stN Y)),(8,.sl 1 0 (prL (oJ Y a.toNat) k).length),(9,i6 k)]) (fun k=>mkX [vr 2 Y.sv,prR (oJ Y a.toNat) k]))) noL 12 [Y.sv,i6 a] (rdR Y a)
structure rlI (Y:Yd) (k:Nat):Prop where
 e:stE Y=0
 k:k≤lnJ Y.m
structure rlI2 (Y:Yd) (s:Nat × Nat):Prop where
 e:stE Y=0
 k:s.1<lnJ Y.m
 d:s.2≤dn Y.m Y.m.n
noncomputable def rdC:Ctr:=⟨12,fun args k=>match args with
 | [.agg [.lst 8 n f,.lst 3 m g],.int .i64 a]=>SV.lst 8 n f=(clOf n f).sv∧SV.lst 3 m g=(msOf m g).sv∧(n≤1000∧m≤1000)∧k (rdR ⟨clOf n f,msOf m g⟩ a)
 | _=>False⟩
end Go.Proofs.Ytfiaadlgfjokjaa

set_option maxRecDepth 100000
namespace Go.Proofs.Ytfiaadlgfjokjaa
open Go Go.Lg
theorem rdG_vc (Y:Yd) (a:Int):rdG Y a=((0:Nat)<(1:Nat)∧tA Y∧tB Y∧tC Y∧tD Y∧(Y.c.1≤(1000:Nat)∧Y.m.1≤(1000:Nat))∧(¬stE Y=(0:Int)→(0:Nat)=(rdL Y a).length∧stE Y=rdE Y a∧True)∧(¬¬stE Y=(0:Int)→rI ((↑(stN Y):Int) - (1:Int))∧(¬((0:Int)≤a∧a≤(↑(stN Y):Int) - (1:Int))→(0:Nat)=(rdL Y a).length∧(2:Int)=rdE Y a∧True)∧(¬¬((0:Int)≤a∧a≤(↑(stN Y):Int) - (1:Int))→(∃ (z:Nat),rwI Y a z∧a=a∧stN Y=stN Y∧(∀ (i:Nat),i<stN Y→(SV.lst (1:Nat) (lnJ Y.m) fun k=>i6 (oJ Y i k)).den=(SV.lst (1:Nat) (lnJ Y.m) fun k=>i6 (oJ Y i k)).den∧∀ (i:Nat),i<lnJ Y.m→True)∧rE (0:Nat)∧(0:Nat)=(prL (oJ Y a.toNat) z).length∧(0:Int)=(↑z:Int)∧rE Y.c.1∧(∀ (i:Nat),i<Y.c.1→rE ((Y.c.f i).sv.den)∧True∧True∧True∧True∧True∧True∧True∧True∧True)∧rE Y.m.1∧(∀ (i:Nat),i<Y.m.1→rE ((Y.m.f i).sv.den)∧True∧True∧True∧True)∧(prL (oJ Y a.toNat) z).length=(0:Nat)∧True)∧∀ (z:Nat),rwI Y a z→(0:Int)≤a∧a<(↑(stN Y):Int)∧((↑z:Int)<(↑(lnJ Y.m):Int)→(0:Int)≤a∧a<(↑(stN Y):Int)∧(0:Int)≤(↑z:Int)∧(↑z:Int)<(↑(lnJ Y.m):Int)∧((0:Int)<oJ Y a.toNat (↑z:Int).toNat→(0:Int)≤a∧a<(↑(stN Y):Int)∧(0:Int)≤(↑z:Int)∧(↑z:Int)<(↑(lnJ Y.m):Int)∧True∧(∀ (i:Nat),i<(1:Nat)→rE true)∧rE (0:Nat)∧rE ((prL (oJ Y a.toNat) z).length)∧(∀ (i:Nat),rE true) ∧
((prL (oJ Y a.toNat) z).length+(1:Nat))*(16:Nat)≤(140737488355328:Nat)∧(prL (oJ Y a.toNat) z).length+(1:Nat)≤(4611686018427387904:Nat)∧rI ((↑z:Int)+(1:Int))∧∃ (z_1:Nat),rwI Y a z_1∧lnJ Y.m - z_1<lnJ Y.m - z∧a=a∧rE (stN Y)∧(∀ (i:Nat),i<stN Y→rE ((SV.lst (1:Nat) (lnJ Y.m) fun k=>i6 (oJ Y i k)).den)∧∀ (i:Nat),i<lnJ Y.m→True)∧rE (0:Nat)∧(prL (oJ Y a.toNat) z).length+(1:Nat)=(prL (oJ Y a.toNat) z_1).length∧(↑z:Int)+(1:Int)=(↑z_1:Int)∧rE Y.c.1∧(∀ (i:Nat),i<Y.c.1→rE ((Y.c.f i).sv.den)∧True∧True∧True∧True∧True∧True∧True∧True∧True)∧rE Y.m.1∧(∀ (i:Nat),i<Y.m.1→rE ((Y.m.f i).sv.den)∧True∧True∧True∧True)∧(prL (oJ Y a.toNat) z_1).length=(prL (oJ Y a.toNat) z).length+(1:Nat)∧(∀ (i:Nat),i<(prL (oJ Y a.toNat) z_1).length→rE (2:Nat)∧(if i<(prL (oJ Y a.toNat) z).length then ((prL (oJ Y a.toNat) z).getD i zT).1 else (↑z:Int))=((prL (oJ Y a.toNat) z_1).getD i zT).1∧(if i<(prL (oJ Y a.toNat) z).length then ((prL (oJ Y a.toNat) z).getD i zT).2 else oJ Y a.toNat (↑z:Int).toNat)=((prL (oJ Y a.toNat) z_1).getD i zT).2∧True)∧True)∧(¬(0:Int)<oJ Y a.toNat (↑z:Int).toNat→rI ((↑z:Int)+(1:Int))∧∃ (z_1:Nat),rwI Y a z_1∧lnJ Y.m - z_1<lnJ Y.m - z∧a=a∧rE (stN Y)∧(∀ (i:Nat),i<stN Y→rE ((SV.lst (1:Nat) (lnJ Y.m) fun k=>i6 (oJ Y i k)).den)∧∀ (i:Nat),i<lnJ Y.m→True)∧rE (0:Nat) ∧
(prL (oJ Y a.toNat) z).length=(prL (oJ Y a.toNat) z_1).length∧(↑z:Int)+(1:Int)=(↑z_1:Int)∧rE Y.c.1∧(∀ (i:Nat),i<Y.c.1→rE ((Y.c.f i).sv.den)∧True∧True∧True∧True∧True∧True∧True∧True∧True)∧rE Y.m.1∧(∀ (i:Nat),i<Y.m.1→rE ((Y.m.f i).sv.den)∧True∧True∧True∧True)∧(prL (oJ Y a.toNat) z_1).length=(prL (oJ Y a.toNat) z).length∧(∀ (i:Nat),i<(prL (oJ Y a.toNat) z_1).length→rE (2:Nat)∧((prL (oJ Y a.toNat) z).getD i zT).1=((prL (oJ Y a.toNat) z_1).getD i zT).1∧((prL (oJ Y a.toNat) z).getD i zT).2=((prL (oJ Y a.toNat) z_1).getD i zT).2∧True)∧True))∧(¬(↑z:Int)<(↑(lnJ Y.m):Int)→(prL (oJ Y a.toNat) z).length=(rdL Y a).length∧(0:Nat)+(rdL Y a).length≤(prL (oJ Y a.toNat) z).length∧(∀ (i:Nat),i<(rdL Y a).length→rE (2:Nat)∧rE (2:Nat)∧((prL (oJ Y a.toNat) z).getD (i+(0:Nat)) zT).1=((rdL Y a).getD i zT).1∧((prL (oJ Y a.toNat) z).getD (i+(0:Nat)) zT).2=((rdL Y a).getD i zT).2∧True)∧(0:Int)=rdE Y a∧True)))):=by kernel_rfl
end Go.Proofs.Ytfiaadlgfjokjaa

set_option maxRecDepth 100000
namespace Go.Proofs.Ytfiaadlgfjokjaa
open Go Go.Lg
attribute [local irreducible] funS bodyH bodyZ
theorem pr_y {g:Nat→Int} {k:Nat} (h:0<g k):prL g (k+1)=prL g k ++ [⟨k,g k⟩]:=by simp only [prL,if_pos h]
theorem pr_n {g:Nat→Int} {k:Nat} (h:¬ 0<g k):prL g (k+1)=prL g k:=by simp only [prL,if_neg h]
theorem pr_len (g:Nat→Int):∀ k,(prL g k).length≤k:=by
 intro k
 induction k with
 | zero=>exact Nat.le_refl _
 | succ k ih =>
  by_cases h:0<g k
  ·rw [pr_y h]; simp; omega
  ·rw [pr_n h]; omega
theorem gd_app {α:Type} {l:List α} {x d:α} {i:Nat} (hi:i<l.length+1):(l ++ [x]).getD i d=if i<l.length then l.getD i d else x:=by
 by_cases h:i<l.length
 ·rw [if_pos h]; simp [List.getD,List.getElem?_append_left h]
 ·have:i=l.length:=by omega
  subst this
  rw [if_neg h]; simp [List.getD]
theorem if_1 {c:Prop} [Decidable c] {a b:Pt}:(if c then a.nu else b.nu)=(if c then a else b).nu:=by split <;> rfl
theorem if_2 {c:Prop} [Decidable c] {a b:Pt}:(if c then a.tn else b.tn)=(if c then a else b).tn:=by split <;> rfl
theorem st_ok0 {Y:Yd} (h:stE Y=0):(okCl Y.c∧okMs Y.c.n Y.m)∧pqO Y Y.m.n∧stN Y=dn Y.m Y.m.n:=by
 have e:stN Y=dn Y.m Y.m.n:=by unfold stN; rw [if_pos h]
 unfold stE at h
 split at h
 ·rename_i h1
  split at h
  ·rename_i h2
   exact ⟨h1,h2,e⟩
  ·omega
 ·omega
theorem rd_true {Y:Yd} {a:Int} (h:Y.c.n≤1000∧Y.m.n≤1000):rdG Y a:=by
 rw [rdG_vc]
 have e0:Yd.mk Y.c Y.m=Y:=rfl
 simp only [rI,rE,tA,tB,tC,tD,and_true,true_and,Nat.zero_lt_one,and_self,implies_true,Int.toNat_natCast,Classical.not_not,ms_fold,cl_fold,mv_fold,cv_fold,e0,Nat.add_zero,Nat.zero_add]
 refine ⟨h,fun hn=>?_,fun he=>?_⟩
 ·have e:rdE Y a=stE Y:=by unfold rdE; rw [if_neg hn]
  have e2:rdL Y a=[]:=by unfold rdL; rw [e,if_neg hn]
  rw [e2]; exact ⟨rfl,e.symm⟩
 ·obtain ⟨⟨hC,hM⟩,hO,hN⟩:=st_ok0 he
  have hd:=dn_i Y.m Y.m.n
  have hmn:=hM.n
  have hl:=ln_le Y.m
  refine ⟨by omega,fun hn=>?_,fun ha=>?_⟩
  ·have e:rdE Y a=2:=by unfold rdE; rw [if_pos he,if_neg (by rw [← hN]; exact hn)]
   have e2:rdL Y a=[]:=by unfold rdL; rw [e,if_neg (by omega)]
   rw [e2]; exact ⟨rfl,e.symm⟩
  ·have e:rdE Y a=0:=by unfold rdE; rw [if_pos he,if_pos (by rw [← hN]; exact ha)]
   have e2:rdL Y a=prL (oJ Y a.toNat) (lnJ Y.m):=by unfold rdL; rw [if_pos e]
   refine ⟨⟨0,⟨e,by omega⟩,rfl,rfl,rfl⟩,fun z hz=>⟨by omega,by omega,fun hz1=>⟨by omega,by omega,by omega,by omega,fun hp=>?_,fun hp=>?_⟩,fun hz1=>?_⟩⟩
   ·have pl:=pr_len (oJ Y a.toNat) z
    refine ⟨by omega,by omega,by omega,by omega,by omega,by omega,by omega,z+1,⟨e,by omega⟩,by omega,?_,by omega,?_,fun i hi=>?_⟩
    ·rw [pr_y hp]; simp
    ·rw [pr_y hp]; simp
    ·rw [pr_y hp] at hi ⊢
     rw [gd_app (by simpa using hi),← if_1,← if_2]
     exact ⟨rfl,rfl⟩
   ·exact ⟨by omega,z+1,⟨e,by omega⟩,by omega,by rw [pr_n hp],by omega,by rw [pr_n hp],fun i hi=>by rw [pr_n hp]; exact ⟨rfl,rfl⟩⟩
   ·have ez:z=lnJ Y.m:=by have:=hz.k; omega
    subst ez
    rw [e2]
    exact ⟨rfl,Nat.le_refl _,fun i hi=>⟨rfl,rfl⟩,e.symm⟩
theorem rd_ok:rdC.OkF Try.prog:=by
 refine ⟨by kernel_rfl,fun x k hk=>?_⟩
 simp only [rdC] at hk
 split at hk
 ·rename_i n f m g a
  obtain ⟨h1,h2,h3,hk⟩:=hk
  have hh:=rd_true (Y:=⟨clOf n f,msOf m g⟩) (a:=a) h3
  unfold rdG at hh
  simp only [Yd.sv] at hh
  rw [← h1,← h2] at hh
  exact ⟨_,funH_does (ctrsF_sound (one_cs in_ok) (by intro x hx; simp at hx; subst hx; exact st_okT)) nilS_x nilS_ic mixed hh,hk⟩
 ·exact hk.elim
end Go.Proofs.Ytfiaadlgfjokjaa
