import Derived.Test.YtpdcajchppoocaaC5
set_option linter.unusedVariables false
set_option linter.unusedSimpArgs false
set_option maxRecDepth 100000
namespace Go.Proofs.Ytpdcajchppoocaa
open Go Go.Lg
attribute [local irreducible] bodyH
def rnC : Ctr := ⟨39, fun args k => match args with
  | [x] => ∃ T : Tn, (x = tV T ∧ T.nl ≤ 1000) ∧ k (.tup [.lst 1 T.nl fun j => b6 (T.lo j), .lst 1 T.nl fun j => b6 (T.hi j)])
  | _ => False⟩
noncomputable def coR (T : Tn) (w : Nat → Bool) (c : Nat → Int) : SV := .tup [.lst 1 T.nl fun i => b6 (slQ T w c i), (qA T w c T.nl).sv, b6 T.nl, .bool true]
end Go.Proofs.Ytpdcajchppoocaa

set_option maxRecDepth 100000
namespace Go.Proofs.Ytpdcajchppoocaa
open Go Go.Lg
def hoz0 (s:Rs):Prop:=(∀ (i:Nat),i<s.1→rE (4:Nat)∧(if i<(0:Nat) then (0:Int) else (s.S (i - (0:Nat))).1)=(s.S i).1∧(if i<(0:Nat) then (0:Int) else (s.S (i - (0:Nat))).2)=(s.S i).2∧(if i<(0:Nat) then (0:Int) else (s.S (i - (0:Nat))).3)=(s.S i).3∧(if i<(0:Nat) then (0:Int) else (s.S (i - (0:Nat))).4)=(s.S i).4∧True)
def hoz2 (s:Rs):Prop:=(∀ (i:Nat),i<s.1→rE ((s.S i).sv.den)∧True∧True∧True∧True∧True)
def hoz3 (s:Rs):Prop:=(∀ (i:Nat),i<s.3→rE ((s.O i).sv.den)∧True∧True∧True∧True∧True)
def hoz6 (T:Tn):Prop:=(∀ (i:Nat),i<T.1→rE ((bxV T i).den)∧True∧True∧True∧True)
def hoz7 (T:Tn):Prop:=(∀ (i:Nat),i<T.10→rE ((ldV T i).den)∧True∧True∧True)
def hoz1 (T:Tn) (s:Rs) (h:Int) (a:Int):Prop:=(True∧(True∧(0:Nat)<(1:Nat)∧True∧(∀ (i:Nat),i<s.1→rE true)∧rE (0:Nat)∧rE (0:Nat)∧(∀ (i:Nat),rE true)∧((0:Nat)+s.1)*(32:Nat)≤(140737488355328:Nat)∧(0:Nat)+s.1≤(4611686018427387904:Nat)∧True∧True∧∃ (z:Nat),True∧h=h∧rE true∧a=a∧rE (0:Nat)∧rE (0:Nat)∧rE (0:Nat)∧rE (0:Nat)∧rE (0:Nat)∧rE (0:Nat)∧rE (0:Nat)∧rE (0:Nat)∧T.1=T.1∧(hoz6 T)∧T.5=T.5∧T.6=T.6∧T.7=T.7∧T.8=T.8∧T.9=T.9∧rE T.10∧(hoz7 T)∧s.1=s.1∧(hoz2 s)∧s.3=s.3∧(hoz3 s)∧s.5=s.5∧rE (Value.slice none (0:Nat) (0:Nat))∧rE (Value.slice none (0:Nat) (0:Nat))∧rE (0:Int)∧rE (0:Nat)∧(0:Nat)+s.1=s.1∧rE (Value.slice none (0:Nat) (0:Nat))∧s.5=s.5∧s.1=(0:Nat)+s.1∧(hoz0 s)∧True)∧(True∧(∀ (i:Nat),i<s.1→rE true)∧rE (0:Nat)∧rE (0:Nat)∧(∀ (i:Nat),rE true)∧((0:Nat)+s.1)*(32:Nat)≤(140737488355328:Nat)∧(0:Nat)+s.1≤(4611686018427387904:Nat)∧True∧(0:Nat)<(1:Nat)∧True∧True∧∃ (z:Nat),True∧h=h∧rE true∧a=a∧rE (0:Nat)∧rE (0:Nat)∧rE (0:Nat)∧rE (0:Nat)∧rE (0:Nat)∧rE (0:Nat)∧rE (0:Nat)∧rE (0:Nat)∧T.1=T.1∧(hoz6 T)∧T.5=T.5∧T.6=T.6∧T.7=T.7∧T.8=T.8∧T.9=T.9∧rE T.10∧(hoz7 T)∧s.1=s.1∧(hoz2 s)∧s.3=s.3∧(hoz3 s)∧s.5=s.5∧rE (Value.slice none (0:Nat) (0:Nat))∧rE (Value.slice none (0:Nat) (0:Nat))∧rE (0:Int)∧rE (0:Nat)∧(0:Nat)+s.1=s.1∧rE (Value.slice none (0:Nat) (0:Nat))∧s.5=s.5∧s.1=(0:Nat)+s.1∧(hoz0 s)∧True)∧True)
def hoz4 (T:Tn) (s:Rs) (h:Int) (a:Int):Prop:=(True∧(∀ (i:Nat),i<s.1→rE true)∧rE (0:Nat)∧rE (0:Nat)∧(∀ (i:Nat),rE true)∧((0:Nat)+s.1)*(32:Nat)≤(140737488355328:Nat)∧(0:Nat)+s.1≤(4611686018427387904:Nat)∧True∧True∧True∧∃ (z:Nat),True∧h=h∧rE true∧a=a∧rE (0:Nat)∧rE (0:Nat)∧rE (0:Nat)∧rE (0:Nat)∧rE (0:Nat)∧rE (0:Nat)∧rE (0:Nat)∧rE (0:Nat)∧T.1=T.1∧(hoz6 T)∧T.5=T.5∧T.6=T.6∧T.7=T.7∧T.8=T.8∧T.9=T.9∧rE T.10∧(hoz7 T)∧s.1=s.1∧(hoz2 s)∧s.3=s.3∧(hoz3 s)∧s.5=s.5∧rE (Value.slice none (0:Nat) (0:Nat))∧rE (Value.slice none (0:Nat) (0:Nat))∧rE (0:Int)∧rE (0:Nat)∧(0:Nat)+s.1=s.1∧rE (Value.slice none (0:Nat) (0:Nat))∧s.5=s.5∧s.1=(0:Nat)+s.1∧(hoz0 s)∧True)
def hoz5 (T:Tn) (s:Rs) (h:Int) (a:Int):Prop:=(True∧True∧(∀ (i:Nat),i<s.1→rE true)∧rE (0:Nat)∧rE (0:Nat)∧(∀ (i:Nat),rE true)∧((0:Nat)+s.1)*(32:Nat)≤(140737488355328:Nat)∧(0:Nat)+s.1≤(4611686018427387904:Nat)∧True∧True∧∃ (z:Nat),True∧h=h∧rE true∧a=a∧rE (0:Nat)∧rE (0:Nat)∧rE (0:Nat)∧rE (0:Nat)∧rE (0:Nat)∧rE (0:Nat)∧rE (0:Nat)∧rE (0:Nat)∧T.1=T.1∧(hoz6 T)∧T.5=T.5∧T.6=T.6∧T.7=T.7∧T.8=T.8∧T.9=T.9∧rE T.10∧(hoz7 T)∧s.1=s.1∧(hoz2 s)∧s.3=s.3∧(hoz3 s)∧s.5=s.5∧rE (Value.slice none (0:Nat) (0:Nat))∧rE (Value.slice none (0:Nat) (0:Nat))∧rE (0:Int)∧rE (0:Nat)∧(0:Nat)+s.1=s.1∧rE (Value.slice none (0:Nat) (0:Nat))∧s.5=s.5∧s.1=(0:Nat)+s.1∧(hoz0 s)∧True)
def hoz8 (s:Rs) (h:Int) (z:Nat) (z_1:Nat):Prop:=(∀ (i_2:Nat),i_2<nQ s h z_1→rE (4:Nat)∧(if i_2<nQ s h z then (S1 s i_2).1 else (s.O (↑z:Int).toNat).1)=(S1 s i_2).1∧(if i_2<nQ s h z then (S1 s i_2).2 else (s.O (↑z:Int).toNat).2)=(S1 s i_2).2∧(if i_2<nQ s h z then (S1 s i_2).3 else (s.O (↑z:Int).toNat).3)=(S1 s i_2).3∧(if i_2<nQ s h z then (S1 s i_2).4 else (s.O (↑z:Int).toNat).4)=(S1 s i_2).4∧True)
end Go.Proofs.Ytpdcajchppoocaa

set_option maxRecDepth 100000
namespace Go.Proofs.Ytpdcajchppoocaa
open Go Go.Lg
attribute [local irreducible] bodyH
end Go.Proofs.Ytpdcajchppoocaa

set_option maxRecDepth 100000
namespace Go.Proofs.Ytpdcajchppoocaa
open Go Go.Lg
attribute [local irreducible] bodyH
structure okC (T:Tn) (c:Nat→Int):Prop where
 t:okT T
 c:∀ k,k<T.nl→0≤c k∧c k≤1000000
noncomputable def coE:Ctr:=⟨40,fun args k=>match args with
 | [x,.lst 1 n f,.lst 1 m g]=>∃ (T:Tn) (w:Nat→Bool) (c:Nat→Int),(x=tV T∧SV.lst 1 n f=twL T.nl w∧SV.lst 1 m g=SV.lst 1 T.nl (fun j=>b6 (c j))∧okC T c∧∀ i,i<T.nl→¬ wrQ T w c i)∧k (coR T w c)
 | _=>False⟩
end Go.Proofs.Ytpdcajchppoocaa

set_option maxRecDepth 100000
namespace Go.Proofs.Ytpdcajchppoocaa
open Go Go.Lg
attribute [local irreducible] bodyH
noncomputable def rrC:Ctr:=⟨16,fun args k=>match args with
 | [x,.lst 1 n f]=>∃ (T:Tn) (w:Nat→Bool),(x=tV T∧SV.lst 1 n f=twL T.nl w∧okR T w)∧k (.tup [ruV T w,b6 T.nl,b6 0])
 | _=>False⟩
noncomputable def rrD:Ctr:=⟨16,fun args k=>match args with
 | [x,.lst 1 n f]=>∃ (T:Tn) (w:Nat→Bool),(x=tV T∧SV.lst 1 n f=twL n w∧chE T n w≠0)∧k (.tup [nlS,b6 (chH T n w),b6 (chE T n w)])
 | _=>False⟩
noncomputable def bsL (T:Tn) (w:Nat→Bool) (A B:Rs) (L H:St):Nat→Option HSpec :=
 twoL 0 { appH1 115 19 (fun i=>1≤i∧i≤A.n) (fun i=>A.n - i) T.nb 3 (fun i=>mkF 115 [(12,.ptr 1 0 0),(16,.ptr 2 0 0),(19,.sl 3 0 i),(20,b6 i)])
  (fun i=>mkX [vr 7 (tV T),vr 3 A.sv,vr 3 B.sv,rw' 5 i fun k=>.agg [b6 (A.S k).b,b6 (A.S k).f,b6 (B.S k).f,b6 (A.S k).r,.bool false]]) with fz:=true }
 (oneL 2 { (natH (fun i=>i≤A.m) (fun i=>A.m - i) 3 (fun i=>mkF 115 [(12,.ptr 1 0 0),(19,.sl 3 0 (A.n+i)),(21,b6 i)])
  (fun i=>mkX [vr 7 (tV T),vr 3 A.sv,vr 3 B.sv,rw' 5 (A.n+i) fun k=>.agg [b6 (L.bx k),b6 (L.fo k),b6 (H.fo k),b6 (L.rv k),.dec (L.n≤k) inferInstance]]) fun _=>none) with ms:=gsl 115 19,fz:=true })
noncomputable def bsG (T:Tn) (w:Nat→Bool):Prop:=funY Try.prog (ctrsF [rnC,coE,rrC] (ctrs [])) noX (ictrs []) (octrs []) (bsL T w (qA T w T.lo T.nl) (qA T w T.hi T.nl) (fsA T w (coL T)) (fsA T w (coH T 0))) noL 18 [tV T,twL T.nl w] (.tup [bdV T (fsA T w (coL T)) (fsA T w (coH T 0)),b6 0])
noncomputable def bsB (T:Tn) (n:Nat) (w:Nat→Bool):Prop:=funY Try.prog (ctrsF [rrD] (ctrs [])) noX (ictrs []) (octrs []) noL noL 18 [tV T,twL n w] (.tup [nlS,b6 (chE T n w)])
end Go.Proofs.Ytpdcajchppoocaa

set_option maxRecDepth 100000
namespace Go.Proofs.Ytpdcajchppoocaa
open Go Go.Lg
end Go.Proofs.Ytpdcajchppoocaa

set_option maxRecDepth 100000
namespace Go.Proofs.Ytpdcajchppoocaa
open Go Go.Lg
attribute [local irreducible] bodyH
section
variable {T:Tn} {w:Nat→Bool} {c:Nat→Int}
end
end Go.Proofs.Ytpdcajchppoocaa

set_option maxRecDepth 100000
namespace Go.Proofs.Ytpdcajchppoocaa
open Go Go.Lg
attribute [local irreducible] bodyH
end Go.Proofs.Ytpdcajchppoocaa

set_option maxRecDepth 100000
namespace Go.Proofs.Ytpdcajchppoocaa
open Go Go.Lg
attribute [local irreducible] bodyH
noncomputable def spsG (n:Nat) (a b:Nat→Int):Prop:=funH Try.prog (ctrs []) noX (ictrs []) (oneL 0 (natH (fun i=>i≤n) (fun i=>n - i) 0 (fun i=>mkF 26 [(0,.lst 2 n fun k=>.agg [b6 (a k),b6 (b k)]),(1,.lst 2 n fun k=>.agg [b6 (a k),b6 (b k)]),(5,b6 i)]) (fun _=>⟨0,.nil⟩) fun _=>none)) noL 19
 [.lst 2 n fun k=>.agg [b6 (a k),b6 (b k)],.lst 2 n fun k=>.agg [b6 (a k),b6 (b k)]] (.bool true)
noncomputable def bdE (a b c d:Nat→Int) (o:Nat→Bool) (k:Nat):SV:=.agg [b6 (a k),b6 (b k),b6 (c k),b6 (d k),.dec (o k=true) inferInstance]
noncomputable def sbsG (n:Nat) (a b c d:Nat→Int) (o:Nat→Bool):Prop:=funH Try.prog (ctrs []) noX (ictrs []) (oneL 0 (natH (fun i=>i≤n) (fun i=>n - i) 0 (fun i=>mkF 26 [(0,.lst 5 n (bdE a b c d o)),(1,.lst 5 n (bdE a b c d o)),(5,b6 i)]) (fun _=>⟨0,.nil⟩) fun _=>none)) noL 20
 [.lst 5 n (bdE a b c d o),.lst 5 n (bdE a b c d o)] (.bool true)
end Go.Proofs.Ytpdcajchppoocaa

set_option maxRecDepth 100000
namespace Go.Proofs.Ytpdcajchppoocaa
open Go Go.Lg
theorem spsG_vc (n:Nat) (a:Nat→Int) (b:Nat→Int):spsG n a b =
((¬(↑n:Int)=(↑n:Int)→false=true∧True)∧(¬¬(↑n:Int)=(↑n:Int)→(∃ (z:Nat),z≤n∧n=n∧(∀ (i:Nat),i<n→rE ((SV.agg [b6 (a i),b6 (b i)]).den)∧True∧True∧True)∧n=n∧(∀ (i:Nat),i<n→rE ((SV.agg [b6 (a i),b6 (b i)]).den)∧True∧True∧True)∧(0:Int)=(↑z:Int)∧True)∧∀ (z:Nat),z≤n→((↑z:Int)<(↑n:Int)→(0:Int)≤(↑z:Int)∧(↑z:Int)<(↑n:Int)∧(0:Int)≤(↑z:Int)∧(↑z:Int)<(↑n:Int)∧(¬(rE (a (↑z:Int).toNat)∧rE (b (↑z:Int).toNat))→false=true∧True)∧(¬¬(rE (a (↑z:Int).toNat)∧rE (b (↑z:Int).toNat))→rI ((↑z:Int)+(1:Int))∧∃ (z_1:Nat),z_1≤n∧n - z_1<n - z∧n=n∧(∀ (i:Nat),i<n→rE ((SV.agg [b6 (a i),b6 (b i)]).den)∧True∧True∧True)∧n=n∧(∀ (i:Nat),i<n→rE ((SV.agg [b6 (a i),b6 (b i)]).den)∧True∧True∧True)∧(↑z:Int)+(1:Int)=(↑z_1 :
Int)∧True))∧(¬(↑z:Int)<(↑n:Int)→rE true∧True))):=by kernel_rfl
theorem sbsG_vc (n:Nat) (a:Nat→Int) (b:Nat→Int) (c:Nat→Int) (d:Nat→Int) (o:Nat→Bool):sbsG n a b c d o =
((¬(↑n:Int)=(↑n:Int)→false=true∧True)∧(¬¬(↑n:Int)=(↑n:Int)→(∃ (z:Nat),z≤n∧n=n∧(∀ (i:Nat),i<n→rE ((bdE a b c d o i).den)∧True∧True∧True∧True∧True∧True)∧n=n∧(∀ (i:Nat),i<n→rE ((bdE a b c d o i).den)∧True∧True∧True∧True∧True∧True)∧(0:Int)=(↑z:Int)∧True)∧∀ (z:Nat),z≤n→((↑z:Int)<(↑n:Int)→(0:Int)≤(↑z:Int)∧(↑z:Int)<(↑n:Int)∧(0:Int)≤(↑z:Int)∧(↑z:Int)<(↑n:Int)∧(¬(rE (a (↑z:Int).toNat)∧rE (b (↑z:Int).toNat)∧rE (c (↑z:Int).toNat)∧rE (d (↑z:Int).toNat)∧(o (↑z:Int).toNat=true↔o (↑z:Int).toNat=true)∧True)→false=true∧True)∧(¬¬(rE (a (↑z:Int).toNat)∧rE (b (↑z:Int).toNat)∧rE (c (↑z:Int).toNat)∧rE (d (↑z:Int).toNat)∧(o (↑z:Int).toNat=true↔o (↑z:Int).toNat=true)∧True)→rI ((↑z:Int)+(1:Int))∧∃ (z_1 :
Nat),z_1≤n∧n - z_1<n - z∧n=n∧(∀ (i:Nat),i<n→rE ((bdE a b c d o i).den)∧True∧True∧True∧True∧True∧True)∧n=n∧(∀ (i:Nat),i<n→rE ((bdE a b c d o i).den)∧True∧True∧True∧True∧True∧True)∧(↑z:Int)+(1:Int)=(↑z_1:Int)∧True))∧(¬(↑z:Int)<(↑n:Int)→rE true∧True))):=by kernel_rfl
end Go.Proofs.Ytpdcajchppoocaa

set_option maxRecDepth 100000
namespace Go.Proofs.Ytpdcajchppoocaa
open Go Go.Lg
end Go.Proofs.Ytpdcajchppoocaa

set_option maxRecDepth 100000
namespace Go.Proofs.Ytpdcajchppoocaa
open Go Go.Lg
attribute [local irreducible] bodyH
theorem sps_true {n:Nat} (hn:n≤1000000) (a b:Nat→Int):spsG n a b:=by
 rw [spsG_vc]
 simp only [rI,rE,tt3,tt4,tt5,tt13,tt14,and_true,true_and,Nat.zero_lt_one,and_self,implies_true,Int.toNat_natCast,Classical.not_not,iff_self,Bool.false_eq_true,imp_false,and_imp,true_implies]
 exact ⟨⟨0,Nat.zero_le _,rfl⟩,fun z hz hl=>⟨by omega,hl,by omega,hl,by omega,z+1,by omega,by omega,by omega⟩⟩
theorem sbs_true {n:Nat} (hn:n≤1000000) (a b c d:Nat→Int) (o:Nat→Bool):sbsG n a b c d o:=by
 rw [sbsG_vc]
 simp only [rI,rE,tt3,tt4,tt5,tt13,tt14,and_true,true_and,Nat.zero_lt_one,and_self,implies_true,Int.toNat_natCast,Classical.not_not,iff_self,Bool.false_eq_true,imp_false,and_imp,true_implies]
 exact ⟨⟨0,Nat.zero_le _,rfl⟩,fun z hz hl=>⟨by omega,hl,by omega,hl,by omega,z+1,by omega,by omega,by omega⟩⟩
end Go.Proofs.Ytpdcajchppoocaa
