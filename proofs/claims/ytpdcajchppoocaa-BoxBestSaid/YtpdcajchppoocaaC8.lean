import Derived.Test.YtpdcajchppoocaaXb1XbV1Xb2Xb3Xb4XbV4
set_option linter.unusedVariables false
set_option linter.unusedSimpArgs false
set_option maxRecDepth 100000
namespace Go.Proofs.Ytpdcajchppoocaa
open Go Go.Lg
attribute [local irreducible] bodyH
section
variable {T:Tn} {w:Nat→Bool} {c:Nat→Int}
theorem rg_hd (hT:okT T) (h:Nat) (hh:h<T.nl):T.hi h=coH T 0 h:=by
 have:=hT.ld h hh
 show T.hi h=min (T.hi h+0) 10000
 omega
theorem rg_sl (h:okC T c) (hw:fwA T w=T.nl) {i:Nat} (hi:i<T.nl):slQ T w c i=slA T (tW w) c i:=by
 have hl:=h.t.nl
 exact sl_eqA h.t (by omega) (fun k hk=>(h.c k (by omega)).1) fun k hk=>fw_a (by omega)
theorem rg_hi2 (hT:okT T) (hw:fwA T w=T.nl) {i:Nat} (hi:i<T.nl):slQ T w T.hi i=hiA T w i:=by
 rw [rg_sl (rg_hi hT) hw hi]
 exact sl_eq fun h hh=>rg_hd hT h (by omega)
end
end Go.Proofs.Ytpdcajchppoocaa

set_option maxRecDepth 100000
namespace Go.Proofs.Ytpdcajchppoocaa
open Go Go.Lg
attribute [local irreducible] bodyH
end Go.Proofs.Ytpdcajchppoocaa

set_option maxRecDepth 100000
namespace Go.Proofs.Ytpdcajchppoocaa
open Go Go.Lg
attribute [local irreducible] bodyH
noncomputable def spsG (n:Nat) (a b:Nat→Int):Prop:=funH Try.prog (ctrs []) noX (ictrs []) (oneL 0 (natH (fun i=>i≤n) (fun i=>n - i) 0 (fun i=>mkF 26 [(0,.lst 2 n fun k=>.agg [b6 (a k),b6 (b k)]),(1,.lst 2 n fun k=>.agg [b6 (a k),b6 (b k)]),(5,b6 i)]) (fun _=>⟨0,.nil⟩) fun _=>none)) noL 19
 [.lst 2 n fun k=>.agg [b6 (a k),b6 (b k)],.lst 2 n fun k=>.agg [b6 (a k),b6 (b k)]] (.bool true)
noncomputable def bdE (a b c d:Nat→Int) (o:Nat→Bool) (k:Nat):SV:=.agg [b6 (a k),b6 (b k),b6 (c k),b6 (d k),.dec (o k=true) inferInstance]
noncomputable def sbsG (n:Nat) (a b c d:Nat→Int) (o:Nat→Bool):Prop:=funH Try.prog (ctrs []) noX (ictrs []) (oneL 0 (natH (fun i=>i≤n) (fun i=>n - i) 0 (fun i=>mkF 26 [(0,.lst 5 n (bdE a b c d o)),(1,.lst 5 n (bdE a b c d o)),(5,b6 i)]) (fun _=>⟨0,.nil⟩) fun _=>none)) noL 20
 [.lst 5 n (bdE a b c d o),.lst 5 n (bdE a b c d o)] (.bool true)
end Go.Proofs.Ytpdcajchppoocaa

set_option maxRecDepth 100000
namespace Go.Proofs.Ytpdcajchppoocaa
open Go Go.Lg
theorem spsG_vc (n:Nat) (a:Nat→Int) (b:Nat→Int):spsG n a b =
((¬(↑n:Int)=(↑n:Int)→false=true∧True)∧(¬¬(↑n:Int)=(↑n:Int)→(∃ (z:Nat),z≤n∧n=n∧(∀ (i:Nat),i<n→rE ((SV.agg [b6 (a i),b6 (b i)]).den)∧True∧True∧True)∧n=n∧(∀ (i:Nat),i<n→rE ((SV.agg [b6 (a i),b6 (b i)]).den)∧True∧True∧True)∧(0:Int)=(↑z:Int)∧True)∧∀ (z:Nat),z≤n→((↑z:Int)<(↑n:Int)→(0:Int)≤(↑z:Int)∧(↑z:Int)<(↑n:Int)∧(0:Int)≤(↑z:Int)∧(↑z:Int)<(↑n:Int)∧(¬(rE (a (↑z:Int).toNat)∧rE (b (↑z:Int).toNat))→false=true∧True)∧(¬¬(rE (a (↑z:Int).toNat)∧rE (b (↑z:Int).toNat))→rI ((↑z:Int)+(1:Int))∧∃ (z_1:Nat),z_1≤n∧n - z_1<n - z∧n=n∧(∀ (i:Nat),i<n→rE ((SV.agg [b6 (a i),b6 (b i)]).den)∧True∧True∧True)∧n=n∧(∀ (i:Nat),i<n→rE ((SV.agg [b6 (a i),b6 (b i)]).den)∧True∧True∧True)∧(↑z:Int)+(1:Int)=(↑z_1 :
Int)∧True))∧(¬(↑z:Int)<(↑n:Int)→rE true∧True))):=by kernel_rfl
theorem sbsG_vc (n:Nat) (a:Nat→Int) (b:Nat→Int) (c:Nat→Int) (d:Nat→Int) (o:Nat→Bool):sbsG n a b c d o =
((¬(↑n:Int)=(↑n:Int)→false=true∧True)∧(¬¬(↑n:Int)=(↑n:Int)→(∃ (z:Nat),z≤n∧n=n∧(∀ (i:Nat),i<n→rE ((bdE a b c d o i).den)∧True∧True∧True∧True∧True∧True)∧n=n∧(∀ (i:Nat),i<n→rE ((bdE a b c d o i).den)∧True∧True∧True∧True∧True∧True)∧(0:Int)=(↑z:Int)∧True)∧∀ (z:Nat),z≤n→((↑z:Int)<(↑n:Int)→(0:Int)≤(↑z:Int)∧(↑z:Int)<(↑n:Int)∧(0:Int)≤(↑z:Int)∧(↑z:Int)<(↑n:Int)∧(¬(rE (a (↑z:Int).toNat)∧rE (b (↑z:Int).toNat)∧rE (c (↑z:Int).toNat)∧rE (d (↑z:Int).toNat)∧(o (↑z:Int).toNat=true↔o (↑z:Int).toNat=true)∧True)→false=true∧True)∧(¬¬(rE (a (↑z:Int).toNat)∧rE (b (↑z:Int).toNat)∧rE (c (↑z:Int).toNat)∧rE (d (↑z:Int).toNat)∧(o (↑z:Int).toNat=true↔o (↑z:Int).toNat=true)∧True)→rI ((↑z:Int)+(1:Int))∧∃ (z_1 :
Nat),z_1≤n∧n - z_1<n - z∧n=n∧(∀ (i:Nat),i<n→rE ((bdE a b c d o i).den)∧True∧True∧True∧True∧True∧True)∧n=n∧(∀ (i:Nat),i<n→rE ((bdE a b c d o i).den)∧True∧True∧True∧True∧True∧True)∧(↑z:Int)+(1:Int)=(↑z_1:Int)∧True))∧(¬(↑z:Int)<(↑n:Int)→rE true∧True))):=by kernel_rfl
end Go.Proofs.Ytpdcajchppoocaa

set_option maxRecDepth 100000
namespace Go.Proofs.Ytpdcajchppoocaa
open Go Go.Lg
end Go.Proofs.Ytpdcajchppoocaa

set_option maxRecDepth 100000
namespace Go.Proofs.Ytpdcajchppoocaa
open Go Go.Lg
attribute [local irreducible] bodyH
theorem sps_true {n:Nat} (hn:n≤1000000) (a b:Nat→Int):spsG n a b:=by
 rw [spsG_vc]
 simp only [rI,rE,tt3,tt4,tt5,tt13,tt14,and_true,true_and,Nat.zero_lt_one,and_self,implies_true,Int.toNat_natCast,Classical.not_not,iff_self,Bool.false_eq_true,imp_false,and_imp,true_implies]
 exact ⟨⟨0,Nat.zero_le _,rfl⟩,fun z hz hl=>⟨by omega,hl,by omega,hl,by omega,z+1,by omega,by omega,by omega⟩⟩
theorem sbs_true {n:Nat} (hn:n≤1000000) (a b c d:Nat→Int) (o:Nat→Bool):sbsG n a b c d o:=by
 rw [sbsG_vc]
 simp only [rI,rE,tt3,tt4,tt5,tt13,tt14,and_true,true_and,Nat.zero_lt_one,and_self,implies_true,Int.toNat_natCast,Classical.not_not,iff_self,Bool.false_eq_true,imp_false,and_imp,true_implies]
 exact ⟨⟨0,Nat.zero_le _,rfl⟩,fun z hz hl=>⟨by omega,hl,by omega,hl,by omega,z+1,by omega,by omega,by omega⟩⟩
end Go.Proofs.Ytpdcajchppoocaa
