import Derived.Test.YtpdcajchppoocaaXb5Xb6
set_option linter.unusedVariables false
set_option linter.unusedSimpArgs false
set_option maxRecDepth 100000
namespace Go.Proofs.Ytpdcajchppoocaa
open Go Go.Lg
attribute [local irreducible] bodyH
noncomputable def spsG (n:Nat) (a b:Nat→Int):Prop:=funH Try.prog (ctrs []) noX (ictrs []) (oneL 0 (natH (fun i=>i≤n) (fun i=>n - i) 0 (fun i=>mkF 26 [(0,.lst 2 n fun k=>.agg [b6 (a k),b6 (b k)]),(1,.lst 2 n fun k=>.agg [b6 (a k),b6 (b k)]),(5,b6 i)]) (fun _=>⟨0,.nil⟩) fun _=>none)) noL 19
 [.lst 2 n fun k=>.agg [b6 (a k),b6 (b k)],.lst 2 n fun k=>.agg [b6 (a k),b6 (b k)]] (.bool true)
noncomputable def spzG:Prop:=funH Try.prog (ctrs []) noX (ictrs []) (oneL 0 (unrH 1)) noL 19 [nlS,nlS] (.bool true)
noncomputable def bdE (a b c d:Nat→Int) (o:Nat→Bool) (k:Nat):SV:=.agg [b6 (a k),b6 (b k),b6 (c k),b6 (d k),.dec (o k=true) inferInstance]
noncomputable def sbsG (n:Nat) (a b c d:Nat→Int) (o:Nat→Bool):Prop:=funH Try.prog (ctrs []) noX (ictrs []) (oneL 0 (natH (fun i=>i≤n) (fun i=>n - i) 0 (fun i=>mkF 26 [(0,.lst 5 n (bdE a b c d o)),(1,.lst 5 n (bdE a b c d o)),(5,b6 i)]) (fun _=>⟨0,.nil⟩) fun _=>none)) noL 20
 [.lst 5 n (bdE a b c d o),.lst 5 n (bdE a b c d o)] (.bool true)
noncomputable def sbzG:Prop:=funH Try.prog (ctrs []) noX (ictrs []) (oneL 0 (unrH 1)) noL 20 [nlS,nlS] (.bool true)
noncomputable def spsC:Ctr:=⟨19,fun args k=>match args with
 | [.lst 2 n f,.lst 2 m g]=>(n=m∧n≤1000000∧∃ a b:Nat→Int,(f=fun k=>.agg [b6 (a k),b6 (b k)])∧g=fun k=>.agg [b6 (a k),b6 (b k)])∧k (.bool true)
 | [.val (.slice none 0 0),.val (.slice none 0 0)]=>k (.bool true)
 | _=>False⟩
noncomputable def sbsC:Ctr:=⟨20,fun args k=>match args with
 | [.lst 5 n f,.lst 5 m g]=>(n=m∧n≤1000000∧∃ (a b c d:Nat→Int) (o:Nat→Bool),SV.lst 5 n f=.lst 5 n (bdE a b c d o)∧SV.lst 5 m g=.lst 5 n (bdE a b c d o))∧k (.bool true)
 | [.val (.slice none 0 0),.val (.slice none 0 0)]=>k (.bool true)
 | _=>False⟩
noncomputable def ruLG (T:Tn) (w:Nat→Bool):Prop:=funH Try.prog (ctrsF [rrC,bsC] (ctrs [grC,alvC,spsC,sbsC,ruC,bdC])) noX (ictrs []) noL noL 3 [tV T,twL T.nl w] (.bool true)
noncomputable def ruBG (T:Tn) (n:Nat) (w:Nat→Bool):Prop:=funH Try.prog (ctrsF [rrD,bsD] (ctrs [grC,alvC,spsC,sbsC,ruD,bdD])) noX (ictrs []) noL noL 3 [tV T,twL n w] (.bool true)
end Go.Proofs.Ytpdcajchppoocaa

set_option maxRecDepth 100000
namespace Go.Proofs.Ytpdcajchppoocaa
open Go Go.Lg
theorem spsG_vc (n:Nat) (a:Nat→Int) (b:Nat→Int):spsG n a b =
((¬(↑n:Int)=(↑n:Int)→false=true∧True)∧(¬¬(↑n:Int)=(↑n:Int)→(∃ (z:Nat),z≤n∧n=n∧(∀ (i:Nat),i<n→rE ((SV.agg [b6 (a i),b6 (b i)]).den)∧True∧True∧True)∧n=n∧(∀ (i:Nat),i<n→rE ((SV.agg [b6 (a i),b6 (b i)]).den)∧True∧True∧True)∧(0:Int)=(↑z:Int)∧True)∧∀ (z:Nat),z≤n→((↑z:Int)<(↑n:Int)→(0:Int)≤(↑z:Int)∧(↑z:Int)<(↑n:Int)∧(0:Int)≤(↑z:Int)∧(↑z:Int)<(↑n:Int)∧(¬(rE (a (↑z:Int).toNat)∧rE (b (↑z:Int).toNat))→false=true∧True)∧(¬¬(rE (a (↑z:Int).toNat)∧rE (b (↑z:Int).toNat))→rI ((↑z:Int)+(1:Int))∧∃ (z_1:Nat),z_1≤n∧n - z_1<n - z∧n=n∧(∀ (i:Nat),i<n→rE ((SV.agg [b6 (a i),b6 (b i)]).den)∧True∧True∧True)∧n=n∧(∀ (i:Nat),i<n→rE ((SV.agg [b6 (a i),b6 (b i)]).den)∧True∧True∧True)∧(↑z:Int)+(1:Int)=(↑z_1 :
Int)∧True))∧(¬(↑z:Int)<(↑n:Int)→rE true∧True))):=by kernel_rfl
theorem spzG_vc :spzG  =
((¬(↑(0:Nat):Int)=(↑(0:Nat):Int)→false=true∧True) ∧
 (¬¬(↑(0:Nat):Int)=(↑(0:Nat):Int) →
  ((0:Int)<(↑(0:Nat):Int)→False)∧(¬(0:Int)<(↑(0:Nat):Int)→true=true∧True))):=by kernel_rfl
theorem sbsG_vc (n:Nat) (a:Nat→Int) (b:Nat→Int) (c:Nat→Int) (d:Nat→Int) (o:Nat→Bool):sbsG n a b c d o =
((¬(↑n:Int)=(↑n:Int)→false=true∧True)∧(¬¬(↑n:Int)=(↑n:Int)→(∃ (z:Nat),z≤n∧n=n∧(∀ (i:Nat),i<n→rE ((bdE a b c d o i).den)∧True∧True∧True∧True∧True∧True)∧n=n∧(∀ (i:Nat),i<n→rE ((bdE a b c d o i).den)∧True∧True∧True∧True∧True∧True)∧(0:Int)=(↑z:Int)∧True)∧∀ (z:Nat),z≤n→((↑z:Int)<(↑n:Int)→(0:Int)≤(↑z:Int)∧(↑z:Int)<(↑n:Int)∧(0:Int)≤(↑z:Int)∧(↑z:Int)<(↑n:Int)∧(¬(rE (a (↑z:Int).toNat)∧rE (b (↑z:Int).toNat)∧rE (c (↑z:Int).toNat)∧rE (d (↑z:Int).toNat)∧(o (↑z:Int).toNat=true↔o (↑z:Int).toNat=true)∧True)→false=true∧True)∧(¬¬(rE (a (↑z:Int).toNat)∧rE (b (↑z:Int).toNat)∧rE (c (↑z:Int).toNat)∧rE (d (↑z:Int).toNat)∧(o (↑z:Int).toNat=true↔o (↑z:Int).toNat=true)∧True)→rI ((↑z:Int)+(1:Int))∧∃ (z_1 :
Nat),z_1≤n∧n - z_1<n - z∧n=n∧(∀ (i:Nat),i<n→rE ((bdE a b c d o i).den)∧True∧True∧True∧True∧True∧True)∧n=n∧(∀ (i:Nat),i<n→rE ((bdE a b c d o i).den)∧True∧True∧True∧True∧True∧True)∧(↑z:Int)+(1:Int)=(↑z_1:Int)∧True))∧(¬(↑z:Int)<(↑n:Int)→rE true∧True))):=by kernel_rfl
theorem sbzG_vc :sbzG  =
((¬(↑(0:Nat):Int)=(↑(0:Nat):Int)→false=true∧True) ∧
 (¬¬(↑(0:Nat):Int)=(↑(0:Nat):Int) →
  ((0:Int)<(↑(0:Nat):Int)→False)∧(¬(0:Int)<(↑(0:Nat):Int)→true=true∧True))):=by kernel_rfl
end Go.Proofs.Ytpdcajchppoocaa

set_option maxRecDepth 100000
namespace Go.Proofs.Ytpdcajchppoocaa
open Go Go.Lg
theorem ruLG_vc (T:Tn) (w:Nat→Bool):ruLG T w=((0:Nat)<(1:Nat)∧(∀ (i:Nat),i<T.1→True∧True∧True∧True)∧(∀ (i:Nat),i<T.10→True∧True∧True)∧∃ T_1,tV T=tV T_1∧((16:Int)<(↑T_1.nl:Int)∧T_1.nl≤(16:Nat)∨(24:Nat)<T_1.nl∨(9:Nat)<T_1.nb→rE true∧True)∧(¬((16:Int)<(↑T_1.nl:Int)∧T_1.nl≤(16:Nat)∨(24:Nat)<T_1.nl∨(9:Nat)<T_1.nb)→((30:Int)<(↑T.10:Int)→rE true∧True)∧(¬(30:Int)<(↑T.10:Int)→(0:Nat)<(1:Nat)∧(∀ (i:Nat),i<T.1→True∧True∧True∧True)∧(∀ (i:Nat),i<T.10 →
True∧True∧True)∧(∀ (i:Nat),i<T.10→True)∧∃ T_2 w_1,(tV T=tV T_2∧(twL T.nl w)=twL T_2.nl w_1∧okR T_2 w_1)∧(0:Nat)<(1:Nat)∧(∀ (i:Nat),i<T.1→True∧True∧True∧True)∧(∀ (i:Nat),i<T.10→True∧True∧True)∧(∀ (i:Nat),i<T.10→True)∧∃ T_3 w_2,(tV T=tV T_3∧(twL T.nl w)=twL T_3.nl w_2∧okR T_3 w_2)∧(0:Nat)<(1:Nat)∧(∀ (i:Nat),i<T.1→True∧True∧True∧True)∧(∀ (i:Nat),i<T.10→True∧True∧True)∧(∀ (i:Nat),i<T.10→True)∧∃ T_4 w_3,(tV T=tV T_4∧(twL T.nl w)=twL T_4.nl w_3∧okR T_4 w_3)∧(0 :
Nat)<(1:Nat)∧(∀ (i:Nat),i<T.1→True∧True∧True∧True)∧(∀ (i:Nat),i<T.10→True∧True∧True)∧(∀ (i:Nat),i<T.10→True)∧∃ T_5 w_4,(tV T=tV T_5∧(twL T.nl w)=twL T_5.nl w_4∧okR T_5 w_4)∧(∀ (i:Nat),i<T_2.10→True∧True∧True)∧(∀ (i:Nat),i<T_3.10→True∧True∧True)∧(T_2.10=T_3.10∧T_2.10≤(1000000:Nat)∧∃ (a b:Nat→Int),((fun k=>SV.agg [b6 (loA T_2 w_1 k),b6 (hiA T_2 w_1 k)])=fun k=>SV.agg [b6 (a k),b6 (b k)])∧(fun k=>SV.agg [b6 (loA T_3 w_2 k),b6 (hiA T_3 w_2 k)])=fun k=>SV.agg [b6 (a k),b6 (b k)]) ∧
((↑T_2.10:Int)=(↑T_3.10:Int)→(rE (0:Int)→(∀ (i:Nat),i<T_4.1→True∧True∧True∧True∧True∧True)∧(∀ (i:Nat),i<T_5.1→True∧True∧True∧True∧True∧True)∧(T_4.1=T_5.1∧T_4.1≤(1000000:Nat)∧∃ (a b c d:Nat→Int) (o:Nat→Bool),(SV.lst (5:Nat) T_4.nb fun k=>SV.agg [b6 ((fsA T_4 w_3 (coL T_4)).bx k),b6 ((fsA T_4 w_3 (coL T_4)).fo k),b6 ((fsA T_4 w_3 (coH T_4 (0:Int))).fo k),b6 ((fsA T_4 w_3 (coL T_4)).rv k),SV.dec ((fsA T_4 w_3 (coL T_4)).n≤(↑k:Int)) inferInstance])=SV.lst (5:Nat) T_4.nb (bdE a b c d o)∧(SV.lst (5:Nat)
T_5.nb fun k=>SV.agg [b6 ((fsA T_5 w_4 (coL T_5)).bx k),b6 ((fsA T_5 w_4 (coL T_5)).fo k),b6 ((fsA T_5 w_4 (coH T_5 (0:Int))).fo k),b6 ((fsA T_5 w_4 (coL T_5)).rv k),SV.dec ((fsA T_5 w_4 (coL T_5)).n≤(↑k:Int)) inferInstance])=SV.lst (5:Nat) T_4.nb (bdE a b c d o))∧(rE (0:Int)→rE true∧True)∧(¬(0:Int)=(0:Int)→false=true∧True))∧(¬(0:Int)=(0:Int)→false=true∧True))∧(¬(↑T_2.10:Int)=(↑T_3.10:Int)→false=true∧True)))):=by kernel_rfl
theorem ruBG_vc (T:Tn) (n:Nat) (w:Nat→Bool):ruBG T n w=((0:Nat)<(1:Nat)∧(∀ (i:Nat),i<T.1→True∧True∧True∧True)∧(∀ (i:Nat),i<T.10→True∧True∧True)∧∃ T_1,tV T=tV T_1∧((16:Int)<(↑T_1.nl:Int)∧T_1.nl≤(16:Nat)∨(24:Nat)<T_1.nl∨(9:Nat)<T_1.nb→rE true∧True)∧(¬((16:Int)<(↑T_1.nl:Int)∧T_1.nl≤(16:Nat)∨(24:Nat)<T_1.nl∨(9:Nat)<T_1.nb)→((30:Int)<(↑n:Int)→rE true∧True)∧(¬(30:Int)<(↑n:Int)→(0:Nat)<(1:Nat)∧(∀ (i:Nat),i<T.1→True∧True∧True∧True)∧(∀ (i:Nat),i <
T.10→True∧True∧True)∧(∀ (i:Nat),i<n→True)∧∃ T_2 w_1,(tV T=tV T_2∧(twL n w)=twL n w_1∧(chE T_2 n w_1=(0:Int)→False))∧(0:Nat)<(1:Nat)∧(∀ (i:Nat),i<T.1→True∧True∧True∧True)∧(∀ (i:Nat),i<T.10→True∧True∧True)∧(∀ (i:Nat),i<n→True)∧∃ T_3 w_2,(tV T=tV T_3∧(twL n w)=twL n w_2∧(chE T_3 n w_2=(0:Int)→False))∧(0:Nat)<(1:Nat)∧(∀ (i:Nat),i<T.1→True∧True∧True∧True)∧(∀ (i:Nat),i<T.10→True∧True∧True)∧(∀ (i:Nat),i<n→True)∧∃ T_4 w_3,(tV T=tV T_4∧(twL n w)=twL n w_3
∧ (chE T_4 n w_3=(0:Int)→False))∧(0:Nat)<(1:Nat)∧(∀ (i:Nat),i<T.1→True∧True∧True∧True)∧(∀ (i:Nat),i<T.10→True∧True∧True)∧(∀ (i:Nat),i<n→True)∧∃ T_5 w_4,(tV T=tV T_5∧(twL n w)=twL n w_4∧(chE T_5 n w_4=(0:Int)→False))∧(chH T_2 n w_1=chH T_3 n w_2→(chE T_2 n w_1=chE T_3 n w_2→(chE T_4 n w_3=chE T_5 n w_4→rE true∧True)∧(¬chE T_4 n w_3=chE T_5 n w_4→false=true∧True))∧(¬chE T_2 n w_1=chE T_3 n w_2→false=true∧True))∧(¬chH T_2 n w_1=chH T_3 n w_2→false=true∧True)))):=by kernel_rfl
end Go.Proofs.Ytpdcajchppoocaa

set_option maxRecDepth 100000
namespace Go.Proofs.Ytpdcajchppoocaa
open Go Go.Lg
attribute [local irreducible] bodyH
theorem sps_true {n:Nat} (hn:n≤1000000) (a b:Nat→Int):spsG n a b:=by
 rw [spsG_vc]
 simp only [rI,rE,tt3,tt4,tt5,tt13,tt14,and_true,true_and,Nat.zero_lt_one,and_self,implies_true,Int.toNat_natCast,Classical.not_not,iff_self,Bool.false_eq_true,imp_false,and_imp,true_implies]
 exact ⟨⟨0,Nat.zero_le _,rfl⟩,fun z hz hl=>⟨by omega,hl,by omega,hl,by omega,z+1,by omega,by omega,by omega⟩⟩
theorem spz_true:spzG:=by
 rw [spzG_vc]
 simp only [rI,rE,tt3,tt4,tt5,tt13,tt14,and_true,true_and,Nat.zero_lt_one,and_self,implies_true,Int.toNat_natCast,Classical.not_not,iff_self,Bool.false_eq_true,imp_false,and_imp,true_implies]
 omega
theorem sbs_true {n:Nat} (hn:n≤1000000) (a b c d:Nat→Int) (o:Nat→Bool):sbsG n a b c d o:=by
 rw [sbsG_vc]
 simp only [rI,rE,tt3,tt4,tt5,tt13,tt14,and_true,true_and,Nat.zero_lt_one,and_self,implies_true,Int.toNat_natCast,Classical.not_not,iff_self,Bool.false_eq_true,imp_false,and_imp,true_implies]
 exact ⟨⟨0,Nat.zero_le _,rfl⟩,fun z hz hl=>⟨by omega,hl,by omega,hl,by omega,z+1,by omega,by omega,by omega⟩⟩
theorem sbz_true:sbzG:=by
 rw [sbzG_vc]
 simp only [rI,rE,tt3,tt4,tt5,tt13,tt14,and_true,true_and,Nat.zero_lt_one,and_self,implies_true,Int.toNat_natCast,Classical.not_not,iff_self,Bool.false_eq_true,imp_false,and_imp,true_implies]
 omega
theorem dec_eqP {p q:Prop} {i:Decidable p} {j:Decidable q} (h:p↔q):SV.dec p i=SV.dec q j:=by
 have e:=propext h
 subst e
 congr
 exact Subsingleton.elim _ _
end Go.Proofs.Ytpdcajchppoocaa
