import Derived.Test.YtpdcajchppoocaaEjVEkEkVElEm
set_option linter.unusedVariables false
set_option linter.unusedSimpArgs false
set_option maxRecDepth 100000
namespace Go.Proofs.Ytpdcajchppoocaa
open Go Go.Lg
theorem ruG_vc (T:Tn) (w:Nat→Bool):ruG T w=((0:Nat)<(1:Nat)∧(∀ (i:Nat),i<T.1→True∧True∧True∧True)∧(∀ (i:Nat),i<T.10→True∧True∧True)∧(∀ (i:Nat),i<T.10→True)∧∃ (T_1:Tn) (w_1:Nat→Bool),(tV T=tV T_1∧twL T.nl w=twL T.nl w_1)∧(¬chE T_1 T.10 w_1=(0:Int)→(0:Nat)=T.10∧chH T_1 T.10 w_1=(↑T.10:Int)∧chE T_1 T.10 w_1=(0:Int)∧True)∧(¬¬chE T_1 T.10 w_1=(0:Int)→(0:Nat)<(1:Nat)∧(∀ (i:Nat),i<T.1→True∧True∧True∧True)∧(∀ (i:Nat),i<T.10→True∧True∧True)∧(∀ (i:Nat),i<T.10 →
True)∧∃ (T_2:Tn) (w_2:Nat→Bool),(tV T=tV T_2∧twL T.nl w=twL T_2.nl w_2)∧(0:Nat)<(1:Nat)∧(∀ (i:Nat),i<T_2.1→True∧True∧True∧True)∧(∀ (i:Nat),i<T_2.10→True∧True∧True)∧(∀ (i:Nat),i<T_2.10→True)∧∃ (T_3:Tn) (w_3:Nat→Bool),(crV T_2 w_2 clL=crV T_3 w_3 clL∧okT T_3)∧(0:Nat)<(1:Nat)∧(∀ (i:Nat),i<T_2.1→True∧True∧True∧True)∧(∀ (i:Nat),i<T_2.10→True∧True∧True)∧(∀ (i:Nat),i<T_2.10→True)∧∃ (T_4:Tn) (w_4:Nat→Bool),(crV T_2 w_2 (clH (0:Int))=crV T_4 w_4 (clH (0:Int))∧okT T_4
∧ (0:Int)≤(0:Int)∧(0:Int)≤(10001:Int))∧(0:Int)≤chH T_1 T.10 w_1∧chH T_1 T.10 w_1≤chH T_1 T.10 w_1∧chH T_1 T.10 w_1≤(1048576:Int)∧chH T_1 T.10 w_1*(↑(16:Nat):Int)≤(140737488355328:Int)∧(∃ (z:Nat),z≤T.10∧rE (0:Nat)∧(chH T_1 T.10 w_1).toNat=T.10∧chH T_1 T.10 w_1=(↑T.10:Int)∧fwA T_3 w_3=fwA T w∧(∀ (i:Nat),i<fwA T w→(b6 (slA T_3 (tW w_3) (coL T_3) i)).den=(b6 (slA T (tW w) (coL T) i)).den∧True)∧fwA T_4 w_4=fwA T w∧(∀ (i:Nat),i<fwA T w→(b6 (slA T_4 (tW w_4) (coH T_4 (0:Int)) i)).den=(b6 (slA T (tW w)
(coH T (0:Int)) i)).den∧True)∧(↑(chH T_1 T.10 w_1).toNat:Int)=(↑T.10:Int)∧(0:Int)=(↑z:Int)∧T.10=(chH T_1 T.10 w_1).toNat∧(∀ (i_1:Nat),i_1<T.10→rE (2:Nat)∧((0:Int)=if i_1<z then loA T w i_1 else (0:Int))∧((0:Int)=if i_1<z then hiA T w i_1 else (0:Int))∧True)∧True)∧∀ (z:Nat),z≤T.10→((↑z:Int)<(↑T.10:Int)→(0:Int)≤(↑z:Int)∧(↑z:Int)<(↑(fwA T w):Int)∧(0:Int)≤(↑z:Int)∧(↑z:Int)<(↑(fwA T w):Int)∧(0:Int)≤(↑z:Int)∧(↑z:Int)<(↑T.10:Int)∧(0:Nat)+(2:Nat)≤(2:Nat)∧(0:Nat) +
(↑z:Int).toNat<T.10∧(∀ (i':Nat),rE true)∧rI ((↑z:Int)+(1:Int))∧∃ (z_1:Nat),z_1≤T.10∧T.10 - z_1<T.10 - z∧rE (0:Nat)∧rE T.10∧rE (↑T.10:Int)∧rE (fwA T w)∧(∀ (i:Nat),i<fwA T w→rE ((b6 (slA T (tW w) (coL T) i)).den)∧True)∧rE (fwA T w)∧(∀ (i:Nat),i<fwA T w→rE ((b6 (slA T (tW w) (coH T (0:Int)) i)).den)∧True)∧rE (↑T.10:Int)∧(↑z:Int)+(1:Int)=(↑z_1:Int)∧rE T.10∧(∀ (i_2:Nat),i_2<T.10→rE (2:Nat)∧((if i_2=(0:Nat)+(↑z:Int).toNat then slA T (tW w) (coL T) (↑z:Int).toNat else if i_2<z then loA T w
i_2 else (0:Int))=if i_2<z_1 then loA T w i_2 else (0:Int))∧((if i_2=(0:Nat)+(↑z:Int).toNat then slA T (tW w) (coH T (0:Int)) (↑z:Int).toNat else if i_2<z then hiA T w i_2 else (0:Int))=if i_2<z_1 then hiA T w i_2 else (0:Int))∧True)∧True)∧(¬(↑z:Int)<(↑T.10:Int)→rE T.10∧(0:Nat)+T.10≤T.10∧(∀ (i_1:Nat),i_1<T.10→rE (2:Nat)∧rE (2:Nat)∧(if i_1+(0:Nat)<z then loA T w (i_1+(0:Nat)) else (0:Int))=loA T w i_1∧(if i_1+(0:Nat)<z then hiA T w (i_1+(0:Nat)) else (0:Int))=hiA T w i_1∧True)∧rE (↑T.10 :
Int)∧rE (0:Int)∧True))):=by kernel_rfl
theorem ruB_vc (T:Tn) (n:Nat) (w:Nat→Bool):ruB T n w=((0:Nat)<(1:Nat)∧(∀ (i:Nat),i<T.1→True∧True∧True∧True)∧(∀ (i:Nat),i<T.10→True∧True∧True)∧(∀ (i:Nat),i<n→True)∧∃ (T_1:Tn) (w_1:Nat→Bool),(tV T=tV T_1∧twL n w=twL n w_1)∧(¬chE T_1 n w_1=(0:Int)→rE (Value.slice none (0:Nat) (0:Nat))∧chH T_1 n w_1=chH T n w∧chE T_1 n w_1=chE T n w∧True)∧(¬¬chE T_1 n w_1=(0:Int)→(0:Nat)<(1:Nat)∧(∀ (i:Nat),i<T.1→True∧True∧True∧True)∧(∀ (i:Nat),i<T.10→True∧True∧True)∧(∀ (i:Nat),
i<n→True)∧∃ (T_2:Tn) (w_2:Nat→Bool),(tV T=tV T_2∧twL n w=twL T_2.nl w_2)∧(0:Nat)<(1:Nat)∧(∀ (i:Nat),i<T_2.1→True∧True∧True∧True)∧(∀ (i:Nat),i<T_2.10→True∧True∧True)∧(∀ (i:Nat),i<T_2.10→True)∧∃ (T:Tn) (w:Nat→Bool),(crV T_2 w_2 clL=crV T w clL∧okT T)∧(0:Nat)<(1:Nat)∧(∀ (i:Nat),i<T_2.1→True∧True∧True∧True)∧(∀ (i:Nat),i<T_2.10→True∧True∧True)∧(∀ (i:Nat),i<T_2.10→True)∧∃ (T:Tn) (w:Nat→Bool),(crV T_2 w_2 (clH (0:Int))=crV T w (clH (0:Int))∧okT T∧(0:Int) ≤
(0:Int)∧(0:Int)≤(10001:Int))∧(0:Int)≤chH T_1 n w_1∧chH T_1 n w_1≤chH T_1 n w_1∧chH T_1 n w_1≤(1048576:Int)∧chH T_1 n w_1*(↑(16:Nat):Int)≤(140737488355328:Int)∧False)):=by kernel_rfl
end Go.Proofs.Ytpdcajchppoocaa

set_option maxRecDepth 100000
namespace Go.Proofs.Ytpdcajchppoocaa
open Go Go.Lg
attribute [local irreducible] bodyH
theorem ruB_true (T:Tn) (n:Nat) (w:Nat→Bool) (h:chE T n w≠0):ruB T n w:=by
 rw [ruB_vc]
 simp only [rI,rE,tt3,tt4,tt5,tt13,tt14,rI,rE,tt3,tt4,tt5,tt13,tt14,rI,rE,tt3,tt4,tt5,tt13,tt14,and_true,true_and,implies_true]
 exact ⟨by omega,T,w,⟨rfl,rfl⟩,fun _=>⟨rfl,rfl⟩,fun hn=>(hn h).elim⟩
theorem put_i (f:Nat→Int) (z i:Nat):(if i=0+z then f z else if i<z then f i else 0)=if i<z+1 then f i else 0:=by
 by_cases h:i=z
 ·subst h; simp
 ·by_cases h1:i<z
  ·simp [h,h1,show i<z+1 by omega]
  ·simp [h,h1,show ¬ i<z+1 by omega]
theorem ru_true {T:Tn} {w:Nat→Bool} (hT:okT T) (hw:fwA T w=T.nl):ruG T w:=by
 rw [ruG_vc]
 simp only [rI,rE,tt3,tt4,tt5,tt13,tt14,rI,rE,tt3,tt4,tt5,tt13,tt14,rI,rE,tt3,tt4,tt5,tt13,tt14,and_true,true_and,implies_true]
 have hg:=ch_good (w:=w) hT rfl (by omega)
 refine ⟨by omega,T,w,⟨rfl,rfl⟩,fun h=>(h hg.2).elim,fun h=>?_⟩
 have hnl:=hT.nl
 obtain ⟨g1,-⟩:=hg
 have g2:(chH T T.nl w).toNat=T.nl:=by omega
 refine ⟨by omega,T,w,⟨rfl,rfl⟩,by omega,T,w,⟨rfl,hT⟩,by omega,T,w,⟨rfl,hT,by omega,by omega⟩,by omega,by omega,by omega,by omega,⟨0,by omega,g2,g1,rfl,fun i hi=>rfl,rfl,fun i hi=>rfl,by omega,rfl,g2.symm,fun i hi=>⟨rfl,rfl⟩⟩,fun z hz=>⟨fun hl=>?_,fun hl=>?_⟩⟩
 ·refine ⟨by omega,by omega,by omega,by omega,by omega,hl,by omega,by omega,by omega,z+1,by omega,by omega,by omega,fun i hi=>⟨put_i (loA T w) z i,put_i (hiA T w) z i⟩⟩
 ·obtain rfl:z=T.nl:=by omega
  exact ⟨by omega,fun i hi=>⟨if_pos hi,if_pos hi⟩⟩
end Go.Proofs.Ytpdcajchppoocaa
