import Derived.Test.YtpdcajchppoocaaEjVEkEkVElEm
set_option linter.unusedVariables false
set_option linter.unusedSimpArgs false
set_option maxRecDepth 100000
namespace Go.Proofs.Ytpdcajchppoocaa
open Go Go.Lg
local notation "Z0"=>(0:Int)
local notation "N0"=>(0:Nat)
local notation "N1"=>(1:Nat)
local notation "N2"=>(2:Nat)
local notation "N3"=>(3:Nat)
local notation "N4"=>(4:Nat)
theorem ruG_vc (T:Tn) (w:Nat→Bool):ruG T w=(N0<N1∧(∀ (i:Nat),i<T.1→True∧True∧True∧True)∧(∀ (i:Nat),i<T.10→True∧True∧True)∧(∀ (i:Nat),i<T.10→True)∧∃ (T_1:Tn) (w_1:Nat→Bool),(tV T=tV T_1∧twL T.nl w=twL T.nl w_1)∧(¬chE T_1 T.10 w_1=Z0→N0=T.10∧chH T_1 T.10 w_1=(↑T.10:Int)∧chE T_1 T.10 w_1=Z0∧True)∧(¬¬chE T_1 T.10 w_1=Z0→N0<N1∧(∀ (i:Nat),i<T.1→True∧True∧True∧True)∧(∀ (i:Nat),i<T.10→True∧True∧True)∧(∀ (i:Nat),i<T.10 →
True)∧∃ (T_2:Tn) (w_2:Nat→Bool),(tV T=tV T_2∧twL T.nl w=twL T_2.nl w_2)∧N0<N1∧(∀ (i:Nat),i<T_2.1→True∧True∧True∧True)∧(∀ (i:Nat),i<T_2.10→True∧True∧True)∧(∀ (i:Nat),i<T_2.10→True)∧∃ (T_3:Tn) (w_3:Nat→Bool),(crV T_2 w_2 clL=crV T_3 w_3 clL∧okT T_3)∧N0<N1∧(∀ (i:Nat),i<T_2.1→True∧True∧True∧True)∧(∀ (i:Nat),i<T_2.10→True∧True∧True)∧(∀ (i:Nat),i<T_2.10→True)∧∃ (T_4:Tn) (w_4:Nat→Bool),(crV T_2 w_2 (clH Z0)=crV T_4 w_4 (clH Z0)∧okT T_4
∧ Z0≤Z0∧Z0≤(10001:Int))∧Z0≤chH T_1 T.10 w_1∧chH T_1 T.10 w_1≤chH T_1 T.10 w_1∧chH T_1 T.10 w_1≤(1048576:Int)∧chH T_1 T.10 w_1*(↑(16:Nat):Int)≤(140737488355328:Int)∧(∃ (z:Nat),z≤T.10∧rE N0∧(chH T_1 T.10 w_1).toNat=T.10∧chH T_1 T.10 w_1=(↑T.10:Int)∧fwA T_3 w_3=fwA T w∧(∀ (i:Nat),i<fwA T w→(b6 (slA T_3 (tW w_3) (coL T_3) i)).den=(b6 (slA T (tW w) (coL T) i)).den∧True)∧fwA T_4 w_4=fwA T w∧(∀ (i:Nat),i<fwA T w→(b6 (slA T_4 (tW w_4) (coH T_4 Z0) i)).den=(b6 (slA T (tW w)
(coH T Z0) i)).den∧True)∧(↑(chH T_1 T.10 w_1).toNat:Int)=(↑T.10:Int)∧Z0=(↑z:Int)∧T.10=(chH T_1 T.10 w_1).toNat∧(∀ (i_1:Nat),i_1<T.10→rE N2∧(Z0=if i_1<z then loA T w i_1 else Z0)∧(Z0=if i_1<z then hiA T w i_1 else Z0)∧True)∧True)∧∀ (z:Nat),z≤T.10→((↑z:Int)<(↑T.10:Int)→Z0≤(↑z:Int)∧(↑z:Int)<(↑(fwA T w):Int)∧Z0≤(↑z:Int)∧(↑z:Int)<(↑(fwA T w):Int)∧Z0≤(↑z:Int)∧(↑z:Int)<(↑T.10:Int)∧N0+N2≤N2∧N0 +
(↑z:Int).toNat<T.10∧(∀ (i':Nat),rE true)∧rI ((↑z:Int)+(1:Int))∧∃ (z_1:Nat),z_1≤T.10∧T.10 - z_1<T.10 - z∧rE N0∧rE T.10∧rE (↑T.10:Int)∧rE (fwA T w)∧(∀ (i:Nat),i<fwA T w→rE ((b6 (slA T (tW w) (coL T) i)).den)∧True)∧rE (fwA T w)∧(∀ (i:Nat),i<fwA T w→rE ((b6 (slA T (tW w) (coH T Z0) i)).den)∧True)∧rE (↑T.10:Int)∧(↑z:Int)+(1:Int)=(↑z_1:Int)∧rE T.10∧(∀ (i_2:Nat),i_2<T.10→rE N2∧((if i_2=N0+(↑z:Int).toNat then slA T (tW w) (coL T) (↑z:Int).toNat else if i_2<z then loA T w
i_2 else Z0)=if i_2<z_1 then loA T w i_2 else Z0)∧((if i_2=N0+(↑z:Int).toNat then slA T (tW w) (coH T Z0) (↑z:Int).toNat else if i_2<z then hiA T w i_2 else Z0)=if i_2<z_1 then hiA T w i_2 else Z0)∧True)∧True)∧(¬(↑z:Int)<(↑T.10:Int)→rE T.10∧N0+T.10≤T.10∧(∀ (i_1:Nat),i_1<T.10→rE N2∧rE N2∧(if i_1+N0<z then loA T w (i_1+N0) else Z0)=loA T w i_1∧(if i_1+N0<z then hiA T w (i_1+N0) else Z0)=hiA T w i_1∧True)∧rE (↑T.10 :
Int)∧rE Z0∧True))):=by kernel_rfl
theorem bedG_vc (T:Tn) (w:Nat→Bool):bedG T w=(N0<N1∧(∀ (i:Nat),i<T.1→True∧True∧True∧True)∧(∀ (i:Nat),i<T.10→True∧True∧True)∧(∀ (i:Nat),i<T.10→True)∧∃ (T_1:Tn) (w_1:Nat→Bool),(tV T=tV T_1∧twL T.nl w=twL T.nl w_1)∧(¬chE T_1 T.10 w_1=Z0→N0=T.1∧chE T_1 T.10 w_1=Z0∧True)∧(¬¬chE T_1 T.10 w_1=Z0→N0<N1∧(∀ (i:Nat),i<T.1→True∧True∧True∧True)∧(∀ (i:Nat),i<T.10→True∧True∧True)∧(∀ (i:Nat),i<T.10→True)∧∃ (T_2:Tn) (w_2:Nat →
Bool),(tV T=tV T_2∧twL T.nl w=twL T_2.nl w_2)∧N0<N1∧(∀ (i:Nat),i<T_2.1→True∧True∧True∧True)∧(∀ (i:Nat),i<T_2.10→True∧True∧True)∧(∀ (i:Nat),i<T_2.10→True)∧∃ (T_3:Tn) (w_3:Nat→Bool),(crV T_2 w_2 clL=crV T_3 w_3 clL∧okT T_3)∧N0<N1∧(∀ (i:Nat),i<T_2.1→True∧True∧True∧True)∧(∀ (i:Nat),i<T_2.10→True∧True∧True)∧(∀ (i:Nat),i<T_2.10→True)∧∃ (T_4:Tn) (w_4:Nat→Bool),(crV T_2 w_2 (clH Z0)=crV T_4 w_4 (clH Z0)∧okT T_4∧Z0≤Z0∧(0 :
Int)≤(10001:Int))∧N0<N1∧Z0≤(↑T.1:Int)∧(↑T.1:Int)≤(↑T.1:Int)∧(↑T.1:Int)≤(1048576:Int)∧(↑T.1:Int)*(↑(40:Nat):Int)≤(140737488355328:Int)∧(∃ (z:Nat),z≤T.1∧rE N0∧rE N0∧rE N0∧rE N0∧rE N0∧(↑T.1:Int).toNat=T.1∧(↑(↑T.1:Int).toNat:Int)=(↑T.1:Int)∧Z0=(↑z:Int)∧(fsA T_3 w_3 (coL T_3)).1=(fsA T w (coL T)).1∧(fsA T_3 w_3 (coL T_3)).2=(fsA T w (coL T)).2∧(fsA T_3 w_3 (coL T_3)).3 N0=(fsA T w (coL T)).3 N0∧(fsA T_3 w_3 (coL T_3)).3 (1 :
Nat)=(fsA T w (coL T)).3 N1∧(fsA T_3 w_3 (coL T_3)).3 N2=(fsA T w (coL T)).3 N2∧(fsA T_3 w_3 (coL T_3)).3 N3=(fsA T w (coL T)).3 N3∧(fsA T_3 w_3 (coL T_3)).3 N4=(fsA T w (coL T)).3 N4∧(fsA T_3 w_3 (coL T_3)).4 N0=(fsA T w (coL T)).4 N0∧(fsA T_3 w_3 (coL T_3)).4 N1=(fsA T w (coL T)).4 N1∧(fsA T_3 w_3 (coL T_3)).4 N2=(fsA T w (coL T)).4 N2∧(fsA T_3 w_3 (coL T_3)).4 N3=(fsA T w (coL T)).4 N3∧(fsA T_3 w_3 (coL T_3)).4 N4=(fsA T w (coL T)).4 N4 ∧
(fsA T_3 w_3 (coL T_3)).5 N0=(fsA T w (coL T)).5 N0∧(fsA T_3 w_3 (coL T_3)).5 N1=(fsA T w (coL T)).5 N1∧(fsA T_3 w_3 (coL T_3)).5 N2=(fsA T w (coL T)).5 N2∧(fsA T_3 w_3 (coL T_3)).5 N3=(fsA T w (coL T)).5 N3∧(fsA T_3 w_3 (coL T_3)).5 N4=(fsA T w (coL T)).5 N4∧(fsA T_3 w_3 (coL T_3)).6 N0=(fsA T w (coL T)).6 N0∧(fsA T_3 w_3 (coL T_3)).6 N1=(fsA T w (coL T)).6 N1∧(fsA T_3 w_3 (coL T_3)).6 N2=(fsA T w (coL T)).6 N2∧(fsA T_3 w_3 (coL T_3)).6 N3 =
(fsA T w (coL T)).6 N3∧(fsA T_3 w_3 (coL T_3)).6 N4=(fsA T w (coL T)).6 N4∧(fsA T_4 w_4 (coH T_4 Z0)).1=(fsA T w (coH T Z0)).1∧(fsA T_4 w_4 (coH T_4 Z0)).2=(fsA T w (coH T Z0)).2∧(fsA T_4 w_4 (coH T_4 Z0)).3 N0=(fsA T w (coH T Z0)).3 N0∧(fsA T_4 w_4 (coH T_4 Z0)).3 N1=(fsA T w (coH T Z0)).3 N1∧(fsA T_4 w_4 (coH T_4 Z0)).3 N2=(fsA T w (coH T Z0)).3 N2∧(fsA T_4 w_4 (coH T_4 Z0)).3 N3=(fsA T w (coH T Z0)).3 (3 :
Nat)∧(fsA T_4 w_4 (coH T_4 Z0)).3 N4=(fsA T w (coH T Z0)).3 N4∧(fsA T_4 w_4 (coH T_4 Z0)).4 N0=(fsA T w (coH T Z0)).4 N0∧(fsA T_4 w_4 (coH T_4 Z0)).4 N1=(fsA T w (coH T Z0)).4 N1∧(fsA T_4 w_4 (coH T_4 Z0)).4 N2=(fsA T w (coH T Z0)).4 N2∧(fsA T_4 w_4 (coH T_4 Z0)).4 N3=(fsA T w (coH T Z0)).4 N3∧(fsA T_4 w_4 (coH T_4 Z0)).4 N4=(fsA T w (coH T Z0)).4 N4∧(fsA T_4 w_4 (coH T_4 Z0)).5 N0 =
(fsA T w (coH T Z0)).5 N0∧(fsA T_4 w_4 (coH T_4 Z0)).5 N1=(fsA T w (coH T Z0)).5 N1∧(fsA T_4 w_4 (coH T_4 Z0)).5 N2=(fsA T w (coH T Z0)).5 N2∧(fsA T_4 w_4 (coH T_4 Z0)).5 N3=(fsA T w (coH T Z0)).5 N3∧(fsA T_4 w_4 (coH T_4 Z0)).5 N4=(fsA T w (coH T Z0)).5 N4∧(fsA T_4 w_4 (coH T_4 Z0)).6 N0=(fsA T w (coH T Z0)).6 N0∧(fsA T_4 w_4 (coH T_4 Z0)).6 N1=(fsA T w (coH T Z0)).6 N1∧(fsA T_4 w_4
(coH T_4 Z0)).6 N2=(fsA T w (coH T Z0)).6 N2∧(fsA T_4 w_4 (coH T_4 Z0)).6 N3=(fsA T w (coH T Z0)).6 N3∧(fsA T_4 w_4 (coH T_4 Z0)).6 N4=(fsA T w (coH T Z0)).6 N4∧T.1=(↑T.1:Int).toNat∧(∀ (i_1:Nat),i_1<T.1→rE (5:Nat)∧(Z0=if i_1<z then (fsA T w (coL T)).3 i_1 else Z0)∧(Z0=if i_1<z then (fsA T w (coL T)).4 i_1 else Z0)∧(Z0=if i_1<z then (fsA T w (coH T Z0)).4 i_1 else Z0)∧(Z0=if i_1<z then (fsA T w (coL T)).5
i_1 else Z0)∧(false=true↔i_1<z∧(fsA T w (coL T)).2≤(↑i_1:Int))∧True)∧True)∧∀ (z:Nat),z≤T.1→((↑z:Int)<(↑T.1:Int)→Z0≤(↑z:Int)∧(↑z:Int)<(↑(5:Nat):Int)∧N0<N1∧N2+(↑z:Int).toNat*N1<(22:Nat)∧Z0≤(↑z:Int)∧(↑z:Int)<(↑(5:Nat):Int)∧N0<N1∧(7:Nat)+(↑z:Int).toNat*N1<(22:Nat)∧Z0≤(↑z:Int)∧(↑z:Int)<(↑(5:Nat):Int)∧N0<N1∧(7:Nat)+(↑z:Int).toNat*N1<(22:Nat)∧Z0≤(↑z:Int) ∧
(↑z:Int)<(↑(5:Nat):Int)∧N0<N1∧(12:Nat)+(↑z:Int).toNat*N1<(22:Nat)∧N0<N1∧Z0≤(↑z:Int)∧(↑z:Int)<(↑T.1:Int)∧N0+(5:Nat)≤(5:Nat)∧N0+(↑z:Int).toNat<T.1∧(∀ (i':Nat),rE true)∧rI ((↑z:Int)+(1:Int))∧∃ z_1,z_1≤T.1∧T.1 - z_1<T.1 - z∧rE N0∧rE N0∧rE N0∧rE N0∧rE N0∧T.1=T.1∧rE (↑T.1:Int)∧(↑z:Int)+(1:Int)=(↑z_1:Int)∧rE ((fsA T w (coL T)).1)∧rE ((fsA T w (coL T)).2)∧rE ((fsA T w (coL T)).3 N0) ∧
rE ((fsA T w (coL T)).3 N1)∧rE ((fsA T w (coL T)).3 N2)∧rE ((fsA T w (coL T)).3 N3)∧rE ((fsA T w (coL T)).3 N4)∧rE ((fsA T w (coL T)).4 N0)∧rE ((fsA T w (coL T)).4 N1)∧rE ((fsA T w (coL T)).4 N2)∧rE ((fsA T w (coL T)).4 N3)∧rE ((fsA T w (coL T)).4 N4)∧rE ((fsA T w (coL T)).5 N0)∧rE ((fsA T w (coL T)).5 N1)∧rE ((fsA T w (coL T)).5 N2)∧rE ((fsA T w (coL T)).5 N3)∧rE ((fsA T w (coL T)).5 N4)∧rE ((fsA T w (coL T)).6 N0)∧rE ((fsA T w (coL T)).6 N1)∧rE
((fsA T w (coL T)).6 N2)∧rE ((fsA T w (coL T)).6 N3)∧rE ((fsA T w (coL T)).6 N4)∧rE ((fsA T w (coH T Z0)).1)∧rE ((fsA T w (coH T Z0)).2)∧rE ((fsA T w (coH T Z0)).3 N0)∧rE ((fsA T w (coH T Z0)).3 N1)∧rE ((fsA T w (coH T Z0)).3 N2)∧rE ((fsA T w (coH T Z0)).3 N3)∧rE ((fsA T w (coH T Z0)).3 N4)∧rE ((fsA T w (coH T Z0)).4 N0)∧rE ((fsA T w (coH T Z0)).4 N1)∧rE ((fsA T w (coH T Z0)).4 N2)∧rE ((fsA T w (coH T Z0)).4 (3 :
Nat))∧rE ((fsA T w (coH T Z0)).4 N4)∧rE ((fsA T w (coH T Z0)).5 N0)∧rE ((fsA T w (coH T Z0)).5 N1)∧rE ((fsA T w (coH T Z0)).5 N2)∧rE ((fsA T w (coH T Z0)).5 N3)∧rE ((fsA T w (coH T Z0)).5 N4)∧rE ((fsA T w (coH T Z0)).6 N0)∧rE ((fsA T w (coH T Z0)).6 N1)∧rE ((fsA T w (coH T Z0)).6 N2)∧rE ((fsA T w (coH T Z0)).6 N3)∧rE ((fsA T w (coH T Z0)).6 N4)∧T.1=T.1∧(∀ (i_1:Nat),i_1<T.1→rE (5:Nat)∧((if i_1=(0 :
Nat)+(↑z:Int).toNat then cellZ (fsA T w (coL T)).sv.cells (N2+(↑z:Int).toNat*N1) else if i_1<z then (fsA T w (coL T)).3 i_1 else Z0)=if i_1<z_1 then (fsA T w (coL T)).3 i_1 else Z0)∧((if i_1=N0+(↑z:Int).toNat then cellZ (fsA T w (coL T)).sv.cells ((7:Nat)+(↑z:Int).toNat*N1) else if i_1<z then (fsA T w (coL T)).4 i_1 else Z0)=if i_1<z_1 then (fsA T w (coL T)).4 i_1 else Z0)∧((if i_1=N0+(↑z:Int).toNat then cellZ (fsA T w (coH T Z0)).sv.cells ((7:Nat)+(↑z:Int).toNat*(1 :
Nat)) else if i_1<z then (fsA T w (coH T Z0)).4 i_1 else Z0)=if i_1<z_1 then (fsA T w (coH T Z0)).4 i_1 else Z0)∧((if i_1=N0+(↑z:Int).toNat then cellZ (fsA T w (coL T)).sv.cells ((12:Nat)+(↑z:Int).toNat*N1) else if i_1<z then (fsA T w (coL T)).5 i_1 else Z0)=if i_1<z_1 then (fsA T w (coL T)).5 i_1 else Z0)∧(i_1=N0+(↑z:Int).toNat∧(fsA T w (coL T)).n≤(↑z:Int)∨¬i_1=N0+(↑z:Int).toNat∧i_1<z∧(fsA T w (coL T)).n≤(↑i_1:Int)↔i_1<z_1∧(fsA T w (coL T)).2≤(↑i_1 :
Int))∧True)∧True)∧(¬(↑z:Int)<(↑T.1:Int)→T.1=T.1∧N0+T.1≤T.1∧(∀ (i_1:Nat),i_1<T.1→rE (5:Nat)∧rE (5:Nat)∧(if i_1+N0<z then (fsA T w (coL T)).3 (i_1+N0) else Z0)=(fsA T w (coL T)).3 i_1∧(if i_1+N0<z then (fsA T w (coL T)).4 (i_1+N0) else Z0)=(fsA T w (coL T)).4 i_1∧(if i_1+N0<z then (fsA T w (coH T Z0)).4 (i_1+N0) else Z0)=(fsA T w (coH T Z0)).4 i_1∧(if i_1+N0<z then (fsA T w (coL T)).5 (i_1+N0) else Z0)=(fsA T w
(coL T)).5 i_1∧(i_1+N0<z∧(fsA T w (coL T)).2≤(↑(i_1+N0):Int)↔(fsA T w (coL T)).2≤(↑i_1:Int))∧True)∧rE Z0∧True))):=by kernel_rfl
end Go.Proofs.Ytpdcajchppoocaa

set_option maxRecDepth 100000
namespace Go.Proofs.Ytpdcajchppoocaa
open Go Go.Lg
attribute [local irreducible] bodyH
theorem put_i (f:Nat→Int) (z i:Nat):(if i=0+z then f z else if i<z then f i else 0)=if i<z+1 then f i else 0:=by
 by_cases h:i=z
 ·subst h; simp
 ·by_cases h1:i<z
  ·simp [h,h1,show i<z+1 by omega]
  ·simp [h,h1,show ¬ i<z+1 by omega]
theorem put_x {f:Nat→Int} {x:Int} {z:Nat} (h:x=f z) (i:Nat):(if i=0+z then x else if i<z then f i else 0)=if i<z+1 then f i else 0:=by
 rw [h]; exact put_i f z i
theorem cell_bx2 (s:St) {j:Nat} (hj:j<5):cellZ s.sv.cells (2+j*1)=s.bx j:=five (p:=fun j=>cellZ s.sv.cells (2+j*1)=s.bx j) rfl rfl rfl rfl rfl hj
theorem cell_fo2 (s:St) {j:Nat} (hj:j<5):cellZ s.sv.cells (7+j*1)=s.fo j:=five (p:=fun j=>cellZ s.sv.cells (7+j*1)=s.fo j) rfl rfl rfl rfl rfl hj
theorem cell_rv2 (s:St) {j:Nat} (hj:j<5):cellZ s.sv.cells (12+j*1)=s.rv j:=five (p:=fun j=>cellZ s.sv.cells (12+j*1)=s.rv j) rfl rfl rfl rfl rfl hj
theorem ru_true {T:Tn} {w:Nat→Bool} (hT:okT T) (hw:fwA T w=T.nl):ruG T w:=by
 rw [ruG_vc]
 simp only [rI,rE,tt3,tt4,tt5,tt13,tt14,and_true,true_and,implies_true]
 have hg:=ch_good (w:=w) hT rfl (by omega)
 refine ⟨by omega,T,w,⟨rfl,rfl⟩,fun h=>(h hg.2).elim,fun h=>?_⟩
 have hnl:=hT.nl
 obtain ⟨g1,-⟩:=hg
 have g2:(chH T T.nl w).toNat=T.nl:=by omega
 refine ⟨by omega,T,w,⟨rfl,rfl⟩,by omega,T,w,⟨rfl,hT⟩,by omega,T,w,⟨rfl,hT,by omega,by omega⟩,by omega,by omega,by omega,by omega,⟨0,by omega,g2,g1,rfl,fun i hi=>rfl,rfl,fun i hi=>rfl,by omega,rfl,g2.symm,fun i hi=>⟨rfl,rfl⟩⟩,fun z hz=>⟨fun hl=>?_,fun hl=>?_⟩⟩
 ·refine ⟨by omega,by omega,by omega,by omega,by omega,hl,by omega,by omega,by omega,z+1,by omega,by omega,by omega,fun i hi=>⟨put_i (loA T w) z i,put_i (hiA T w) z i⟩⟩
 ·obtain rfl:z=T.nl:=by omega
  exact ⟨by omega,fun i hi=>⟨if_pos hi,if_pos hi⟩⟩
theorem bed_true {T:Tn} {w:Nat→Bool} (hT:okT T) (hw:fwA T w=T.nl):bedG T w:=by
 rw [bedG_vc]
 simp only [rI,rE,tt3,tt4,tt5,tt13,tt14,and_true,true_and,implies_true]
 have hg:=ch_good (w:=w) hT rfl (by omega)
 have hnb:=hT.nb
 refine ⟨by omega,T,w,⟨rfl,rfl⟩,fun h=>(h hg.2).elim,fun h=>?_⟩
 refine ⟨by omega,T,w,⟨rfl,rfl⟩,by omega,T,w,⟨rfl,hT⟩,by omega,T,w,⟨rfl,hT,by omega,by omega⟩,by omega,by omega,by omega,by omega,by omega,⟨0,?_⟩,fun z hz=>⟨fun hl=>?_,fun hl=>?_⟩⟩
 ·and_intros
  all_goals first | rfl | omega | exact fun i hi=>⟨rfl,rfl,rfl,rfl,noF fun h=>by omega⟩
 ·have hz5:z<5:=by omega
  refine ⟨by omega,by omega,by omega,by omega,by omega,by omega,by omega,by omega,by omega,by omega,by omega,by omega,by omega,by omega,by omega,by omega,by omega,by omega,hl,by omega,by omega,by omega,z+1,by omega,by omega,by omega,fun i hi=>⟨put_x (cell_bx2 _ hz5) i,put_x (cell_fo2 _ hz5) i,put_x (cell_fo2 _ hz5) i,put_x (cell_rv2 _ hz5) i,?_⟩⟩
  constructor
  ·rintro (⟨h1,h2⟩ | ⟨h1,h2,h3⟩)
   ·have h1:i=0+z:=h1
    obtain rfl:i=z:=by omega
    exact ⟨by omega,h2⟩
   ·exact ⟨by omega,h3⟩
  ·rintro ⟨h1,h2⟩
   by_cases h3:i=z
   ·subst h3; exact .inl ⟨by show i=0+i; omega,h2⟩
   ·exact .inr ⟨by show ¬ i=0+z; omega,by omega,h2⟩
 ·obtain rfl:z=T.nb:=by omega
  exact ⟨by omega,fun i hi=>⟨if_pos hi,if_pos hi,if_pos hi,if_pos hi,⟨fun h=>h.2,fun h=>⟨hi,h⟩⟩⟩⟩
end Go.Proofs.Ytpdcajchppoocaa
