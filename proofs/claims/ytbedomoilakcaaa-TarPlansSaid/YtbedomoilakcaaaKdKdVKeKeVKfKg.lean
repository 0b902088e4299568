import Derived.Test.YtbedomoilakcaaaJuJjJvJwKaKaVKbKc
import Derived.Test.YtbedomoilakcaaaJhJhVJitJi
set_option linter.unusedVariables false
set_option linter.unusedSimpArgs false
namespace Go.Proofs.Ytbedomoilakcaaa
open Go Go.Lg
attribute [local irreducible] bodyH funS
def boV:SV→Prop
 | .bool b=>b=true
 | .dec P _=>P
 | _=>False
def boF (f:Nat→SV) (i:Nat):Prop:=boV (f i)
noncomputable def boL (n:Nat) (P:Nat→Prop):SV:=.lst 1 n fun i=>.dec (P i) (Classical.propDecidable _)
open Classical in
noncomputable def nxI (sal:Nat→Sal) (P:Nat→Prop):Nat→Int
 | 0=>-1
 | k+1=>if P k∧(nxI sal P k<0∨(sal (nxI sal P k).toNat).price<(sal k).price) then k else nxI sal P k
noncomputable def nxG (Y:Yd) (P:Nat→Prop):Prop:=funH Try.prog (ctrs []) noX (ictrs []) (oneL 0 (natH (fun k=>k≤Y.q) (fun k=>Y.q - k) 1 (fun k=>mkF 38 [(1,boL Y.q P),(2,.ptr 0 0 0),(5,i6 (nxI Y.sal P k)),(6,i6 k)]) (fun _=>mkX [vr 3 Y.sv]) fun _=>none)) noL 35 [Y.sv,boL Y.q P] (i6 (nxI Y.sal P Y.q))
noncomputable def nxC':Ctr:=⟨35,fun args k=>match args with
 | [.agg [.lst 1 g st,.lst 5 m sti,.lst 3 q sal],.lst 1 n f]=>SV.agg [.lst 1 g st,.lst 5 m sti,.lst 3 q sal]=(ydOf g st m sti q sal).sv∧n=q∧q≤6∧SV.lst 1 n f=boL n (boF f)∧k (i6 (nxI (ydOf g st m sti q sal).sal (boF f) q))
 | _=>False⟩
end Go.Proofs.Ytbedomoilakcaaa

set_option maxRecDepth 100000
namespace Go.Proofs.Ytbedomoilakcaaa
open Go Go.Lg
theorem nxG_vc (Y:Yd) (P:Nat→Prop):nxG Y P =
((∃ (z:Nat),z≤Y.5∧Y.5=Y.5∧(∀ (i:Nat),i<Y.5→rE ((SV.dec (P i) (Classical.propDecidable (P i))).den)∧True)∧rE (0:Nat)∧rE (0:Nat)∧(-1:Int)=nxI Y.sal P z∧(0:Int)=(↑z:Int)∧Y.1=Y.1∧(∀ (i:Nat),i<Y.1→rE ((i6 (Y.st i)).den)∧True)∧Y.3=Y.3∧(∀ (i:Nat),i<Y.3→rE ((Y.sti i).sv.den)∧True∧True∧(∀ (i_1:Nat),i_1<(Y.sti i).3→True∧True∧True)∧True∧True∧True)∧Y.5=Y.5∧(∀ (i:Nat),i<Y.5→rE ((Y.sal i).sv.den)∧True∧True∧True∧True)∧True)∧∀ (z:Nat),z≤Y.5→((↑z:Int)<(↑Y.5:Int)→(0:Int)≤(↑z:Int)∧(↑z:Int)<(↑Y.5:Int)∧(P (↑z:Int).toNat→(nxI Y.sal P z<(0:Int)→rI ((↑z:Int)+(1:Int))∧∃ (z_1:Nat),z_1≤Y.5∧Y.5 - z_1<Y.5 - z∧Y.5=Y.5∧(∀ (i:Nat),i<Y.5→rE ((SV.dec (P i) (Classical.propDecidable (P i))).den)∧True)∧rE (0:Nat)∧rE (0:Nat) ∧
(↑z:Int)=nxI Y.sal P z_1∧(↑z:Int)+(1:Int)=(↑z_1:Int)∧Y.1=Y.1∧(∀ (i:Nat),i<Y.1→rE ((i6 (Y.st i)).den)∧True)∧Y.3=Y.3∧(∀ (i:Nat),i<Y.3→rE ((Y.sti i).sv.den)∧True∧True∧(∀ (i_1:Nat),i_1<(Y.sti i).3→True∧True∧True)∧True∧True∧True)∧Y.5=Y.5∧(∀ (i:Nat),i<Y.5→rE ((Y.sal i).sv.den)∧True∧True∧True∧True)∧True)∧(¬nxI Y.sal P z<(0:Int)→(0:Nat)<(1:Nat)∧(0:Int)≤(↑z:Int)∧(↑z:Int)<(↑Y.5:Int)∧(0:Nat)<(1:Nat)∧(0:Int)≤nxI Y.sal P z∧nxI Y.sal P z<(↑Y.5:Int)∧((Y.sal (nxI Y.sal P z).toNat).3<(Y.sal (↑z:Int).toNat).3→rI ((↑z:Int)+(1:Int))∧∃ (z_1:Nat),z_1≤Y.5∧Y.5 - z_1<Y.5 - z∧Y.5=Y.5∧(∀ (i:Nat),i<Y.5→rE ((SV.dec (P i) (Classical.propDecidable (P i))).den)∧True)∧rE (0:Nat)∧rE (0:Nat)∧(↑z:Int)=nxI Y.sal P z_1∧(↑z:Int) +
(1:Int)=(↑z_1:Int)∧Y.1=Y.1∧(∀ (i:Nat),i<Y.1→rE ((i6 (Y.st i)).den)∧True)∧Y.3=Y.3∧(∀ (i:Nat),i<Y.3→rE ((Y.sti i).sv.den)∧True∧True∧(∀ (i_1:Nat),i_1<(Y.sti i).3→True∧True∧True)∧True∧True∧True)∧Y.5=Y.5∧(∀ (i:Nat),i<Y.5→rE ((Y.sal i).sv.den)∧True∧True∧True∧True)∧True)∧(¬(Y.sal (nxI Y.sal P z).toNat).3<(Y.sal (↑z:Int).toNat).3→rI ((↑z:Int)+(1:Int))∧∃ (z_1:Nat),z_1≤Y.5∧Y.5 - z_1<Y.5 - z∧Y.5=Y.5∧(∀ (i:Nat),i<Y.5→rE ((SV.dec (P i) (Classical.propDecidable (P i))).den)∧True)∧rE (0:Nat)∧rE (0:Nat)∧nxI Y.sal P z=nxI Y.sal P z_1∧(↑z:Int)+(1:Int)=(↑z_1:Int)∧Y.1=Y.1∧(∀ (i:Nat),i<Y.1→rE ((i6 (Y.st i)).den)∧True)∧Y.3=Y.3∧(∀ (i:Nat),i<Y.3→rE ((Y.sti i).sv.den)∧True∧True∧(∀ (i_1:Nat),i_1<(Y.sti i).3→True∧True∧True) ∧
True∧True∧True)∧Y.5=Y.5∧(∀ (i:Nat),i<Y.5→rE ((Y.sal i).sv.den)∧True∧True∧True∧True)∧True)))∧(¬P (↑z:Int).toNat→rI ((↑z:Int)+(1:Int))∧∃ (z_1:Nat),z_1≤Y.5∧Y.5 - z_1<Y.5 - z∧Y.5=Y.5∧(∀ (i:Nat),i<Y.5→rE ((SV.dec (P i) (Classical.propDecidable (P i))).den)∧True)∧rE (0:Nat)∧rE (0:Nat)∧nxI Y.sal P z=nxI Y.sal P z_1∧(↑z:Int)+(1:Int)=(↑z_1:Int)∧Y.1=Y.1∧(∀ (i:Nat),i<Y.1→rE ((i6 (Y.st i)).den)∧True)∧Y.3=Y.3∧(∀ (i:Nat),i<Y.3→rE ((Y.sti i).sv.den)∧True∧True∧(∀ (i_1:Nat),i_1<(Y.sti i).3→True∧True∧True)∧True∧True∧True)∧Y.5=Y.5∧(∀ (i:Nat),i<Y.5→rE ((Y.sal i).sv.den)∧True∧True∧True∧True)∧True))∧(¬(↑z:Int)<(↑Y.5:Int)→nxI Y.sal P z=nxI Y.sal P Y.5∧True)):=by kernel_rfl
end Go.Proofs.Ytbedomoilakcaaa

namespace Go.Proofs.Ytbedomoilakcaaa
open Go Go.Lg
attribute [local irreducible] bodyH funS
def opP (Y:Yd) (k i:Nat):Prop:=∀ a,a<k→stF Y.sal Y.q a≠i
noncomputable def icX (Y:Yd) (n:Nat) (p:Nat→Int):CX:=inl Try.prog (ctrs [ydC 21,frC 33]) none (ictrs []) 15 (lrL Y n p [vr 3 Y.sv] 1) noL (lrX Y p [vr 3 Y.sv,vr 3 Y.sv] 2)
noncomputable def icR (Y:Yd) (n:Nat) (p:Nat→Int):SV:=.tup [i6 (inI Y n p),iL (inN Y n p) (inS Y p).s,i6 (erP Y n p)]
noncomputable def regK (nr:Nat) (ms:FS→XS→Ms) (t:FS) (X:XS) (D E:DS):HSpec :=
 { toLSpec:={ σ:=Unit,inv:=fun _=>True,μ:=fun _=>0,nr:=nr,ms:=ms,t:=fun _=>t,X:=fun _=>X,rd:=fun _ _ k=>k (),rdOK:=fun _ _ _ h=>⟨(),h⟩ },D:=D,E:=E }
noncomputable def icL (Y:Yd) (n:Nat) (p:Nat→Int):Nat→Option HSpec :=
 twoL 1009 (regK 4 (fun t _=>match sget 116 t 11,sget 116 t 12 with
   | .sl r _ _,.sl s _ _=>[some r,some s]
   | _,_=>[]) (mkF 116 [(2,.ptr 0 0 0),(7,.sl 3 0 Y.g),(9,i6 (-(plX Y p Y.m).c)),(11,.sl 4 0 Y.q),(12,.sl 5 0 Y.q)]) (mkX [vr 3 Y.sv,none,none,rw' 2 Y.g fun j=>((plX Y p Y.m).l j).sv,rw' 1 Y.q fun _=>i6 0,rw' 1 Y.q fun i=>.bool false]) [(1,0),(5,0)] []) <|
 twoL 0 (natH (fun k=>k≤n∧n=Y.m) (fun k=>n - k) 4 (fun k=>mkF 116 [(1,iL n p),(2,.ptr 0 0 0),(7,.sl 3 0 Y.g),(9,i6 (-(plX Y p k).c)),(10,i6 k)]) (fun _=>mkX [vr 3 Y.sv,none,none,rw' 2 Y.g fun j=>((plX Y p Y.m).l j).sv]) fun _=>none) <|
 twoL 2 (natH (fun k=>k≤Y.q) (fun k=>Y.q - k) 6 (fun k=>mkF 116 [(2,.ptr 0 0 0),(7,.sl 3 0 Y.g),(9,i6 (-(plX Y p Y.m).c)),(11,.sl 4 0 Y.q),(12,.sl 5 0 Y.q),(13,i6 k)]) (fun k=>mkX [vr 3 Y.sv,none,none,rw' 2 Y.g fun j=>((plX Y p Y.m).l j).sv,rw' 1 Y.q fun _=>i6 0,rw' 1 Y.q fun i=>.dec (i<k) (Classical.propDecidable _)]) fun _=>none) <|
 oneL 4 (natH (fun k=>k≤Y.q) (fun k=>Y.q - k) 6 (fun k=>mkF 116 [(2,.ptr 0 0 0),(7,.sl 3 0 Y.g),(9,i6 (-(plX Y p Y.m).c+(sS Y p k).c)),(11,.sl 4 0 Y.q),(12,.sl 5 0 Y.q),(14,i6 (nxI Y.sal (opP Y k) Y.q))]) (fun k=>mkX [vr 3 Y.sv,none,none,rw' 2 Y.g fun j=>((sS Y p k).l j).sv,rw' 1 Y.q fun i=>i6 ((sS Y p k).s i),rw' 1 Y.q fun i=>.dec (opP Y k i) (Classical.propDecidable _)]) fun _=>none)
noncomputable def icG (Y:Yd) (n:Nat) (p:Nat→Int):Prop:=funN Try.prog (ctrs [nxC']) (icX Y n p) (ictrs []) (icL Y n p) noL 17 [Y.sv,iL n p] (icR Y n p)
noncomputable def icC:Ctr:=⟨17,fun args k=>match args with
 | [.agg [.lst 1 g st,.lst 5 m sti,.lst 3 q sal],.lst 1 n p]=>SV.agg [.lst 1 g st,.lst 5 m sti,.lst 3 q sal]=(ydOf g st m sti q sal).sv∧SV.lst 1 n p=iL n (iOf p)∧k (icR (ydOf g st m sti q sal) n (iOf p))
 | _=>False⟩
end Go.Proofs.Ytbedomoilakcaaa

set_option maxRecDepth 100000
namespace Go.Proofs.Ytbedomoilakcaaa
open Go Go.Lg
def icG1 (Y:Yd):Prop:=(∀ (i:Nat),i<Y.3→rE ((Y.sti i).sv.den)∧True∧True∧(∀ (i_1:Nat),i_1<(Y.sti i).3→True∧True∧True)∧True∧True∧True)
def icG3 (Y:Yd):Prop:=(∀ (i:Nat),i<Y.5→rE ((Y.sal i).sv.den)∧True∧True∧True∧True)
def icG4 (Y:Yd) (p:Nat→Int):Prop:=(∀ (i:Nat),i<Y.1→rE (2:Nat)∧rE (((plX Y p Y.m).l i).1)∧rE (((plX Y p Y.m).l i).2)∧True)
def icG0 (Y:Yd) (n:Nat) (p:Nat→Int) (z:Nat):Prop:=(¬(↑z:Int)<(↑n:Int)→(True∧True∧True∧True∧(0:Nat)<(1:Nat)∧True∧True∧True∧True∧True∧True∧(0:Nat)<(1:Nat)∧True∧True∧(True∧True∧(0:Int)≤(↑Y.5:Int)∧(↑Y.5:Int)≤(↑Y.5:Int)∧(↑Y.5:Int)≤(1048576:Int)∧(↑Y.5:Int)*(↑(8:Nat):Int)≤(140737488355328:Int)∧True∧True∧(0:Int)≤(↑Y.5:Int)∧(↑Y.5:Int)≤(↑Y.5:Int)∧(↑Y.5:Int)≤(1048576:Int)∧(↑Y.5:Int)*(↑(1:Nat):Int)≤(140737488355328:Int)∧True∧True∧True∧True∧True∧rE (0:Nat)∧rE (0:Nat)∧rE (0:Nat)∧Y.1=Y.1∧-(plX Y p z).3=-(plX Y p Y.m).3∧rE (0:Nat)∧(↑Y.5:Int).toNat=Y.5∧rE (0:Nat)∧(↑Y.5:Int).toNat=Y.5∧Y.1=Y.1∧(∀ (i:Nat),i<Y.1→rE ((i6 (Y.st i)).den)∧True)∧Y.3=Y.3∧(icG1 Y)∧Y.5=Y.5∧(icG3 Y)∧Y.1=Y.1∧(icG4 Y p)∧Y.5=(↑Y.5:Int).toNat∧(∀ (i:Nat),i<Y.5→rE (1:Nat)∧rE (0:Int)∧True)∧Y.5=(↑Y.5:Int).toNat∧(∀ (i:Nat),i<Y.5→rE (1:Nat)∧rE false∧True)∧True)∧(True∧True∧(0:Int)≤(↑Y.5:Int)∧(↑Y.5:Int)≤(↑Y.5:Int)∧(↑Y.5:Int)≤(1048576:Int)∧(↑Y.5:Int)*(↑(1:Nat):Int)≤(140737488355328:Int)∧True∧True∧(0:Int)≤(↑Y.5:Int)∧(↑Y.5:Int)≤(↑Y.5:Int)∧(↑Y.5:Int)≤(1048576:Int)∧(↑Y.5:Int)*(↑(8:Nat):Int)≤(140737488355328:Int)∧True∧True∧True∧True∧True∧rE (0:Nat)∧rE (0:Nat)∧rE (0:Nat)∧Y.1=Y.1∧-(plX Y p z).3=-(plX Y p Y.m).3∧rE (0:Nat)∧(↑Y.5:Int).toNat=Y.5∧rE (0:Nat)∧(↑Y.5:Int).toNat=Y.5∧Y.1=Y.1∧(∀ (i:Nat),i<Y.1→rE ((i6 (Y.st i)).den)∧True)∧Y.3=Y.3∧(icG1 Y)∧Y.5=Y.5∧(icG3 Y)∧Y.1=Y.1∧(icG4 Y p)∧Y.5=(↑Y.5:Int).toNat∧(∀ (i:Nat),i<Y.5→rE (1:Nat)∧rE (0:Int)∧True)∧Y.5=(↑Y.5:Int).toNat∧(∀ (i:Nat),i<Y.5→rE (1:Nat)∧rE false∧True)∧True)∧True)∧∀ (zp4_0:Unit),True→(∃ (z:Nat),z≤Y.5∧rE (0:Nat)∧rE (0:Nat)∧rE (0:Nat)∧Y.1=Y.1∧rE (-(plX Y p Y.m).3)∧rE (0:Nat)∧Y.5=Y.5∧rE (0:Nat)∧Y.5=Y.5∧(0:Int)=(↑z:Int)∧Y.1=Y.1∧(∀ (i:Nat),i<Y.1→rE ((i6 (Y.st i)).den)∧True)∧Y.3=Y.3∧(icG1 Y)∧Y.5=Y.5∧(icG3 Y)∧Y.1=Y.1∧(icG4 Y p)∧Y.5=Y.5∧(∀ (i:Nat),i<Y.5→rE (1:Nat)∧rE (0:Int)∧True)∧Y.5=Y.5∧(∀ (i_1:Nat),i_1<Y.5→rE (1:Nat)∧(false=true↔i_1<z)∧True)∧True)∧∀ (z:Nat),z≤Y.5→((↑z:Int)<(↑Y.5:Int)→(0:Int)≤(↑z:Int)∧(↑z:Int)<(↑Y.5:Int)∧(0:Nat)+(1:Nat)≤(1:Nat)∧(0:Nat)+(↑z:Int).toNat<Y.5∧(∀ (i':Nat),rE true)∧rI ((↑z:Int)+(1:Int))∧∃ (z_1:Nat),z_1≤Y.5∧Y.5 - z_1<Y.5 - z∧rE (0:Nat)∧rE (0:Nat)∧rE (0:Nat)∧Y.1=Y.1∧rE (-(plX Y p Y.m).3)∧rE (0:Nat)∧Y.5=Y.5∧rE (0:Nat)∧Y.5=Y.5∧(↑z:Int)+(1:Int)=(↑z_1:Int)∧Y.1=Y.1∧(∀ (i:Nat),i<Y.1→rE ((i6 (Y.st i)).den)∧True)∧Y.3=Y.3∧(icG1 Y)∧Y.5=Y.5∧(icG3 Y)∧Y.1=Y.1∧(icG4 Y p)∧Y.5=Y.5∧(∀ (i:Nat),i<Y.5→rE (1:Nat)∧rE (0:Int)∧True)∧Y.5=Y.5∧(∀ (i_2:Nat),i_2<Y.5→rE (1:Nat)∧(i_2=(0:Nat)+(↑z:Int).toNat∧rE true∨¬i_2=(0:Nat)+(↑z:Int).toNat∧i_2<z↔i_2<z_1)∧True)∧True)∧(¬(↑z:Int)<(↑Y.5:Int)→(0:Nat)<(1:Nat)∧(∀ (i:Nat),i<Y.1→True)∧(∀ (i:Nat),i<Y.3→True∧True∧(∀ (i_1:Nat),i_1<(Y.sti i).3→True∧True∧True)∧True∧True∧True)∧(∀ (i:Nat),i<Y.5→True∧True∧True∧True)∧(0:Nat)+Y.5≤Y.5∧(∀ (i:Nat),i<Y.5→rE (1:Nat)∧True)∧SV.agg [SV.lst (1:Nat) Y.g fun i=>i6 (Y.st i),SV.lst (5:Nat) Y.m fun i=>(Y.sti i).sv,SV.lst (3:Nat) Y.q fun i=>(Y.sal i).sv]=(ydOf Y.g (fun i=>i6 (Y.st i)) Y.m (fun i=>(Y.sti i).sv) Y.q fun i=>(Y.sal i).sv).sv∧Y.5=Y.5∧Y.5≤(6:Nat)∧(SV.lst (1:Nat) Y.q fun i=>SV.dec (i+(0:Nat)<z) (Classical.propDecidable (i+(0:Nat)<z)))=boL Y.q (boF fun i=>SV.dec (i+(0:Nat)<z) (Classical.propDecidable (i+(0:Nat)<z)))∧(∃ (z_1:Nat),z_1≤Y.5∧rE (0:Nat)∧rE (0:Nat)∧rE (0:Nat)∧Y.1=Y.1∧-(plX Y p Y.m).3=-(plX Y p Y.m).3+(sS Y p z_1).3∧rE (0:Nat)∧Y.5=Y.5∧rE (0:Nat)∧Y.5=Y.5∧nxI (ydOf Y.g (fun i=>i6 (Y.st i)) Y.m (fun i=>(Y.sti i).sv) Y.q fun i=>(Y.sal i).sv).sal (boF fun i=>SV.dec (i+(0:Nat)<z) (Classical.propDecidable (i+(0:Nat)<z))) Y.5=nxI Y.sal (opP Y z_1) Y.5∧Y.1=Y.1∧(∀ (i:Nat),i<Y.1→rE ((i6 (Y.st i)).den)∧True)∧Y.3=Y.3∧(icG1 Y)∧Y.5=Y.5∧(icG3 Y)∧Y.1=Y.1∧(∀ (i_2:Nat),i_2<Y.1→rE (2:Nat)∧((plX Y p Y.m).l i_2).1=((sS Y p z_1).l i_2).1∧((plX Y p Y.m).l i_2).2=((sS Y p z_1).l i_2).2∧True)∧Y.5=Y.5∧(∀ (i_2:Nat),i_2<Y.5→rE (1:Nat)∧(0:Int)=(sS Y p z_1).2 i_2∧True)∧Y.5=Y.5∧(∀ (i_2:Nat),i_2<Y.5→rE (1:Nat)∧(i_2<z↔opP Y z_1 i_2)∧True)∧True)∧∀ (z:Nat),z≤Y.5→((0:Int)≤nxI Y.sal (opP Y z) Y.5→(0:Nat)<(1:Nat)∧(0:Int)≤nxI Y.sal (opP Y z) Y.5∧nxI Y.sal (opP Y z) Y.5<(↑Y.5:Int)∧(0:Nat)<(1:Nat)∧(0:Nat)<(1:Nat)∧(0:Int)≤(Y.sal (nxI Y.sal (opP Y z) Y.q).toNat).1∧(Y.sal (nxI Y.sal (opP Y z) Y.q).toNat).1<(↑Y.1:Int)∧(0:Nat)+(Y.sal (nxI Y.sal (opP Y z) Y.q).toNat).1.toNat<Y.1∧(0:Int)≤nxI Y.sal (opP Y z) Y.5∧nxI Y.sal (opP Y z) Y.5<(↑Y.5:Int)∧(0:Nat)+(1:Nat)≤(1:Nat)∧(0:Nat)+(nxI Y.sal (opP Y z) Y.5).toNat<Y.5∧(∀ (i':Nat),rE true)∧(0:Nat)<(1:Nat)∧(0:Nat)<(1:Nat)∧(0:Int)≤(Y.sal (nxI Y.sal (opP Y z) Y.q).toNat).1∧(Y.sal (nxI Y.sal (opP Y z) Y.q).toNat).1<(↑Y.1:Int)∧(0:Nat)+(Y.sal (nxI Y.sal (opP Y z) Y.q).toNat).1.toNat<Y.1∧(0:Int)≤nxI Y.sal (opP Y z) Y.5∧nxI Y.sal (opP Y z) Y.5<(↑Y.5:Int)∧(0:Nat)+(nxI Y.sal (opP Y z) Y.5).toNat<Y.5∧(((-9223372036854775808:Int)≤((sS Y p z).l ((0:Nat)+(Y.sal (nxI Y.sal (opP Y z) Y.q).toNat).good.toNat)).1 - if (0:Nat)+(nxI Y.sal (opP Y z) Y.5).toNat=(0:Nat)+(nxI Y.sal (opP Y z) Y.5).toNat then min (Y.sal (nxI Y.sal (opP Y z) Y.q).toNat).2 ((sS Y p z).l ((0:Nat)+(Y.sal (nxI Y.sal (opP Y z) Y.q).toNat).good.toNat)).1 else (sS Y p z).2 ((0:Nat)+(nxI Y.sal (opP Y z) Y.q).toNat))∧(((sS Y p z).l ((0:Nat)+(Y.sal (nxI Y.sal (opP Y z) Y.q).toNat).good.toNat)).1 - if (0:Nat)+(nxI Y.sal (opP Y z) Y.5).toNat=(0:Nat)+(nxI Y.sal (opP Y z) Y.5).toNat then min (Y.sal (nxI Y.sal (opP Y z) Y.q).toNat).2 ((sS Y p z).l ((0:Nat)+(Y.sal (nxI Y.sal (opP Y z) Y.q).toNat).good.toNat)).1 else (sS Y p z).2 ((0:Nat)+(nxI Y.sal (opP Y z) Y.q).toNat))≤(9223372036854775807:Int))∧(0:Int)≤(Y.sal (nxI Y.sal (opP Y z) Y.q).toNat).1∧(Y.sal (nxI Y.sal (opP Y z) Y.q).toNat).1<(↑Y.1:Int)∧(0:Nat)+(1:Nat)≤(2:Nat)∧(0:Nat)+(Y.sal (nxI Y.sal (opP Y z) Y.q).toNat).1.toNat<Y.1∧(∀ (i':Nat),rE true)∧(0:Int)≤nxI Y.sal (opP Y z) Y.5∧nxI Y.sal (opP Y z) Y.5<(↑Y.5:Int)∧(0:Nat)+(nxI Y.sal (opP Y z) Y.5).toNat<Y.5∧(0:Nat)<(1:Nat)∧rI ((if (0:Nat)+(nxI Y.sal (opP Y z) Y.5).toNat=(0:Nat)+(nxI Y.sal (opP Y z) Y.5).toNat then min (Y.sal (nxI Y.sal (opP Y z) Y.q).toNat).2 ((sS Y p z).l ((0:Nat)+(Y.sal (nxI Y.sal (opP Y z) Y.q).toNat).good.toNat)).1 else (sS Y p z).2 ((0:Nat)+(nxI Y.sal (opP Y z) Y.q).toNat))*(Y.sal (nxI Y.sal (opP Y z) Y.q).toNat).3)∧rI (-(plX Y p Y.m).3+(sS Y p z).3+(if (0:Nat)+(nxI Y.sal (opP Y z) Y.5).toNat=(0:Nat)+(nxI Y.sal (opP Y z) Y.5).toNat then min (Y.sal (nxI Y.sal (opP Y z) Y.q).toNat).2 ((sS Y p z).l ((0:Nat)+(Y.sal (nxI Y.sal (opP Y z) Y.q).toNat).good.toNat)).1 else (sS Y p z).2 ((0:Nat)+(nxI Y.sal (opP Y z) Y.q).toNat))*(Y.sal (nxI Y.sal (opP Y z) Y.q).toNat).3)∧(0:Int)≤nxI Y.sal (opP Y z) Y.5∧nxI Y.sal (opP Y z) Y.5<(↑Y.5:Int)∧(0:Nat)+(1:Nat)≤(1:Nat)∧(0:Nat)+(nxI Y.sal (opP Y z) Y.5).toNat<Y.5∧(∀ (i':Nat),rE true)∧(0:Nat)<(1:Nat)∧(∀ (i:Nat),i<Y.1→True)∧(∀ (i:Nat),i<Y.3→True∧True∧(∀ (i_1:Nat),i_1<(Y.sti i).3→True∧True∧True)∧True∧True∧True)∧(∀ (i:Nat),i<Y.5→True∧True∧True∧True)∧(0:Nat)+Y.5≤Y.5∧(∀ (i:Nat),i<Y.5→rE (1:Nat)∧True)∧SV.agg [SV.lst (1:Nat) Y.g fun i=>i6 (Y.st i),SV.lst (5:Nat) Y.m fun i=>(Y.sti i).sv,SV.lst (3:Nat) Y.q fun i=>(Y.sal i).sv]=(ydOf Y.g (fun i=>i6 (Y.st i)) Y.m (fun i=>(Y.sti i).sv) Y.q fun i=>(Y.sal i).sv).sv∧Y.5=Y.5∧Y.5≤(6:Nat)∧(SV.lst (1:Nat) Y.q fun i=>putR (fun i=>SV.dec (opP Y z i) (Classical.propDecidable (opP Y z i))) ((0:Nat)+(nxI Y.sal (opP Y z) Y.q).toNat) (0:Nat) (SV.bool false) (i+(0:Nat)))=boL Y.q (boF fun i=>putR (fun i=>SV.dec (opP Y z i) (Classical.propDecidable (opP Y z i))) ((0:Nat)+(nxI Y.sal (opP Y z) Y.q).toNat) (0:Nat) (SV.bool false) (i+(0:Nat)))∧∃ (z_1:Nat),z_1≤Y.5∧Y.5 - z_1<Y.5 - z∧rE (0:Nat)∧rE (0:Nat)∧rE (0:Nat)∧Y.1=Y.1∧-(plX Y p Y.m).3+(sS Y p z).3+(if (0:Nat)+(nxI Y.sal (opP Y z) Y.5).toNat=(0:Nat)+(nxI Y.sal (opP Y z) Y.5).toNat then min (Y.sal (nxI Y.sal (opP Y z) Y.q).toNat).2 ((sS Y p z).l ((0:Nat)+(Y.sal (nxI Y.sal (opP Y z) Y.q).toNat).good.toNat)).1 else (sS Y p z).2 ((0:Nat)+(nxI Y.sal (opP Y z) Y.q).toNat))*(Y.sal (nxI Y.sal (opP Y z) Y.q).toNat).3=-(plX Y p Y.m).3+(sS Y p z_1).3∧rE (0:Nat)∧Y.5=Y.5∧rE (0:Nat)∧Y.5=Y.5∧nxI (ydOf Y.g (fun i=>i6 (Y.st i)) Y.m (fun i=>(Y.sti i).sv) Y.q fun i=>(Y.sal i).sv).sal (boF fun i=>putR (fun i=>SV.dec (opP Y z i) (Classical.propDecidable (opP Y z i))) ((0:Nat)+(nxI Y.sal (opP Y z) Y.q).toNat) (0:Nat) (SV.bool false) (i+(0:Nat))) Y.5=nxI Y.sal (opP Y z_1) Y.5∧Y.1=Y.1∧(∀ (i:Nat),i<Y.1→rE ((i6 (Y.st i)).den)∧True)∧Y.3=Y.3∧(icG1 Y)∧Y.5=Y.5∧(icG3 Y)∧Y.1=Y.1∧(∀ (i_2:Nat),i_2<Y.1→rE (2:Nat)∧(if i_2=(0:Nat)+(Y.sal (nxI Y.sal (opP Y z) Y.q).toNat).1.toNat then ((sS Y p z).l ((0:Nat)+(Y.sal (nxI Y.sal (opP Y z) Y.q).toNat).good.toNat)).1 - if (0:Nat)+(nxI Y.sal (opP Y z) Y.5).toNat=(0:Nat)+(nxI Y.sal (opP Y z) Y.5).toNat then min (Y.sal (nxI Y.sal (opP Y z) Y.q).toNat).2 ((sS Y p z).l ((0:Nat)+(Y.sal (nxI Y.sal (opP Y z) Y.q).toNat).good.toNat)).1 else (sS Y p z).2 ((0:Nat)+(nxI Y.sal (opP Y z) Y.q).toNat) else ((sS Y p z).l i_2).1)=((sS Y p z_1).l i_2).1∧(if i_2=(0:Nat)+(Y.sal (nxI Y.sal (opP Y z) Y.q).toNat).1.toNat then ((sS Y p z).l i_2).2 else ((sS Y p z).l i_2).2)=((sS Y p z_1).l i_2).2∧True)∧Y.5=Y.5∧(∀ (i_2:Nat),i_2<Y.5→rE (1:Nat)∧(if i_2=(0:Nat)+(nxI Y.sal (opP Y z) Y.5).toNat then min (Y.sal (nxI Y.sal (opP Y z) Y.q).toNat).2 ((sS Y p z).l ((0:Nat)+(Y.sal (nxI Y.sal (opP Y z) Y.q).toNat).good.toNat)).1 else (sS Y p z).2 i_2)=(sS Y p z_1).2 i_2∧True)∧Y.5=Y.5∧(∀ (i_2:Nat),i_2<Y.5→rE (1:Nat)∧(i_2=(0:Nat)+(nxI Y.sal (opP Y z) Y.q).toNat∧false=true∨¬i_2=(0:Nat)+(nxI Y.sal (opP Y z) Y.q).toNat∧opP Y z i_2↔opP Y z_1 i_2)∧True)∧True)∧(¬(0:Int)≤nxI Y.sal (opP Y z) Y.5→-(plX Y p Y.m).3+(sS Y p z).3=inI Y n p∧Y.5=inN Y n p∧(0:Nat)+inN Y n p≤Y.5∧(∀ (i_1:Nat),i_1<inN Y n p→rE (1:Nat)∧rE (1:Nat)∧(sS Y p z).2 (i_1+(0:Nat))=(inS Y p).2 i_1∧True)∧(0:Int)=erP Y n p∧True)))
def icG2 (Y:Yd) (n:Nat) (p:Nat→Int) (z:Nat):Prop:=((↑z:Int)<(↑n:Int)→(0:Int)≤(↑z:Int)∧(↑z:Int)<(↑n:Int)∧(0:Nat)<(1:Nat)∧(0:Int)≤(↑z:Int)∧(↑z:Int)<(↑Y.3:Int)∧rI (p (↑z:Int).toNat*(Y.sti (↑z:Int).toNat).5)∧rI (-(plX Y p z).3 - p (↑z:Int).toNat*(Y.sti (↑z:Int).toNat).5)∧rI ((↑z:Int)+(1:Int))∧∃ (z_1:Nat),(z_1≤n∧n=Y.3)∧n - z_1<n - z∧n=n∧(∀ (i:Nat),i<n→rE ((i6 (p i)).den)∧True)∧rE (0:Nat)∧rE (0:Nat)∧rE (0:Nat)∧Y.1=Y.1∧-(plX Y p z).3 - p (↑z:Int).toNat*(Y.sti (↑z:Int).toNat).5=-(plX Y p z_1).3∧(↑z:Int)+(1:Int)=(↑z_1:Int)∧Y.1=Y.1∧(∀ (i:Nat),i<Y.1→rE ((i6 (Y.st i)).den)∧True)∧Y.3=Y.3∧(icG1 Y)∧Y.5=Y.5∧(icG3 Y)∧Y.1=Y.1∧(icG4 Y p)∧True)
theorem icG_vc (Y:Yd) (n:Nat) (p:Nat→Int):icG Y n p =
((0:Nat)<(1:Nat)∧(0:Nat)<(1:Nat)∧(∀ (i:Nat),i<Y.1→True)∧(∀ (i:Nat),i<Y.3→True∧True∧(∀ (i_1:Nat),i_1<(Y.sti i).3→True∧True∧True)∧True∧True∧True)∧(∀ (i:Nat),i<Y.5→True∧True∧True∧True)∧SV.agg [SV.lst (1:Nat) Y.g fun i=>i6 (Y.st i),SV.lst (5:Nat) Y.m fun i=>(Y.sti i).sv,SV.lst (3:Nat) Y.q fun i=>(Y.sal i).sv]=(ydOf Y.g (fun i=>i6 (Y.st i)) Y.m (fun i=>(Y.sti i).sv) Y.q fun i=>(Y.sal i).sv).sv∧(¬okYd (ydOf Y.g (fun i=>i6 (Y.st i)) Y.m (fun i=>(Y.sti i).sv) Y.q fun i=>(Y.sal i).sv)→(¬(1:Int)=(0:Int)→(0:Int)=inI Y n p∧(0:Nat)=inN Y n p∧(1:Int)=erP Y n p∧True)∧(¬¬(1:Int)=(0:Int)→(∃ (z:Nat),(z≤n∧n=Y.3)∧False)∧∀ (z:Nat),z≤n∧n=Y.3→(icG2 Y n p z)∧(icG0 Y n p z)))∧(¬¬okYd (ydOf Y.g (fun i=>i6 (Y.st i)) Y.m (fun i=>(Y.sti i).sv) Y.q
fun i=>(Y.sal i).sv)→(0:Nat)<(1:Nat)∧(¬(↑n:Int)=(↑Y.3:Int)→(¬(2:Int)=(0:Int)→(0:Int)=inI Y n p∧(0:Nat)=inN Y n p∧(2:Int)=erP Y n p∧True)∧(¬¬(2:Int)=(0:Int)→(∃ (z:Nat),(z≤n∧n=Y.3)∧False)∧∀ (z:Nat),z≤n∧n=Y.3→(icG2 Y n p z)∧(icG0 Y n p z)))∧(¬¬(↑n:Int)=(↑Y.3:Int)→(∃ (z:Nat),(z≤n∧n=Y.3∧∀ (i_1:Nat),i_1<z→okNb (Y.sti i_1).most (p i_1))∧n=n∧(∀ (i:Nat),i<n→rE ((i6 (p i)).den)∧True)∧rE (0:Nat)∧rE (0:Nat)∧(0:Int)=(↑z:Int)∧Y.1=Y.1∧(∀ (i:Nat),i<Y.1→rE ((i6 (Y.st i)).den)∧True)∧Y.3=Y.3∧(icG1 Y)∧Y.5=Y.5∧(icG3 Y)∧Y.1=Y.1∧(∀ (i:Nat),i<Y.1→rE ((i6 (Y.st i)).den)∧True)∧Y.3=Y.3∧(icG1 Y)∧Y.5=Y.5∧(icG3 Y)∧True)∧∀ (z:Nat),(z≤n∧n=Y.3∧∀ (i_1:Nat),i_1<z→okNb (Y.sti i_1).most (p i_1))→((↑z:Int)
< (↑n:Int)→(0:Int)≤(↑z:Int)∧(↑z:Int)<(↑n:Int)∧(0:Nat)<(1:Nat)∧(0:Int)≤(↑z:Int)∧(↑z:Int)<(↑Y.3:Int)∧(¬((0:Int)≤p (↑z:Int).toNat∧p (↑z:Int).toNat≤(Y.sti (↑z:Int).toNat).6)→(¬(2:Int)=(0:Int)→(0:Int)=inI Y n p∧(0:Nat)=inN Y n p∧(2:Int)=erP Y n p∧True)∧(¬¬(2:Int)=(0:Int)→(∃ (z:Nat),(z≤n∧n=Y.3)∧False)∧∀ (z:Nat),z≤n∧n=Y.3→(icG2 Y n p z)∧(icG0 Y n p z)))∧(¬¬((0:Int)≤p (↑z:Int).toNat∧p (↑z:Int).toNat≤(Y.sti (↑z:Int).toNat).6)→rI ((↑z:Int)+(1:Int))∧∃ (z_1:Nat),(z_1≤n∧n=Y.3∧∀ (i_2:Nat),i_2<z_1→okNb (Y.sti i_2).most (p i_2))∧n - z_1<n - z∧n=n∧(∀ (i:Nat),i<n→rE ((i6 (p i)).den)∧True)∧rE (0:Nat)∧rE (0:Nat)∧(↑z:Int)+(1:Int)=(↑z_1:Int)∧Y.1=Y.1∧(∀ (i:Nat),i<Y.1→rE ((i6 (Y.st i)).den) ∧
True)∧Y.3=Y.3∧(icG1 Y)∧Y.5=Y.5∧(icG3 Y)∧Y.1=Y.1∧(∀ (i:Nat),i<Y.1→rE ((i6 (Y.st i)).den)∧True)∧Y.3=Y.3∧(icG1 Y)∧Y.5=Y.5∧(icG3 Y)∧True))∧(¬(↑z:Int)<(↑n:Int)→(0:Nat)<(1:Nat)∧(∃ (z:Nat),z≤Y.1∧n=Y.3∧(∀ (i:Nat),i<Y.3→rE ((i6 (p i)).den)∧True)∧rE (0:Nat)∧rE (0:Nat)∧rE (0:Nat)∧(0:Nat)=z∧(0:Int)=(↑z:Int)∧Y.1=Y.1∧(∀ (i:Nat),i<Y.1→rE ((i6 (Y.st i)).den)∧True)∧Y.3=Y.3∧(icG1 Y)∧Y.5=Y.5∧(icG3 Y)∧Y.1=Y.1∧(∀ (i:Nat),i<Y.1→rE ((i6 (Y.st i)).den)∧True)∧Y.3=Y.3∧(icG1 Y)∧Y.5=Y.5∧(icG3 Y)∧Y.1=Y.1∧(∀ (i:Nat),i<Y.1→rE ((i6 (Y.st i)).den)∧True)∧Y.3=Y.3∧(icG1 Y)∧Y.5=Y.5∧(icG3 Y)∧z=(0:Nat)∧True)∧∀ (z:Nat),z≤Y.1→(0:Nat)<(1:Nat)∧((↑z:Int)<(↑Y.1:Int)→(0:Nat)<(1:Nat)∧(0:Int)≤(↑z:Int) ∧
(↑z:Int)<(↑Y.1:Int)∧(0:Nat)<(1:Nat)∧(0:Int)≤(↑z:Int)∧(↑z:Int)<(↑Y.1:Int)∧True∧(∀ (i:Nat),i<(1:Nat)→rE true)∧rE (0:Nat)∧z=z∧(∀ (i:Nat),rE true)∧(z+(1:Nat))*(16:Nat)≤(140737488355328:Nat)∧z+(1:Nat)≤(4611686018427387904:Nat)∧rI ((↑z:Int)+(1:Int))∧∃ (z_1:Nat),z_1≤Y.1∧Y.1 - z_1<Y.1 - z∧Y.3=Y.3∧(∀ (i:Nat),i<Y.3→rE ((i6 (p i)).den)∧True)∧rE (0:Nat)∧rE (0:Nat)∧rE (0:Nat)∧z+(1:Nat)=z_1∧(↑z:Int)+(1:Int)=(↑z_1:Int)∧Y.1=Y.1∧(∀ (i:Nat),i<Y.1→rE ((i6 (Y.st i)).den)∧True)∧Y.3=Y.3∧(icG1 Y)∧Y.5=Y.5∧(icG3 Y)∧Y.1=Y.1∧(∀ (i:Nat),i<Y.1→rE ((i6 (Y.st i)).den)∧True)∧Y.3=Y.3∧(icG1 Y)∧Y.5=Y.5∧(icG3 Y)∧Y.1=Y.1∧(∀ (i:Nat),i<Y.1→rE ((i6 (Y.st i)).den)∧True)∧Y.3=Y.3∧(icG1 Y)∧Y.5=Y.5∧(icG3 Y)
∧ z_1=z+(1:Nat)∧(∀ (i_2:Nat),i_2<z_1→rE (2:Nat)∧(if i_2<z then Y.2 i_2 else Y.2 (↑z:Int).toNat)=Y.2 i_2∧(if i_2<z then Y.2 i_2 else Y.2 (↑z:Int).toNat)=Y.2 i_2∧True)∧True)∧(¬(↑z:Int)<(↑Y.1:Int)→(∃ (z_1:Nat),(z_1≤Y.3∧canL Y p z_1)∧Y.3=Y.3∧(∀ (i:Nat),i<Y.3→rE ((i6 (p i)).den)∧True)∧rE (0:Nat)∧rE (0:Nat)∧rE (0:Nat)∧z=Y.1∧(0:Int)=(↑z_1:Int)∧Y.1=Y.1∧(∀ (i:Nat),i<Y.1→rE ((i6 (Y.st i)).den)∧True)∧Y.3=Y.3∧(icG1 Y)∧Y.5=Y.5∧(icG3 Y)∧Y.1=Y.1∧(∀ (i:Nat),i<Y.1→rE ((i6 (Y.st i)).den)∧True)∧Y.3=Y.3∧(icG1 Y)∧Y.5=Y.5∧(icG3 Y)∧Y.1=Y.1∧(∀ (i:Nat),i<Y.1→rE ((i6 (Y.st i)).den)∧True)∧Y.3=Y.3∧(icG1 Y)∧Y.5=Y.5∧(icG3 Y)∧Y.1=z∧(∀ (i_2:Nat),i_2<Y.1→rE (2:Nat)∧Y.2 i_2=((plX Y p z_1).l i_2).1∧Y.2 i_2=((plX Y p z_1).l
i_2).2∧True)∧True)∧∀ (z:Nat),z≤Y.3∧canL Y p z→((↑z:Int)<(↑Y.3:Int)→(0:Nat)<(1:Nat)∧(0:Int)≤(↑z:Int)∧(↑z:Int)<(↑Y.3:Int)∧((lfA Y p ((↑z:Int).toNat,Int.toNat (0:Int))∧z=(↑z:Int).toNat)∧Y.3=Y.3∧(∀ (i:Nat),i<Y.3→rE ((i6 (p i)).den)∧True)∧rE (0:Nat)∧rE (0:Nat)∧rE (0:Nat)∧Y.1=Y.1∧rE (↑z:Int)∧rE (0:Nat)∧rE (0:Nat)∧(0:Int)=(↑(0:Nat):Int)∧Y.1=Y.1∧(∀ (i:Nat),i<Y.1→rE ((i6 (Y.st i)).den)∧True)∧Y.3=Y.3∧(icG1 Y)∧Y.5=Y.5∧(icG3 Y)∧Y.1=Y.1∧(∀ (i:Nat),i<Y.1→rE ((i6 (Y.st i)).den)∧True)∧Y.3=Y.3∧(icG1 Y)∧Y.5=Y.5∧(icG3 Y)∧Y.1=Y.1∧(∀ (i:Nat),i<Y.1→rE ((i6 (Y.st i)).den)∧True)∧Y.3=Y.3∧(icG1 Y)∧Y.5=Y.5∧(icG3 Y)∧Y.1=Y.1∧(∀ (i_1:Nat),i_1<Y.1→rE (2:Nat)∧((plX Y p z).l i_1).1=((plX Y p (↑z:Int).toNat).l
i_1).1+(↑(0:Nat):Int)*(((Y.sti (↑z:Int).toNat).out i_1).1 - tkI (Y.sti (↑z:Int).toNat) i_1)∧((plX Y p z).l i_1).2=((plX Y p (↑z:Int).toNat).l i_1).2+(↑(0:Nat):Int)*(((Y.sti (↑z:Int).toNat).out i_1).2 - tkI (Y.sti (↑z:Int).toNat) i_1)∧True)∧rE ((Y.sti (↑z:Int).toNat).1)∧rE ((Y.sti (↑z:Int).toNat).2)∧rE ((Y.sti (↑z:Int).toNat).3)∧(∀ (i_1:Nat),i_1<(Y.sti (↑z:Int).toNat).3→rE (((Y.sti (↑z:Int).toNat).out i_1).sv.den)∧True∧True∧True)∧rE ((Y.sti (↑z:Int).toNat).5)∧rE ((Y.sti (↑z:Int).toNat).6)∧True)∧∀ (zp9_1:Nat × Nat),lfA Y p zp9_1∧zp9_1.1=(↑z:Int).toNat→(0:Int)≤(↑zp9_1.1:Int)∧(↑zp9_1.1:Int)<(↑Y.3:Int)∧((↑zp9_1.2:Int)<p (↑zp9_1.1:Int).toNat→(0:Nat)<(1:Nat)∧(0:Int)≤(Y.sti zp9_1.fst).1∧(Y.sti zp9_1.fst).1<(↑Y.1:Int)∧(0:Nat)+(Y.sti zp9_1.fst).1.toNat<Y.1∧(0 :
Nat)<(1:Nat)∧(((plX Y p zp9_1.fst).l ((0:Nat)+(Y.sti zp9_1.fst).inn.toNat)).1+(↑zp9_1.2:Int)*(((Y.sti zp9_1.fst).out ((0:Nat)+(Y.sti zp9_1.fst).inn.toNat)).1 - tkI (Y.sti zp9_1.fst) ((0:Nat)+(Y.sti zp9_1.fst).1.toNat))<(Y.sti zp9_1.fst).2→(¬(10:Int)=(0:Int)→(0:Int)=inI Y n p∧(0:Nat)=inN Y n p∧(10:Int)=erP Y n p∧True)∧(¬¬(10:Int)=(0:Int)→(∃ (z:Nat),(z≤n∧n=Y.3)∧n=n∧(∀ (i:Nat),i<n→rE ((i6 (p i)).den)∧True)∧rE (0:Nat)∧rE (0:Nat)∧False)∧∀ (z:Nat),z≤n∧n=Y.3→(icG2 Y n p z)∧(icG0 Y n p z)))∧(¬((plX Y p zp9_1.fst).l ((0:Nat)+(Y.sti zp9_1.fst).inn.toNat)).1+(↑zp9_1.2:Int)*(((Y.sti zp9_1.fst).out ((0:Nat)+(Y.sti zp9_1.fst).inn.toNat)).1 - tkI (Y.sti zp9_1.fst) ((0:Nat)+(Y.sti zp9_1.fst).1.toNat))<(Y.sti zp9_1.fst).2→(0:Nat)<(1:Nat)∧(0:Nat)<(1:Nat) ∧
(0:Int)≤(Y.sti zp9_1.fst).1∧(Y.sti zp9_1.fst).1<(↑Y.1:Int)∧(0:Nat)+(Y.sti zp9_1.fst).1.toNat<Y.1∧(0:Nat)<(1:Nat)∧rI (((plX Y p zp9_1.fst).l ((0:Nat)+(Y.sti zp9_1.fst).inn.toNat)).1+(↑zp9_1.2:Int)*(((Y.sti zp9_1.fst).out ((0:Nat)+(Y.sti zp9_1.fst).inn.toNat)).1 - tkI (Y.sti zp9_1.fst) ((0:Nat)+(Y.sti zp9_1.fst).1.toNat)) - (Y.sti zp9_1.fst).2)∧(0:Nat)<(1:Nat)∧(0:Int)≤(Y.sti zp9_1.fst).1∧(Y.sti zp9_1.fst).1<(↑Y.1:Int)∧(0:Nat)+(Y.sti zp9_1.fst).1.toNat<Y.1∧(0:Nat)<(1:Nat)∧rI (((plX Y p zp9_1.fst).l ((0:Nat)+(Y.sti zp9_1.fst).inn.toNat)).2+(↑zp9_1.2:Int)*(((Y.sti zp9_1.fst).out ((0:Nat)+(Y.sti zp9_1.fst).inn.toNat)).2 - tkI (Y.sti zp9_1.fst) ((0:Nat)+(Y.sti zp9_1.fst).1.toNat)) - (Y.sti zp9_1.fst).2)∧(0:Int)≤(Y.sti zp9_1.fst).1∧(Y.sti zp9_1.fst).1<(↑Y.1:Int)∧(0:Nat)+(2 :
Nat)≤(2:Nat)∧(0:Nat)+(Y.sti zp9_1.fst).1.toNat<Y.1∧(∀ (i':Nat),rE true)∧((lfB Y p ((↑zp9_1.fst:Int).toNat,(↑zp9_1.snd:Int).toNat,Int.toNat (0:Int))∧rE ((↑zp9_1.1:Int).toNat*(64:Nat)+(↑zp9_1.2:Int).toNat))∧Y.3=Y.3∧(∀ (i:Nat),i<Y.3→rE ((i6 (p i)).den)∧True)∧rE (0:Nat)∧rE (0:Nat)∧rE (0:Nat)∧Y.1=Y.1∧(↑zp9_1.1:Int)=(↑(↑zp9_1.1:Int).toNat:Int)∧rE (0:Nat)∧rE (0:Nat)∧(↑zp9_1.2:Int)=(↑(↑zp9_1.2:Int).toNat:Int)∧(0:Int)=(↑(0:Nat):Int)∧Y.1=Y.1∧(∀ (i:Nat),i<Y.1→rE ((i6 (Y.st i)).den)∧True)∧Y.3=Y.3∧(icG1 Y)∧Y.5=Y.5∧(icG3 Y)∧Y.1=Y.1∧(∀ (i:Nat),i<Y.1→rE ((i6 (Y.st i)).den)∧True)∧Y.3=Y.3∧(icG1 Y)∧Y.5=Y.5∧(icG3 Y)∧Y.1=Y.1∧(∀ (i:Nat),i<Y.1→rE ((i6 (Y.st i)).den)∧True)∧Y.3=Y.3∧(icG1 Y)∧Y.5=Y.5∧(icG3 Y)∧Y.1=Y.1∧(∀
(i_2:Nat),i_2<Y.1→rE (2:Nat)∧(if i_2=(0:Nat)+(Y.sti zp9_1.fst).1.toNat then ((plX Y p zp9_1.fst).l ((0:Nat)+(Y.sti zp9_1.fst).inn.toNat)).1+(↑zp9_1.2:Int)*(((Y.sti zp9_1.fst).out ((0:Nat)+(Y.sti zp9_1.fst).inn.toNat)).1 - tkI (Y.sti zp9_1.fst) ((0:Nat)+(Y.sti zp9_1.fst).1.toNat)) - (Y.sti zp9_1.fst).2 else ((plX Y p zp9_1.fst).l i_2).1+(↑zp9_1.2:Int)*(((Y.sti zp9_1.fst).out i_2).1 - tkI (Y.sti zp9_1.fst) i_2))=((plX Y p (↑zp9_1.fst:Int).toNat).l i_2).1+(↑(↑zp9_1.2:Int).toNat:Int)*(((Y.sti (↑zp9_1.fst:Int).toNat).out i_2).1 - tkI (Y.sti (↑zp9_1.fst:Int).toNat) i_2) - tkI (Y.sti (↑zp9_1.fst:Int).toNat) i_2∧(if i_2=(0:Nat)+(Y.sti zp9_1.fst).1.toNat then ((plX Y p zp9_1.fst).l ((0:Nat)+(Y.sti zp9_1.fst).inn.toNat)).2+(↑zp9_1.2:Int)*(((Y.sti zp9_1.fst).out ((0:Nat)+(Y.sti zp9_1.fst).inn.toNat)).2 - tkI (Y.sti
zp9_1.fst) ((0:Nat)+(Y.sti zp9_1.fst).1.toNat)) - (Y.sti zp9_1.fst).2 else ((plX Y p zp9_1.fst).l i_2).2+(↑zp9_1.2:Int)*(((Y.sti zp9_1.fst).out i_2).2 - tkI (Y.sti zp9_1.fst) i_2))=((plX Y p (↑zp9_1.fst:Int).toNat).l i_2).2+(↑(↑zp9_1.2:Int).toNat:Int)*(((Y.sti (↑zp9_1.fst:Int).toNat).out i_2).2 - tkI (Y.sti (↑zp9_1.fst:Int).toNat) i_2) - tkI (Y.sti (↑zp9_1.fst:Int).toNat) i_2∧True)∧(Y.sti zp9_1.fst).1=(Y.sti (↑zp9_1.fst:Int).toNat).1∧(Y.sti zp9_1.fst).2=(Y.sti (↑zp9_1.fst:Int).toNat).2∧(Y.sti zp9_1.fst).3=(Y.sti (↑zp9_1.fst:Int).toNat).3∧(∀ (i_2:Nat),i_2<(Y.sti (↑zp9_1.fst:Int).toNat).3→((Y.sti zp9_1.fst).out i_2).sv.den=((Y.sti (↑zp9_1.fst:Int).toNat).out i_2).sv.den∧True∧True∧True)∧(Y.sti zp9_1.fst).5=(Y.sti (↑zp9_1.fst:Int).toNat).5∧(Y.sti zp9_1.fst).6=(Y.sti (↑zp9_1.fst:Int).toNat).6∧True)∧∀ (zp15_2
: Nat × Nat × Nat),lfB Y p zp15_2∧zp15_2.1*(64:Nat)+zp15_2.snd.1=(↑zp9_1.1:Int).toNat*(64:Nat)+(↑zp9_1.2:Int).toNat→((↑zp15_2.snd.2:Int)<(↑Y.1:Int)→(0:Int)≤(↑zp15_2.snd.2:Int)∧(↑zp15_2.snd.2:Int)<(↑Y.1:Int)∧(0:Nat)+(↑zp15_2.snd.2:Int).toNat<Y.1∧(0:Nat)<(1:Nat)∧(0:Int)≤(↑zp15_2.snd.2:Int)∧(↑zp15_2.snd.2:Int)<(↑(Y.sti zp15_2.fst).3:Int)∧rI ((bmF (plX Y p zp15_2.fst).l (Y.sti zp15_2.fst) zp15_2.snd.fst zp15_2.snd.snd ((0:Nat)+(↑zp15_2.snd.snd:Int).toNat)).1+((Y.sti zp15_2.fst).out (↑zp15_2.snd.snd:Int).toNat).1)∧(0:Int)≤(↑zp15_2.snd.2:Int)∧(↑zp15_2.snd.2:Int)<(↑Y.1:Int)∧(0:Nat)+(↑zp15_2.snd.2:Int).toNat<Y.1∧(0:Nat)<(1:Nat)∧(0:Int)≤(↑zp15_2.snd.2:Int)∧(↑zp15_2.snd.2:Int)<(↑(Y.sti zp15_2.fst).3:Int)∧rI ((bmF (plX Y p zp15_2.fst).l (Y.sti zp15_2.fst)
zp15_2.snd.fst zp15_2.snd.snd ((0:Nat)+(↑zp15_2.snd.snd:Int).toNat)).2+((Y.sti zp15_2.fst).out (↑zp15_2.snd.snd:Int).toNat).2)∧(0:Int)≤(↑zp15_2.snd.2:Int)∧(↑zp15_2.snd.2:Int)<(↑Y.1:Int)∧(0:Nat)+(2:Nat)≤(2:Nat)∧(0:Nat)+(↑zp15_2.snd.2:Int).toNat<Y.1∧(∀ (i':Nat),rE true)∧rI ((↑zp15_2.snd.2:Int)+(1:Int))∧(lfB Y p ((↑zp15_2.fst:Int).toNat,(↑zp15_2.snd.fst:Int).toNat,((↑zp15_2.snd.snd:Int)+(1:Int)).toNat)∧(↑zp15_2.1:Int).toNat*(64:Nat)+(↑zp15_2.snd.1:Int).toNat=(↑zp9_1.1:Int).toNat*(64:Nat)+(↑zp9_1.2:Int).toNat)∧Y.1 - ((↑zp15_2.snd.2:Int)+(1:Int)).toNat<Y.1 - zp15_2.snd.2∧Y.3=Y.3∧(∀ (i:Nat),i<Y.3→rE ((i6 (p i)).den)∧True)∧rE (0:Nat)∧rE (0:Nat)∧rE (0:Nat)∧Y.1=Y.1∧(↑zp15_2.1:Int)=(↑(↑zp15_2.1:Int).toNat:Int)∧rE (0:Nat)∧rE (0:Nat) ∧
(↑zp15_2.snd.1:Int)=(↑(↑zp15_2.snd.1:Int).toNat:Int)∧(↑zp15_2.snd.2:Int)+(1:Int)=(↑((↑zp15_2.snd.2:Int)+(1:Int)).toNat:Int)∧Y.1=Y.1∧(∀ (i:Nat),i<Y.1→rE ((i6 (Y.st i)).den)∧True)∧Y.3=Y.3∧(icG1 Y)∧Y.5=Y.5∧(icG3 Y)∧Y.1=Y.1∧(∀ (i:Nat),i<Y.1→rE ((i6 (Y.st i)).den)∧True)∧Y.3=Y.3∧(icG1 Y)∧Y.5=Y.5∧(icG3 Y)∧Y.1=Y.1∧(∀ (i:Nat),i<Y.1→rE ((i6 (Y.st i)).den)∧True)∧Y.3=Y.3∧(icG1 Y)∧Y.5=Y.5∧(icG3 Y)∧Y.1=Y.1∧(∀ (i_3:Nat),i_3<Y.1→rE (2:Nat)∧(if i_3=(0:Nat)+(↑zp15_2.snd.2:Int).toNat then (bmF (plX Y p zp15_2.fst).l (Y.sti zp15_2.fst) zp15_2.snd.fst zp15_2.snd.snd ((0:Nat)+(↑zp15_2.snd.snd:Int).toNat)).1+((Y.sti zp15_2.fst).out (↑zp15_2.snd.snd:Int).toNat).1 else (bmF (plX Y p zp15_2.fst).l (Y.sti zp15_2.fst) zp15_2.snd.fst zp15_2.snd.snd i_3).1)=(bmF (plX Y p
(↑zp15_2.fst:Int).toNat).l (Y.sti (↑zp15_2.fst:Int).toNat) (↑zp15_2.snd.fst:Int).toNat ((↑zp15_2.snd.snd:Int)+(1:Int)).toNat i_3).1∧(if i_3=(0:Nat)+(↑zp15_2.snd.2:Int).toNat then (bmF (plX Y p zp15_2.fst).l (Y.sti zp15_2.fst) zp15_2.snd.fst zp15_2.snd.snd ((0:Nat)+(↑zp15_2.snd.snd:Int).toNat)).2+((Y.sti zp15_2.fst).out (↑zp15_2.snd.snd:Int).toNat).2 else (bmF (plX Y p zp15_2.fst).l (Y.sti zp15_2.fst) zp15_2.snd.fst zp15_2.snd.snd i_3).2)=(bmF (plX Y p (↑zp15_2.fst:Int).toNat).l (Y.sti (↑zp15_2.fst:Int).toNat) (↑zp15_2.snd.fst:Int).toNat ((↑zp15_2.snd.snd:Int)+(1:Int)).toNat i_3).2∧True)∧(Y.sti zp15_2.fst).1=(Y.sti (↑zp15_2.fst:Int).toNat).1∧(Y.sti zp15_2.fst).2=(Y.sti (↑zp15_2.fst:Int).toNat).2∧(Y.sti zp15_2.fst).3=(Y.sti (↑zp15_2.fst:Int).toNat).3∧(∀ (i_3:Nat),i_3<(Y.sti (↑zp15_2.fst:Int).toNat).3→((Y.sti
zp15_2.fst).out i_3).sv.den=((Y.sti (↑zp15_2.fst:Int).toNat).out i_3).sv.den∧True∧True∧True)∧(Y.sti zp15_2.fst).5=(Y.sti (↑zp15_2.fst:Int).toNat).5∧(Y.sti zp15_2.fst).6=(Y.sti (↑zp15_2.fst:Int).toNat).6∧True)∧(¬(↑zp15_2.snd.2:Int)<(↑Y.1:Int)→rI ((↑zp15_2.snd.1:Int)+(1:Int))∧(lfA Y p ((↑zp15_2.fst:Int).toNat,((↑zp15_2.snd.fst:Int)+(1:Int)).toNat)∧(↑zp15_2.1:Int).toNat=(↑z:Int).toNat)∧(p (↑zp15_2.1:Int).toNat).toNat - ((↑zp15_2.snd.1:Int)+(1:Int)).toNat<(p zp9_1.1).toNat - zp9_1.2∧Y.3=Y.3∧(∀ (i:Nat),i<Y.3→rE ((i6 (p i)).den)∧True)∧rE (0:Nat)∧rE (0:Nat)∧rE (0:Nat)∧Y.1=Y.1∧(↑zp15_2.1:Int)=(↑(↑zp15_2.1:Int).toNat:Int)∧rE (0:Nat)∧rE (0:Nat)∧(↑zp15_2.snd.1:Int)+(1:Int)=(↑((↑zp15_2.snd.1:Int)+(1:Int)).toNat:Int)∧Y.1=Y.1∧(∀ (i:Nat),i<Y.1→rE ((i6
(Y.st i)).den)∧True)∧Y.3=Y.3∧(icG1 Y)∧Y.5=Y.5∧(icG3 Y)∧Y.1=Y.1∧(∀ (i:Nat),i<Y.1→rE ((i6 (Y.st i)).den)∧True)∧Y.3=Y.3∧(icG1 Y)∧Y.5=Y.5∧(icG3 Y)∧Y.1=Y.1∧(∀ (i:Nat),i<Y.1→rE ((i6 (Y.st i)).den)∧True)∧Y.3=Y.3∧(icG1 Y)∧Y.5=Y.5∧(icG3 Y)∧Y.1=Y.1∧(∀ (i_3:Nat),i_3<Y.1→rE (2:Nat)∧(bmF (plX Y p zp15_2.fst).l (Y.sti zp15_2.fst) zp15_2.snd.fst zp15_2.snd.snd i_3).1=((plX Y p (↑zp15_2.fst:Int).toNat).l i_3).1+(↑((↑zp15_2.snd.1:Int)+(1:Int)).toNat:Int)*(((Y.sti (↑zp15_2.fst:Int).toNat).out i_3).1 - tkI (Y.sti (↑zp15_2.fst:Int).toNat) i_3)∧(bmF (plX Y p zp15_2.fst).l (Y.sti zp15_2.fst) zp15_2.snd.fst zp15_2.snd.snd i_3).2=((plX Y p (↑zp15_2.fst:Int).toNat).l i_3).2+(↑((↑zp15_2.snd.1:Int)+(1:Int)).toNat:Int)*(((Y.sti (↑zp15_2.fst:Int).toNat).out i_3).2 - tkI (Y.sti (↑zp15_2.fst :
Int).toNat) i_3)∧True)∧(Y.sti zp15_2.fst).1=(Y.sti (↑zp15_2.fst:Int).toNat).1∧(Y.sti zp15_2.fst).2=(Y.sti (↑zp15_2.fst:Int).toNat).2∧(Y.sti zp15_2.fst).3=(Y.sti (↑zp15_2.fst:Int).toNat).3∧(∀ (i_3:Nat),i_3<(Y.sti (↑zp15_2.fst:Int).toNat).3→((Y.sti zp15_2.fst).out i_3).sv.den=((Y.sti (↑zp15_2.fst:Int).toNat).out i_3).sv.den∧True∧True∧True)∧(Y.sti zp15_2.fst).5=(Y.sti (↑zp15_2.fst:Int).toNat).5∧(Y.sti zp15_2.fst).6=(Y.sti (↑zp15_2.fst:Int).toNat).6∧True)))∧(¬(↑zp9_1.2:Int)<p (↑zp9_1.1:Int).toNat→rI ((↑zp9_1.1:Int)+(1:Int))∧∃ (z_2:Nat),(z_2≤Y.3∧canL Y p z_2)∧Y.3 - z_2<Y.3 - z∧Y.3=Y.3∧(∀ (i:Nat),i<Y.3→rE ((i6 (p i)).den)∧True)∧rE (0:Nat)∧rE (0:Nat)∧rE (0:Nat)∧Y.1=Y.1∧(↑zp9_1.1:Int)+(1:Int)=(↑z_2:Int)∧Y.1=Y.1∧(∀ (i:Nat),i<Y.1→rE ((i6 (Y.st i)).den) ∧
True)∧Y.3=Y.3∧(icG1 Y)∧Y.5=Y.5∧(icG3 Y)∧Y.1=Y.1∧(∀ (i:Nat),i<Y.1→rE ((i6 (Y.st i)).den)∧True)∧Y.3=Y.3∧(icG1 Y)∧Y.5=Y.5∧(icG3 Y)∧Y.1=Y.1∧(∀ (i:Nat),i<Y.1→rE ((i6 (Y.st i)).den)∧True)∧Y.3=Y.3∧(icG1 Y)∧Y.5=Y.5∧(icG3 Y)∧Y.1=Y.1∧(∀ (i_3:Nat),i_3<Y.1→rE (2:Nat)∧((plX Y p zp9_1.fst).l i_3).1+(↑zp9_1.2:Int)*(((Y.sti zp9_1.fst).out i_3).1 - tkI (Y.sti zp9_1.fst) i_3)=((plX Y p z_2).l i_3).1∧((plX Y p zp9_1.fst).l i_3).2+(↑zp9_1.2:Int)*(((Y.sti zp9_1.fst).out i_3).2 - tkI (Y.sti zp9_1.fst) i_3)=((plX Y p z_2).l i_3).2∧True)∧True))∧(¬(↑z:Int)<(↑Y.3:Int)→(¬(0:Int)=(0:Int)→(0:Int)=inI Y n p∧(0:Nat)=inN Y n p∧(0:Int)=erP Y n p∧True)∧(¬¬(0:Int)=(0:Int)→(∃ (z_1:Nat),(z_1≤n∧n=Y.3)∧n=n∧(∀ (i:Nat),i<n→rE ((i6 (p i)).den)∧True)∧rE
(0:Nat)∧rE (0:Nat)∧rE (0:Nat)∧Y.1=Y.1∧(0:Int)=-(plX Y p z_1).3∧(0:Int)=(↑z_1:Int)∧Y.1=Y.1∧(∀ (i:Nat),i<Y.1→rE ((i6 (Y.st i)).den)∧True)∧Y.3=Y.3∧(icG1 Y)∧Y.5=Y.5∧(icG3 Y)∧Y.1=Y.1∧(∀ (i_2:Nat),i_2<Y.1→rE (2:Nat)∧((plX Y p z).l i_2).1=((plX Y p Y.m).l i_2).1∧((plX Y p z).l i_2).2=((plX Y p Y.m).l i_2).2∧True)∧True)∧∀ (z:Nat),z≤n∧n=Y.3→(icG2 Y n p z)∧(icG0 Y n p z)))))))):=by kernel_rfl
end Go.Proofs.Ytbedomoilakcaaa

set_option maxRecDepth 100000
namespace Go.Proofs.Ytbedomoilakcaaa
open Go Go.Lg
attribute [local irreducible] funS bodyH
theorem nx_yes {sal:Nat→Sal} {P:Nat→Prop} {k:Nat} (h:P k) (h2:nxI sal P k<0∨(sal (nxI sal P k).toNat).price<(sal k).price):nxI sal P (k+1)=k:=by simp only [nxI]; rw [if_pos ⟨h,h2⟩]
theorem nx_no {sal:Nat→Sal} {P:Nat→Prop} {k:Nat} (h:¬ (P k∧(nxI sal P k<0∨(sal (nxI sal P k).toNat).price<(sal k).price))):nxI sal P (k+1)=nxI sal P k:=by simp only [nxI]; rw [if_neg h]
theorem nxi_bd {sal:Nat→Sal} {P:Nat→Prop}:∀ k,-1≤nxI sal P k∧nxI sal P k<k
 | 0=>⟨by simp [nxI],by simp [nxI]⟩
 | k+1=>by
  have ih:=nxi_bd (sal:=sal) (P:=P) k
  simp only [nxI]
  split <;> omega
theorem nx_congr {sal:Nat→Sal} {P Q:Nat→Prop}:∀ k,(∀ i,i<k→(P i↔Q i))→nxI sal P k=nxI sal Q k
 | 0,_=>rfl
 | k+1,h=>by
  have ih:=nx_congr (sal:=sal) k fun i hi=>h i (by omega)
  have hk:=h k (by omega)
  by_cases c:P k∧(nxI sal P k<0∨(sal (nxI sal P k).toNat).price<(sal k).price)
  ·rw [nx_yes c.1 c.2,nx_yes (hk.1 c.1) (by rw [← ih]; exact c.2)]
  ·rw [nx_no c,nx_no fun x=>c ⟨hk.2 x.1,by rw [ih]; exact x.2⟩,ih]
theorem nx_true {Y:Yd} {P:Nat→Prop} (hq:Y.q≤6):nxG Y P:=by
 rw [nxG_vc]
 simp only [rI,rE,tt3,tt4,tt5,tt13,tt14,and_true,true_and,Nat.zero_lt_one,and_self,implies_true,Int.toNat_natCast,Nat.zero_add,Nat.add_zero,Nat.one_mul,Nat.mul_one,Classical.not_not,iff_self,Bool.false_eq_true,imp_false,and_imp,true_implies,forall_const]
 refine ⟨⟨0,by omega,rfl,rfl⟩,fun z hz=>⟨fun hl=>?_,fun hl=>by rw [show z=Y.q by omega]⟩⟩
 have b:=nxi_bd (sal:=Y.sal) (P:=P) z
 refine ⟨by omega,hl,fun hp=>⟨fun hn=>⟨by omega,z+1,by omega,by omega,(nx_yes hp (.inl hn)).symm,by omega⟩,fun hn=>⟨by omega,hl,by omega,by omega,fun hc=>⟨by omega,z+1,by omega,by omega,(nx_yes hp (.inr hc)).symm,by omega⟩,fun hc=>⟨by omega,z+1,by omega,by omega,(nx_no fun x=>x.2.elim hn hc).symm,by omega⟩⟩⟩,fun hp=>⟨by omega,z+1,by omega,by omega,(nx_no fun x=>hp x.1).symm,by omega⟩⟩
theorem nx_ok:nxC'.Ok Try.prog:=by
 refine ⟨by kernel_rfl,fun x k hk=>?_⟩
 simp only [nxC'] at hk
 split at hk
 ·rename_i g st m sti q sal n f
  obtain ⟨hf,hn,hq,hp,hk⟩:=hk
  subst hn
  have hh:=nx_true (Y:=ydOf g st m sti n sal) (P:=boF f) hq
  unfold nxG at hh
  have e:boL (ydOf g st m sti n sal).q (boF f)=boL n (boF f):=rfl
  rw [e,← hf,← hp] at hh
  exact ⟨_,Does.plain (funH_does nilS_cs nilS_x nilS_ic mixed hh) trivial,hk⟩
 ·exact hk.elim
theorem nx_spec (sal:Nat→Sal) (P:Nat→Prop):∀ k,(nxI sal P k=-1∧∀ i,i<k→¬ P i)∨(0≤nxI sal P k∧P (nxI sal P k).toNat∧∀ i:Nat,i<k→P i→(i:Int)=nxI sal P k∨bef sal (nxI sal P k) i)
 | 0=>.inl ⟨rfl,fun i hi=>by omega⟩
 | k+1=>by
  have b:=nxi_bd (sal:=sal) (P:=P) k
  by_cases c:P k∧(nxI sal P k<0∨(sal (nxI sal P k).toNat).price<(sal k).price)
  ·rw [nx_yes c.1 c.2]
   refine .inr ⟨by omega,by rw [Int.toNat_natCast]; exact c.1,fun i hi hp=>?_⟩
   by_cases e:i=k
   ·exact .inl (by omega)
   ·refine .inr ?_
    rcases nx_spec sal P k with ⟨h1,h2⟩ | ⟨h1,h2,h3⟩
    ·exact absurd hp (h2 i (by omega))
    ·have pc:(sal (nxI sal P k).toNat).price<(sal k).price:=c.2.resolve_left (by omega)
     rcases h3 i (by omega) hp with x | x
     ·left
      unfold prS
      rw [← x] at pc
      simpa using pc
     ·left
      unfold bef prS at x
      unfold prS
      simp only [Int.toNat_natCast] at x ⊢
      omega
  ·rw [nx_no c]
   rcases nx_spec sal P k with ⟨h1,h2⟩ | ⟨h1,h2,h3⟩
   ·refine .inl ⟨h1,fun i hi hp=>?_⟩
    by_cases e:i=k
    ·subst e; exact c ⟨hp,.inl (by omega)⟩
    ·exact h2 i (by omega) hp
   ·refine .inr ⟨h1,h2,fun i hi hp=>?_⟩
    by_cases e:i=k
    ·subst e
     refine .inr ?_
     have:=fun x=>c ⟨hp,.inr x⟩
     unfold bef prS
     simp only [Int.toNat_natCast]
     have hx:¬ (sal (nxI sal P i).toNat).price<(sal i).price:=this
     omega
    ·exact h3 i (by omega) hp
section
variable (Y:Yd)
theorem op_ord {k:Nat} (hk:k<Y.q):nxI Y.sal (opP Y k) Y.q=stF Y.sal Y.q k:=by
 have o:=stF_bd (sal:=Y.sal) Y.q (Nat.le_refl _) k hk
 have hp:opP Y k (stF Y.sal Y.q k).toNat:=fun a ha e=>by
  have:=ord_inj Y.sal (a:=a) (b:=k) (by omega) hk (by omega)
  omega
 rcases nx_spec Y.sal (opP Y k) Y.q with ⟨h1,h2⟩ | ⟨h1,h2,h3⟩
 ·exact absurd hp (h2 _ (by omega))
 ·have b:=nxi_bd (sal:=Y.sal) (P:=opP Y k) Y.q
  rcases h3 (stF Y.sal Y.q k).toNat (by omega) hp with x | x
  ·omega
  ·have ec:(((stF Y.sal Y.q k).toNat:Nat):Int)=stF Y.sal Y.q k:=by omega
   rw [ec] at x
   obtain ⟨b',hb,e⟩:=ord_sur Y.sal (q:=Y.q) (j:=(nxI Y.sal (opP Y k) Y.q).toNat) (by omega)
   have ec2:(((nxI Y.sal (opP Y k) Y.q).toNat:Nat):Int)=nxI Y.sal (opP Y k) Y.q:=by omega
   rw [ec2] at e
   rcases Nat.lt_trichotomy k b' with l | l | l
   ·have y:=ord_lt Y.sal l hb
    rw [e] at y
    unfold bef at x y
    omega
   ·subst l; exact e.symm
   ·exact absurd (by rw [ec2]; exact e) (h2 b' l)
theorem op_none {k:Nat} (hk:Y.q≤k):nxI Y.sal (opP Y k) Y.q=-1:=by
 rcases nx_spec Y.sal (opP Y k) Y.q with ⟨h1,h2⟩ | ⟨h1,h2,h3⟩
 ·exact h1
 ·have b:=nxi_bd (sal:=Y.sal) (P:=opP Y k) Y.q
  obtain ⟨a,ha,e⟩:=ord_sur Y.sal (q:=Y.q) (j:=(nxI Y.sal (opP Y k) Y.q).toNat) (by omega)
  exact absurd e (h2 a (by omega))
theorem op_succ {k i:Nat} (hk:k<Y.q):(i=(stF Y.sal Y.q k).toNat∧False∨¬ i=(stF Y.sal Y.q k).toNat∧opP Y k i)↔opP Y (k+1) i:=by
 have o:=stF_bd (sal:=Y.sal) Y.q (Nat.le_refl _) k hk
 constructor
 ·rintro (⟨-,h⟩ | ⟨h1,h2⟩) a ha e
  ·exact h
  ·by_cases x:a=k
   ·subst x; exact h1 (by omega)
   ·exact h2 a (by omega) e
 ·intro h
  exact .inr ⟨fun e=>h k (by omega) (by omega),fun a ha=>h a (by omega)⟩
end
theorem bo_eq {n:Nat} {P:Nat→Prop} {d:∀ i,Decidable (P i)}:(SV.lst 1 n fun i=>.dec (P i) (d i))=boL n P:=by
 unfold boL
 have:d=fun i=>Classical.propDecidable (P i):=funext fun i=>Subsingleton.elim _ _
 rw [this]
end Go.Proofs.Ytbedomoilakcaaa

set_option maxRecDepth 100000
namespace Go.Proofs.Ytbedomoilakcaaa
open Go Go.Lg
attribute [local irreducible] funS bodyH
theorem ieN {Y:Yd} {n:Nat} {p:Nat→Int} {e:Int} (h:e=erP Y n p) (he:e≠0):0=inI Y n p∧0=inN Y n p∧e=erP Y n p:=by
 have:¬ erP Y n p=0:=by omega
 exact ⟨by rw [inI,if_neg this],by rw [inN,if_neg this],h⟩
theorem plc_succ (Y:Yd) (p:Nat→Int) (k:Nat):(plX Y p (k+1)).c=(plX Y p k).c+p k*(Y.sti k).pay:=rfl
theorem ic_true (Y:Yd) (n:Nat) (p:Nat→Int):icG Y n p:=by
 rw [icG_vc]
 simp only [icG0,icG1,icG2,icG3,icG4,rI,rE,tt3,tt4,tt5,tt13,tt14,rI,rE,tt3,tt4,tt5,tt13,tt14,and_true,true_and,Nat.zero_lt_one,and_self,implies_true,Int.toNat_natCast,Nat.zero_add,Nat.add_zero,Nat.one_mul,Nat.mul_one,Classical.not_not,iff_self,Bool.false_eq_true,imp_false,and_imp,true_implies,forall_const,ft_fold,sti_fold,sal_fold,yd_fold,iOf_fold,stiOf_fold,salOf_fold,yv_fold,n10,n20,n100,n00,false_implies,not_false_eq_true,not_true_eq_false,if_true]
 refine (Classical.em (okYd Y)).elim (fun h=>?_) fun h=>⟨fun _=>ieN (er1 h).2 (by decide),fun x=>absurd x h⟩
 refine ⟨fun x=>absurd h x,fun _=>⟨fun hne=>ieN (er2 h fun x=>hne (by rw [x.e])).2 (by decide),fun hmm=>⟨⟨0,⟨by omega,by omega,fun i hi=>by omega⟩,rfl⟩,fun z hz hn hb=>⟨fun hl=>⟨by omega,hl,by omega,by omega,fun hno=>ieN (er2 h fun x=>hno (x.h z (by omega))).2 (by decide),fun h0 h1=>⟨by have:=h.s.a; omega,z+1,⟨by omega,hn,fun i hi=>?_⟩,by omega,by omega⟩⟩,fun hl=>?_⟩⟩⟩⟩
 ·by_cases e:i=z
  ·subst e; exact ⟨h0,h1⟩
  ·exact hb i (by omega)
 subst hn
 have hp:okPl Y.m Y.sti Y.m p:=⟨rfl,fun i hi=>hb i (by omega)⟩
 have g6:=h.g.b
 have m4:=h.s.a
 refine ⟨⟨0,by omega,rfl,rfl,rfl,rfl⟩,fun z1 hz1=>⟨fun hl=>⟨by omega,hl,by omega,hl,by omega,by omega,by omega,z1+1,by omega,by omega,rfl,by omega,rfl,fun i hi=>?_⟩,fun hl=>⟨⟨0,⟨by omega,fun i hi=>by omega⟩,by omega,rfl,by omega,fun i hi=>?_⟩,fun i hi hc=>⟨fun hl=>?_,fun hl=>?_⟩⟩⟩⟩
 ·by_cases e:i<z1
  ·rw [if_pos e]
  ·have:i=z1:=by omega
   subst this; rw [if_neg e]
 ·show Y.st i=(if i<Y.g then (⟨Y.st i,Y.st i⟩:Tw) else ⟨0,0⟩).lo∧Y.st i=(if i<Y.g then (⟨Y.st i,Y.st i⟩:Tw) else ⟨0,0⟩).hi
  rw [if_pos hi]; exact ⟨rfl,rfl⟩
 ·have him:i<Y.m:=by omega
  have s:=(h.s.b i him).2
  have b:=hp.h i him
  unfold okNb at b
  have i0:=s.i0
  have i1:=s.i1
  have t0:=s.t0
  have t1:=s.t1
  have m1:=s.m1
  refine ⟨by omega,hl,⟨⟨him,by show (((0:Int).toNat:Nat):Int)≤p i; omega,?_⟩,rfl,fun j hj=>⟨by simp,by simp⟩⟩,?_⟩
  ·show (((0:Int).toNat:Nat):Int)*_≤_
   have:=pl_nn h hp i hi hc (Y.sti i).inn.toNat (by omega)
   simpa using this
  rintro ⟨i',k⟩ ha e
  simp only at e
  subst e
  have ak:=ha.b
  have ac:=ha.c
  simp only at ak ac ⊢
  refine ⟨by omega,by omega,fun hk=>⟨i0,by omega,by omega,fun hlt=>ieN (er3 h hp (no_can h hp him hk hlt)).2 (by decide),fun hge=>?_⟩,fun hk=>⟨by omega,i'+1,⟨by omega,(canL_succ h hp).2 ⟨hc,?_⟩⟩,by omega,by omega,fun j hj=>?_⟩⟩
  ·have B:_:=bt_bd h hp him (k:=k) (by omega) (j:=(Y.sti i').inn.toNat) (by omega)
   simp only [btF] at B
   refine ⟨i0,by omega,by omega,by omega,i0,by omega,by omega,by omega,i0,by omega,by omega,by omega,⟨⟨him,hk,can_next h hp him hge,Nat.zero_le _⟩,rfl,fun j hj=>?_⟩,?_⟩
   ·exact bm_in h (k:=k) him
   rintro ⟨i2,k2,j⟩ hb2 e2
   have ba:=hb2.a
   have bb:=hb2.b
   have bc:=hb2.c
   have bd:=hb2.d
   simp only at e2 ba bb bc bd ⊢
   have b2:=hp.h i2 ba
   unfold okNb at b2
   have m2:=(h.s.b i2 ba).2.m1
   obtain ⟨rfl,rfl⟩:i2=i'∧k2=k:=by omega
   refine ⟨fun hj=>?_,fun hj=>⟨by omega,⟨⟨him,?_,?_⟩,rfl⟩,?_,by omega,fun j1 hj1=>?_⟩⟩
   ·have C:=bm_bd h hp him (k:=k2) (by omega) (j:=j) (by omega)
    have on:=s.n
    have e1:((j:Int)+1).toNat=j+1:=by omega
    rw [e1]
    exact ⟨by omega,hj,by omega,by omega,by omega,by omega,by omega,hj,by omega,by omega,by omega,by omega,by omega,hj,by omega,by omega,by omega,⟨⟨him,bb,bc,by show j+1≤Y.g; omega⟩,rfl⟩,by omega,by omega,fun i hi=>bm_st _ _ _ _ _⟩
   ·show ((((k2:Int)+1).toNat:Nat):Int)≤p i2
    omega
   ·show ((((k2:Int)+1).toNat:Nat):Int)*_≤_
    rw [show ((((k2:Int)+1).toNat:Nat):Int)=k2+1 by omega]
    exact bc
   ·omega
   ·have e1:((k2:Int)+1).toNat=k2+1:=by omega
    rw [e1,bmF_last (by omega)]
    exact ⟨rfl,rfl⟩
  ·unfold canP
   have:p i'=k:=by omega
   rw [this]; exact ac
  ·have e1:=pl_succ h hp him hj
   rw [show (p i').toNat=k by omega] at e1
   rw [← e1]
   exact ⟨rfl,rfl⟩
 ·have:i=Y.m:=by omega
  subst this
  have e0:=(er0 h hp hc).2
  have eN:inN Y Y.m p=Y.q:=by rw [inN,if_pos e0.symm]
  have eI:inI Y Y.m p=(inS Y p).c - (plX Y p Y.m).c:=by rw [inI,if_pos e0.symm]
  have q6:=h.l.a
  have ho:=or_of h
  have hb1:bdG 10000000000 (plX Y p Y.m).l:=bd_mono (pl_bd h hp Y.m (Nat.le_refl _)).1 (by omega)
  refine ⟨⟨0,⟨by omega,rfl⟩,by show 0=-(0:Int); omega,rfl,fun j hj=>⟨rfl,rfl⟩⟩,fun z2 hz2 _=>⟨fun hl=>?_,fun hl=>⟨?_,⟨0,by omega,rfl,fun j hj=>⟨fun x=>x.elim,fun x=>by omega⟩⟩,fun z3 hz3=>⟨fun hl3=>⟨by omega,hl3,by omega,by omega,by omega,z3+1,by omega,by omega,by omega,fun j hj=>?_⟩,fun hl3=>⟨Nat.le_refl _,q6,bo_eq,⟨0,by omega,by show _=_+(0:Int); omega,?_,fun j hj=>⟨rfl,rfl⟩,fun j hj=>rfl,fun j hj=>?_⟩,fun z4 hz4=>⟨fun hn=>?_,fun hn=>?_⟩⟩⟩⟩⟩⟩
  ·have b:=hp.h z2 (by omega)
   unfold okNb at b
   have s:=(h.s.b z2 (by omega)).2
   have py:=mul_bd b.1 (Int.le_trans b.2 s.m1) s.p0 s.p1
   have c:=(pl_bd h hp z2 (by omega)).2
   exact ⟨by omega,hl,by omega,hl,by omega,by omega,by omega,z2+1,⟨by omega,rfl⟩,by omega,by rw [plc_succ]; omega,by omega⟩
  ·have:z2=Y.m:=by omega
   subst this
   refine ⟨⟨?_,?_,?_,?_,?_,?_,?_,?_,rfl⟩,?_,?_,?_,?_,?_,?_,?_,?_,rfl⟩ <;> omega
  ·omega
  ·exact nx_congr Y.q fun i hi=>⟨fun _ a ha=>by omega,fun _=>by show i<z3; omega⟩
  ·exact ⟨fun _ a ha=>by omega,fun _=>by omega⟩
  ·have hzq:z4<Y.q:=by
    refine Classical.byContradiction fun x=>?_
    rw [op_none Y (by omega)] at hn
    omega
   rw [op_ord Y hzq] at hn ⊢
   have ob:=ho.b z4 hzq
   have hoi:(stF Y.sal Y.q z4).toNat<Y.q:=by omega
   have sl:=h.l.b _ hoi
   have gg:=gd_lt h hp hc hoi
   have g0:=sl.g0
   have g1:=sl.g1
   have am:min (Y.sal (stF Y.sal Y.q z4).toNat).most ((sS Y p z4).l (Y.sal (stF Y.sal Y.q z4).toNat).good.toNat).lo=ssA Y.sal (sS Y p z4) (stF Y.sal Y.q z4):=by unfold ssA; omega
   rw [am]
   have av:=ssA_bd h hp hc hoi hz4
   rw [show (((stF Y.sal Y.q z4).toNat:Nat):Int)=stF Y.sal Y.q z4 by omega] at av
   have sb:=se_bd ho hb1 z4 hz4
   have lb:=sb.1 (Y.sal (stF Y.sal Y.q z4).toNat).good.toNat (by omega)
   have cb:=sb.2
   have pc:=(pl_bd h hp Y.m (Nat.le_refl _)).2
   have sp:=mul_bd av.1 (Int.le_trans av.2.1 sl.m1) sl.p0 sl.p1
   have ec:(sS Y p (z4+1)).c=(sS Y p z4).c+ssA Y.sal (sS Y p z4) (stF Y.sal Y.q z4)*(Y.sal (stF Y.sal Y.q z4).toNat).price:=rfl
   unfold sS at av ec sp ⊢
   refine ⟨by omega,by omega,by omega,by omega,by omega,by omega,by omega,by omega,by omega,by omega,by omega,by omega,by omega,by omega,by omega,by omega,by omega,by omega,by omega,by omega,by omega,by omega,by omega,by omega,by omega,by omega,by omega,by omega,by omega,Nat.le_refl _,q6,bo_eq,z4+1,by omega,by omega,by omega,?_,fun j hj=>?_,fun j hj=>?_,fun j hj=>op_succ Y hzq⟩
   ·refine nx_congr Y.q fun i hi=>?_
    show (i=(stF Y.sal Y.q z4).toNat∧(false=true)∨¬ i=(stF Y.sal Y.q z4).toNat∧opP Y z4 i)↔opP Y (z4+1) i
    simp only [Bool.false_eq_true]
    exact op_succ Y hzq
   ·show _=(if j=(Y.sal (stF Y.sal Y.q z4).toNat).good.toNat then (⟨((sS Y p z4).l j).lo - ssA Y.sal (sS Y p z4) (stF Y.sal Y.q z4),((sS Y p z4).l j).hi⟩:Tw) else (sS Y p z4).l j).lo∧_=(if j=(Y.sal (stF Y.sal Y.q z4).toNat).good.toNat then (⟨((sS Y p z4).l j).lo - ssA Y.sal (sS Y p z4) (stF Y.sal Y.q z4),((sS Y p z4).l j).hi⟩:Tw) else (sS Y p z4).l j).hi
    unfold sS
    by_cases e:j=(Y.sal (stF Y.sal Y.q z4).toNat).good.toNat
    ·simp only [if_pos e]; rw [← e]; and_intros <;> first | rfl | trivial
    ·simp only [if_neg e]; exact ⟨trivial,trivial⟩
   ·rfl
  ·have hzq:z4=Y.q:=by
    refine Classical.byContradiction fun x=>hn ?_
    rw [op_ord Y (by omega)]
    exact (ho.b z4 (by omega)).1
   subst hzq
   rw [eN,eI]
   exact ⟨by show _+(inS Y p).c=_; omega,rfl,Nat.le_refl _,fun j hj=>rfl,e0⟩
theorem ic_ok:icC.Ok Try.prog:=by
 refine ⟨by kernel_rfl,fun x k hk=>?_⟩
 simp only [icC] at hk
 split at hk
 ·rename_i g st m sti q sal n p
  obtain ⟨hf,hp,hk⟩:=hk
  have hh:=ic_true (ydOf g st m sti q sal) n (iOf p)
  unfold icG at hh
  rw [← hf,← hp] at hh
  refine ⟨_,newD (one_cs nx_ok) ?_ nilS_ic hh (by simp [flatS,flatSL,scS,SV.cells,iL,icR]),hk⟩
  unfold icX
  exact inl_sound (two_cs ry_ok rfr_ok) (by unfold lrX; exact inl_sound nilS_cs nilS_x (ys:=none) trivial nilS_ic mixed) (ys:=none) trivial nilS_ic mixed
 ·exact hk.elim
end Go.Proofs.Ytbedomoilakcaaa
