import Derived.Test.YtlhdlkplgafolaaJuJjJvJwKaKaVKbKcJxaKkKlKnKq
import Derived.Test.YtlhdlkplgafolaaJkJkVJktJlJmJmVJntJnJo
set_option linter.unusedVariables false
set_option linter.unusedSimpArgs false
namespace Go.Proofs.Ytlhdlkplgafolaa
open Go Go.Lg
attribute [local irreducible] bodyH funS
noncomputable def snapM (X:XS) (m':Nat) (f':Nat→Sti) (v:SV):Prop:=match v with
 | .sl r o n=>(match X.row r with
  | some R=>(match R.f 9223372036854775808 with
   | .tup [.lst _ n1 f,.lst _ m g]=>Nat.beq R.sz 5=true∧o=0∧R.f=appP n1 m f g∧R.n=n1+m∧n1+m≤4611686018427387904∧m'=n∧n=n1+m∧(∀ i,i<n1→(f i).cells.length=5∧snapP X (f' i).sv (f i) True)∧(∀ i,i<m→(g i).cells.length=5∧snapP X (f' (n1+i)).sv (g i) True)
   | _=>snapP X (stiL m' f') (.sl r o n) True)
  | none=>False)
 | v=>snapP X (stiL m' f') v True
theorem snapM_spec {X:XS} {m':Nat} {f':Nat→Sti} {v:SV} (h:snapM X m' f' v):SnapN 0 X.den v.den (stiL m' f').den:=by
 unfold snapM at h
 split at h
 ·rename_i r o n
  split at h
  ·rename_i R hR
   split at h
   ·rename_i s1 n1 f s2 m g hf
    obtain ⟨h1,h2,h3,h4,h5,h6,h7,h8,h9⟩:=h
    simp only [Nat.beq_eq] at h1
    subst h2 h6 h7
    have c5:∀ i,(f' i).sv.cells.length=5:=fun i=>rfl
    have el:∀ i,i<n1+m→(R.f i).cells.length=5∧snapP X (f' i).sv (R.f i) True:=fun i hi=>by
     rw [h3]
     by_cases hn:i<n1
     ·rw [appP_lo h5 hn]; exact h8 i hn
     ·obtain ⟨j,rfl⟩:∃ j,i=n1+j:=⟨i - n1,by omega⟩
      rw [appP_hi h5 (by omega)]; exact h9 j (by omega)
    have g:∀ i,i<n1+m→((List.range (n1+m)).map fun i=>((f' i).sv).den).getD i .any=((f' i).sv).den:=fun i hi=>by simp [List.getD,hi]
    show SnapN 0 X.den (AV.sl r 0 (n1+m)) (AV.isl 5 ((List.range (n1+m)).map fun i=>((f' i).sv).den))
    have h1':R.den.sz=5:=h1
    rw [← h1']
    refine .sl r 0 (n1+m) R.den _ (X.row_get hR) (by show 0+(n1+m)≤R.els.length; rw [els_length]; omega) (by simp) (fun i hi=>?_) (fun i hi j hj=>?_) (Nat.zero_le _)
    ·rw [g i hi,den_cells,denL_length,h1']; exact c5 i
    ·rw [g i hi]
     show SnapN 0 X.den ((R.els.getD (0+i) .any).cells.getD j .any) _
     rw [Nat.zero_add,els_get (by omega)]
     exact (snapP_spec _ _ (el i hi).2).1.cells j (by rw [den_cells,denL_length,(el i hi).1,← h1]; exact hj)
   ·exact (snapP_spec _ _ h).1
  ·exact h.elim
 ·exact (snapP_spec _ _ h).1
noncomputable def csZ (rest:CSpec):CSpec:=fun g args X k=>match Nat.beq 11 g with
 | true=>(match args with
  | [.agg [a,b,c]]=>∃ Z:Yd,snapP X (iL Z.g Z.st) a (snapM X Z.m Z.sti b∧snapP X (salL Z.q Z.sal) c True)∧k (pnR Z)
  | _=>False)
 | false=>rest g args X k
theorem csZ_sound {rest:CSpec} (hr:SoundS Try.prog rest):SoundS Try.prog (csZ rest):=by
 intro g args X k hk
 unfold csZ at hk
 split at hk
 ·rename_i hb
  obtain rfl:11=g:=by simpa using hb
  split at hk
  ·rename_i a b c
   obtain ⟨Z,h1,h2⟩:=hk
   obtain ⟨ha,hb,hc⟩:=snapP_spec _ _ h1
   have hb:=snapM_spec hb
   have hc:=(snapP_spec _ _ hc).1
   have h3:SnapN 0 X.den (SV.agg [a,b,c]).den Z.sv.den:=.agg _ _ rfl fun j hj=>by
    match j with
    | 0=>exact ha
    | 1=>exact hb
    | 2=>exact hc
    | j+3=>simp [SV.denL] at hj; omega
   obtain ⟨res,h4,h5⟩:=pn_ok.2 [Z.sv] (fun r=>r=pnR Z) ⟨rfl,rfl⟩
   subst h5
   exact ⟨pn_ok.1,_,fun xs=>.inl (.inl ⟨SV.denL [Z.sv],⟨rfl,fun j hj=>by
    have:j=0:=by simp [SV.denL] at hj; omega
    subst this
    exact h3.app xs⟩,h4⟩),h2⟩
  ·exact hk.elim
 ·exact hr _ _ _ _ hk
end Go.Proofs.Ytlhdlkplgafolaa

namespace Go.Proofs.Ytlhdlkplgafolaa
open Go Go.Lg
attribute [local irreducible] bodyH funS
noncomputable def csM:CSpec:=csZ (ctrs [lgC,awC,ydC 21])
noncomputable def regM (nr:Nat) (ms:FS→XS→Ms) (t:FS) (X:XS) (D E:DS):HSpec :=
 { toLSpec:={ σ:=Unit,inv:=fun _=>True,μ:=fun _=>0,nr:=nr,ms:=ms,t:=fun _=>t,X:=fun _=>X,rd:=fun _ _ k=>k (),rdOK:=fun _ _ _ h=>⟨(),h⟩ },D:=D,E:=E }
def slsR:Option SRow→Ms
 | some R=>(match R.f 0 with
  | .agg [.sl a _ _,.sl b _ _,.sl c _ _]=>[some a,some b,some c]
  | _=>[])
 | none=>[]
noncomputable def richX (Y:Yd):XS:=mkX [vr 3 Y.sv,vr 3 (.agg [.sl 2 0 Y.g,.sl 3 0 Y.m,.sl 4 0 Y.q]),rw' 1 Y.g fun i=>i6 (Y.st i),rw' 5 Y.m fun i=>(Y.sti i).sv,rw' 3 Y.q fun i=>(Y.sal i).sv]
noncomputable def tmF (Y:Yd) (w bq:Int) (l:List (Nat × SV)):FS:=mkF 232 ([(2,.int .u8 bq),(3,.ptr 0 0 0),(8,i6 (pnI Y)),(10,i6 w),(11,.ptr 1 0 0)] ++ l)
noncomputable def tmL (Y:Yd) (w bq:Int):Nat→Option HSpec :=
 oneL 1010 (regM 2 (fun t X=>slsR (X.row 1)) (tmF Y w bq []) (richX Y) [(2,0),(6,0),(10,0),(13,1),(15,1),(17,1)] [(3,0),(7,0),(11,0)])
noncomputable def tmG (Y:Yd) (w bq:Int):Prop:=funH Try.prog csM (litD noX) (ictrs []) (tmL Y w bq) noL 7 [Y.sv,.int .u8 w,.int .u8 bq] (.bool true)
end Go.Proofs.Ytlhdlkplgafolaa

set_option maxRecDepth 100000
namespace Go.Proofs.Ytlhdlkplgafolaa
open Go Go.Lg
def tmG3 (Y:Yd) (Zp2_0:Yd):Prop:=(Y.1=Zp2_0.1∧(∀ (i_1:Nat),i_1<Zp2_0.1→(i6 (Y.st i_1)).den=(i6 (Zp2_0.st i_1)).den∧True)∧(rE true∧rE (0:Nat)∧((rowsK (Try.prog.cellsOf (48:Nat)) (1+Y.m) (appP (1:Nat) Y.m (chainF [SV.agg [SV.int IntKind.i64 0,SV.int IntKind.i64 1,SV.sl (6:Nat) (0:Nat) (↑Y.1:Int).toNat,SV.int IntKind.i64 0,SV.int IntKind.i64 0]]) fun i=>(Y.sti i).sv)).f=appP (1:Nat) Y.m (chainF [SV.agg [SV.int IntKind.i64 0,SV.int IntKind.i64 1,SV.sl (6:Nat) (0:Nat) (↑Y.1:Int).toNat,SV.int IntKind.i64 0,SV.int IntKind.i64 0]]) fun i=>(Y.sti i).sv)∧rE (1+Y.3)∧1+Y.3≤(4611686018427387904:Nat)∧Zp2_0.3=1+Y.3∧rE (1+Y.3)∧(∀ (i_1:Nat),i_1<(1:Nat)→rE (5:Nat)∧(0:Int)=(Zp2_0.sti i_1).1∧(1:Int)=(Zp2_0.sti i_1).2∧(↑Y.1:Int).toNat=(Zp2_0.sti i_1).3∧0+(Zp2_0.sti i_1).3≤(↑Y.1:Int).toNat∧(∀ (i_2:Nat),i_2<(Zp2_0.sti i_1).3→rE (2:Nat)∧rE (2:Nat)∧(0:Int)=((Zp2_0.sti i_1).out i_2).1∧(0:Int)=((Zp2_0.sti i_1).out i_2).2∧True)∧(0:Int)=(Zp2_0.sti i_1).5∧(0:Int)=(Zp2_0.sti i_1).6∧True)∧∀ (i_1:Nat),i_1<Y.3→rE (5:Nat)∧(Y.sti i_1).1=(Zp2_0.sti (1+i_1)).1∧(Y.sti i_1).2=(Zp2_0.sti (1+i_1)).2∧(Y.sti i_1).3=(Zp2_0.sti (1+i_1)).3∧(∀ (i_2:Nat),i_2<(Zp2_0.sti (1+i_1)).3→((Y.sti i_1).out i_2).sv.den=((Zp2_0.sti (1+i_1)).out i_2).sv.den∧True∧True∧True)∧(Y.sti i_1).5=(Zp2_0.sti (1+i_1)).5∧(Y.sti i_1).6=(Zp2_0.sti (1+i_1)).6∧True)∧Y.5=Zp2_0.5∧(∀ (i_1:Nat),i_1<Zp2_0.5→(Y.sal i_1).sv.den=(Zp2_0.sal i_1).sv.den∧True∧True∧True∧True)∧True)
def tmG6 (Y:Yd) (Zp2_0:Yd):Prop:=(pnI Zp2_0=pnI Y→(pnE Zp2_0=(0:Int)→(0:Nat)<(1:Nat)∧rI ((↑Y.3:Int)+(1:Int))∧((↑(pnN Zp2_0):Int)=(↑Y.3:Int)+(1:Int)→(0:Int)≤(0:Int)∧(0:Int)<(↑(pnN Zp2_0):Int)∧(pnF Zp2_0 (Int.toNat (0:Int))=(0:Int)→rE true∧True)∧(¬pnF Zp2_0 (Int.toNat (0:Int))=(0:Int)→false=true∧True))∧(¬(↑(pnN Zp2_0):Int)=(↑Y.3:Int)+(1:Int)→false=true∧True))∧(¬pnE Zp2_0=(0:Int)→false=true∧True))
def tmG13 (Y:Yd):Prop:=(True∧(∀ (i:Nat),i<Y.3→rE true)∧rE (0:Nat)∧rE (1:Nat)∧1+Y.3≤(4611686018427387904:Nat)∧(1+Y.3)*(56:Nat)≤(140737488355328:Nat)∧1+Y.3≤(4611686018427387904:Nat)∧(0:Nat)<(1:Nat)∧∃ (Zp2_0:Yd),(tmG3 Y Zp2_0)∧(tmG6 Y Zp2_0)∧(¬pnI Zp2_0=pnI Y→false=true∧True))
def tmG0 (Y:Yd) (Zp2_1:Yd) (Zp2_2:Yd):Prop:=(¬¬pnE Zp2_2=(0:Int)→(pnI Zp2_2<pnI Zp2_1→false=true∧True)∧(¬pnI Zp2_2<pnI Zp2_1→(0:Nat)<(1:Nat)∧((4:Int)≤(↑Y.3:Int)→rE true∧True)∧(¬(4:Int)≤(↑Y.3:Int)→(0:Nat)<(1:Nat)∧(0:Nat)<(1:Nat)∧((0:Int)≤(↑Y.1:Int)∧(↑Y.1:Int)≤(↑Y.1:Int)∧(↑Y.1:Int)≤(1048576:Int)∧(↑Y.1:Int)*(↑(16:Nat):Int)≤(140737488355328:Int)∧(True∧(0:Nat)<(1:Nat)∧(∀ (i:Nat),i<Y.3→rE true)∧rE (0:Nat)∧rE (1:Nat)∧1+Y.3≤(4611686018427387904:Nat)∧(1+Y.3)*(56:Nat)≤(140737488355328:Nat)∧1+Y.3≤(4611686018427387904:Nat)∧(0:Nat)<(1:Nat)∧∃ (Zp2_0:Yd),(tmG3 Y Zp2_0)∧(tmG6 Y Zp2_0)∧(¬pnI Zp2_0=pnI Y→false=true∧True))∧((0:Nat)<(1:Nat)∧(tmG13 Y)∧True)∧True)∧((0:Nat)<(1:Nat)∧(0:Int)≤(↑Y.1:Int)∧(↑Y.1:Int)≤(↑Y.1:Int)∧(↑Y.1:Int)≤(1048576:Int)∧(↑Y.1:Int)*(↑(16:Nat):Int)≤(140737488355328:Int)∧(tmG13 Y)∧True)∧True)))
def tmG9 (Y:Yd):Prop:=(∀ (i:Nat),i<Y.5→rE (3:Nat)∧(if i<(0:Nat) then (0:Int) else (Y.sal (i - (0:Nat))).1)=(Y.sal i).1∧(if i<(0:Nat) then (0:Int) else (Y.sal (i - (0:Nat))).2)=(Y.sal i).2∧(if i<(0:Nat) then (0:Int) else (Y.sal (i - (0:Nat))).3)=(Y.sal i).3∧True)
def tmG12 (Y:Yd):Prop:=(∀ (i:Nat),i<Y.3→rE (5:Nat)∧rE ((Y.sti i).1)∧rE ((Y.sti i).2)∧rE ((Y.sti i).3)∧(∀ (i_1:Nat),i_1<(Y.sti i).3→rE (((Y.sti i).out i_1).sv.den)∧True∧True∧True)∧rE ((Y.sti i).5)∧rE ((Y.sti i).6)∧True)
def tmG14 (Y:Yd):Prop:=(∀ (i:Nat),i<Y.3→rE ((Y.sti i).sv.den)∧True∧True∧(∀ (i_1:Nat),i_1<(Y.sti i).3→True∧True∧True)∧True∧True∧True)
def tmG1 (Y:Yd) (w:Int) (bq:Int) (Zp2_0:Yd):Prop:=(True∧True∧(True∧True∧(∀ (i:Nat),i<Y.1→rE true)∧rE (0:Nat)∧rE (0:Nat)∧(∀ (i:Nat),rE true)∧(0+Y.1)*(8:Nat)≤(140737488355328:Nat)∧0+Y.1≤(4611686018427387904:Nat)∧True∧True∧(∀ (i:Nat),i<Y.3→rE true)∧rE (0:Nat)∧rE (0:Nat)∧rE (0:Nat)∧Y.3*(56:Nat)≤(140737488355328:Nat)∧Y.3≤(4611686018427387904:Nat)∧True∧True∧(∀ (i:Nat),i<Y.5→rE true)∧rE (0:Nat)∧rE (0:Nat)∧(∀ (i:Nat),rE true)∧(0+Y.5)*(24:Nat)≤(140737488355328:Nat)∧0+Y.5≤(4611686018427387904:Nat)∧True∧True∧True∧True∧True∧True∧True∧True∧True∧True∧True∧True∧True∧bq=bq∧rE (0:Nat)∧rE (0:Nat)∧pnI Zp2_0=pnI Y∧w=w∧rE (0:Nat)∧rE (0:Nat)∧Y.1=Y.1∧(∀ (i:Nat),i<Y.1→rE ((i6 (Y.st i)).den)∧True)∧Y.3=Y.3∧(tmG14 Y)∧Y.5=Y.5∧(∀ (i:Nat),i<Y.5→rE ((Y.sal i).sv.den)∧True∧True∧True∧True)∧rE (0:Nat)∧0+Y.1=Y.1∧rE (0:Nat)∧Y.3=Y.3∧rE (0:Nat)∧0+Y.5=Y.5∧Y.1=0+Y.1∧(∀ (i:Nat),i<Y.1→rE (1:Nat)∧(if i<(0:Nat) then (0:Int) else Y.2 (i - (0:Nat)))=Y.2 i∧True)∧Y.3=Y.3∧(tmG12 Y)∧Y.5=0+Y.5∧(tmG9 Y)∧True)∧True)
def tmG2 (Y:Yd) (w:Int) (bq:Int) (Zp2_0:Yd):Prop:=(True∧True∧True∧True∧(∀ (i:Nat),i<Y.3→rE true)∧rE (0:Nat)∧rE (0:Nat)∧rE (0:Nat)∧Y.3*(56:Nat)≤(140737488355328:Nat)∧Y.3≤(4611686018427387904:Nat)∧True∧True∧(∀ (i:Nat),i<Y.5→rE true)∧rE (0:Nat)∧rE (0:Nat)∧(∀ (i:Nat),rE true)∧(0+Y.5)*(24:Nat)≤(140737488355328:Nat)∧0+Y.5≤(4611686018427387904:Nat)∧True∧True∧True∧True∧True∧True∧True∧True∧True∧True∧True∧bq=bq∧rE (0:Nat)∧rE (0:Nat)∧pnI Zp2_0=pnI Y∧w=w∧rE (0:Nat)∧rE (0:Nat)∧Y.1=Y.1∧(∀ (i:Nat),i<Y.1→rE ((i6 (Y.st i)).den)∧True)∧Y.3=Y.3∧(tmG14 Y)∧Y.5=Y.5∧(∀ (i:Nat),i<Y.5→rE ((Y.sal i).sv.den)∧True∧True∧True∧True)∧rE (0:Nat)∧0+Y.1=Y.1∧rE (0:Nat)∧Y.3=Y.3∧rE (0:Nat)∧0+Y.5=Y.5∧Y.1=0+Y.1∧(∀ (i:Nat),i<Y.1→rE (1:Nat)∧(if i<(0:Nat) then (0:Int) else Y.2 (i - (0:Nat)))=Y.2 i∧True)∧Y.3=Y.3∧(tmG12 Y)∧Y.5=0+Y.5∧(tmG9 Y)∧True)
def tmG4 (Y:Yd) (w:Int) (bq:Int) (Zp2_0:Yd):Prop:=(True∧True∧(∀ (i:Nat),i<Y.3→rE true)∧rE (0:Nat)∧rE (0:Nat)∧rE (0:Nat)∧Y.3*(56:Nat)≤(140737488355328:Nat)∧Y.3≤(4611686018427387904:Nat)∧(True∧True∧True∧True∧(∀ (i:Nat),i<Y.5→rE true)∧rE (0:Nat)∧rE (0:Nat)∧(∀ (i:Nat),rE true)∧(0+Y.5)*(24:Nat)≤(140737488355328:Nat)∧0+Y.5≤(4611686018427387904:Nat)∧True∧True∧True∧True∧True∧True∧True∧True∧True∧True∧True∧bq=bq∧rE (0:Nat)∧rE (0:Nat)∧pnI Zp2_0=pnI Y∧w=w∧rE (0:Nat)∧rE (0:Nat)∧Y.1=Y.1∧(∀ (i:Nat),i<Y.1→rE ((i6 (Y.st i)).den)∧True)∧Y.3=Y.3∧(tmG14 Y)∧Y.5=Y.5∧(∀ (i:Nat),i<Y.5→rE ((Y.sal i).sv.den)∧True∧True∧True∧True)∧rE (0:Nat)∧0+Y.1=Y.1∧rE (0:Nat)∧Y.3=Y.3∧rE (0:Nat)∧0+Y.5=Y.5∧Y.1=0+Y.1∧(∀ (i:Nat),i<Y.1→rE (1:Nat)∧(if i<(0:Nat) then (0:Int) else Y.2 (i - (0:Nat)))=Y.2 i∧True)∧Y.3=Y.3∧(tmG12 Y)∧Y.5=0+Y.5∧(tmG9 Y)∧True)∧True)
def tmG5 (Y:Yd) (w:Int) (bq:Int) (Zp2_2:Yd):Prop:=(∀ (i_3:Nat),i_3<Zp2_2.5→rE (3:Nat)∧rE (3:Nat)∧(if i_3+0=0+(w.tmod (↑Y.5:Int)).toNat then if i_3+0=0+(w.tmod (↑Y.5:Int)).toNat then (Y.sal (i_3+0)).1 else (Y.sal (i_3+0)).1 else if i_3+0=0+(w.tmod (↑Y.5:Int)).toNat then (Y.sal (i_3+0)).1 else (Y.sal (i_3+0)).1)=(Zp2_2.sal i_3).1∧(if i_3+0=0+(w.tmod (↑Y.5:Int)).toNat then min (1048576:Int) ((Y.sal (0+(w.tmod (↑Y.q:Int)).toNat)).2+bq.tmod (7:Int)) else if i_3+0=0+(w.tmod (↑Y.5:Int)).toNat then (Y.sal (i_3+0)).2 else (Y.sal (i_3+0)).2)=(Zp2_2.sal i_3).2∧(if i_3+0=0+(w.tmod (↑Y.5:Int)).toNat then if i_3+0=0+(w.tmod (↑Y.5:Int)).toNat then min (1000000:Int) ((Y.sal (0+(w.tmod (↑Y.q:Int)).toNat)).3+bq.tmod (5:Int)) else (Y.sal (i_3+0)).3 else if i_3+0=0+(w.tmod (↑Y.5:Int)).toNat then min (1000000:Int) ((Y.sal (0+(w.tmod (↑Y.q:Int)).toNat)).3+bq.tmod (5:Int)) else (Y.sal (i_3+0)).3)=(Zp2_2.sal i_3).3∧True)
def tmG7 (Y:Yd) (w:Int) (bq:Int) (Zp2_2:Yd):Prop:=(∀ (i_3:Nat),i_3<Zp2_2.1→rE (1:Nat)∧rE (1:Nat)∧(if i_3+0=0+(w.tmod (↑Y.1:Int)).toNat then min (1048576:Int) (Y.2 (0+(w.tmod (↑Y.g:Int)).toNat)+bq.tmod (9:Int)) else Y.2 (i_3+0))=Zp2_2.2 i_3∧True)
def tmG8 (Y:Yd) (w:Int) (bq:Int) (Zp2_2:Yd):Prop:=(Y.3=Zp2_2.3∧0+Zp2_2.3≤Y.3∧(∀ (i_3:Nat),i_3<Zp2_2.3→rE (5:Nat)∧rE (5:Nat)∧(Y.sti (i_3+0)).1=(Zp2_2.sti i_3).1∧(Y.sti (i_3+0)).2=(Zp2_2.sti i_3).2∧(Y.sti (i_3+0)).3=(Zp2_2.sti i_3).3∧(∀ (i_4:Nat),i_4<(Zp2_2.sti i_3).3→((Y.sti (i_3+0)).out i_4).sv.den=((Zp2_2.sti i_3).out i_4).sv.den∧True∧True∧True)∧(if i_3+0=0+(w.tmod (↑Y.3:Int)).toNat then max (0:Int) ((Y.sti (0+(w.tmod (↑Y.m:Int)).toNat)).5 - bq.tmod (5:Int)) else (Y.sti (i_3+0)).5)=(Zp2_2.sti i_3).5∧(Y.sti (i_3+0)).6=(Zp2_2.sti i_3).6∧True)∧True)
def tmG10 (Y:Yd) (Zp2_1:Yd):Prop:=(Y.3=Zp2_1.3∧0+Zp2_1.3≤Y.3∧(∀ (i_2:Nat),i_2<Zp2_1.3→rE (5:Nat)∧rE (5:Nat)∧(Y.sti (i_2+0)).1=(Zp2_1.sti i_2).1∧(Y.sti (i_2+0)).2=(Zp2_1.sti i_2).2∧(Y.sti (i_2+0)).3=(Zp2_1.sti i_2).3∧(∀ (i_3:Nat),i_3<(Zp2_1.sti i_2).3→((Y.sti (i_2+0)).out i_3).sv.den=((Zp2_1.sti i_2).out i_3).sv.den∧True∧True∧True)∧(Y.sti (i_2+0)).5=(Zp2_1.sti i_2).5∧(Y.sti (i_2+0)).6=(Zp2_1.sti i_2).6∧True)∧True)
def tmG11 (Y:Yd) (Zp2_2:Yd):Prop:=(Y.3=Zp2_2.3∧0+Zp2_2.3≤Y.3∧(∀ (i_3:Nat),i_3<Zp2_2.3→rE (5:Nat)∧rE (5:Nat)∧(Y.sti (i_3+0)).1=(Zp2_2.sti i_3).1∧(Y.sti (i_3+0)).2=(Zp2_2.sti i_3).2∧(Y.sti (i_3+0)).3=(Zp2_2.sti i_3).3∧(∀ (i_4:Nat),i_4<(Zp2_2.sti i_3).3→((Y.sti (i_3+0)).out i_4).sv.den=((Zp2_2.sti i_3).out i_4).sv.den∧True∧True∧True)∧(Y.sti (i_3+0)).5=(Zp2_2.sti i_3).5∧(Y.sti (i_3+0)).6=(Zp2_2.sti i_3).6∧True)∧True)
theorem tmG_vc (Y:Yd) (w:Int) (bq:Int):tmG Y w bq =
((0:Nat)<(1:Nat)∧(∀ (i:Nat),i<Y.1→True)∧(∀ (i:Nat),i<Y.3→True∧True∧(∀ (i_1:Nat),i_1<(Y.sti i).3→True∧True∧True)∧True∧True∧True)∧(∀ (i:Nat),i<Y.5→True∧True∧True∧True)∧SV.agg [SV.lst (1:Nat) Y.g fun i=>i6 (Y.st i),SV.lst (5:Nat) Y.m fun i=>(Y.sti i).sv,SV.lst (3:Nat) Y.q fun i=>(Y.sal i).sv]=(ydOf Y.g (fun i=>i6 (Y.st i)) Y.m (fun i=>(Y.sti i).sv) Y.q fun i=>(Y.sal i).sv).sv∧(¬noLg (ydOf Y.g (fun i=>i6 (Y.st i)) Y.m (fun i=>(Y.sti i).sv) Y.q fun i=>(Y.sal i).sv) (1000:Int)→rE true∧True)∧(¬¬noLg (ydOf Y.g (fun i=>i6 (Y.st i)) Y.m (fun i=>(Y.sti i).sv) Y.q fun i=>(Y.sal i).sv) (1000:Int)→(0:Nat)<(1:Nat)∧∃ (Zp2_0:Yd),(Y.1=Zp2_0.1∧(∀ (i_1:Nat),i_1<Zp2_0.1→(i6 (Y.st i_1)).den=(i6 (Zp2_0.st i_1)).den∧True)∧(Y.3=Zp2_0.3∧(∀ (i_1:Nat),i_1<Zp2_0.3 →
(Y.sti i_1).sv.den=(Zp2_0.sti i_1).sv.den∧True∧True∧(∀ (i_2:Nat),i_2<(Zp2_0.sti i_1).3→True∧True∧True)∧True∧True∧True)∧True)∧Y.5=Zp2_0.5∧(∀ (i_1:Nat),i_1<Zp2_0.5→(Y.sal i_1).sv.den=(Zp2_0.sal i_1).sv.den∧True∧True∧True∧True)∧True)∧(¬pnE Zp2_0=(0:Int)→(pnI Zp2_0=(0:Int)→rE true∧True)∧(¬pnI Zp2_0=(0:Int)→false=true∧True))∧(¬¬pnE Zp2_0=(0:Int)→(0:Nat)<(1:Nat)∧(∀ (i:Nat),i<Y.1→True)∧(∀ (i:Nat),i<Y.3→True∧True∧(∀ (i_1:Nat),i_1<(Y.sti i).3→True∧True∧True)∧True∧True∧True)∧(∀ (i:Nat),i<Y.5→True∧True∧True∧True)∧SV.agg [SV.lst (1:Nat) Y.g fun i=>i6 (Y.st i),SV.lst (5:Nat) Y.m fun i=>(Y.sti i).sv,SV.lst (3:Nat) Y.q fun i=>(Y.sal i).sv]=(ydOf Y.g (fun i=>i6 (Y.st i)) Y.m (fun i=>(Y.sti i).sv) Y.q fun i=>(Y.sal i).sv).sv∧(¬okYd
(ydOf Y.g (fun i=>i6 (Y.st i)) Y.m (fun i=>(Y.sti i).sv) Y.q fun i=>(Y.sal i).sv)→false=true∧True)∧(¬¬okYd (ydOf Y.g (fun i=>i6 (Y.st i)) Y.m (fun i=>(Y.sti i).sv) Y.q fun i=>(Y.sal i).sv)→rI (w)∧(0:Nat)<(1:Nat)∧(True∧True∧True∧True∧(0:Nat)<(1:Nat)∧True∧True∧True∧True∧(0:Nat)<(1:Nat)∧True∧True∧True∧True∧(0:Nat)<(1:Nat)∧(True∧True∧(True∧True∧(∀ (i:Nat),i<Y.1→rE true)∧rE (0:Nat)∧rE (0:Nat)∧(∀ (i:Nat),rE true)∧(0+Y.1)*(8:Nat)≤(140737488355328:Nat)∧0+Y.1≤(4611686018427387904:Nat)∧True∧True∧(True∧True∧(tmG4 Y w bq Zp2_0)∧(tmG2 Y w bq Zp2_0)∧True)∧(True∧True∧(tmG2 Y w bq Zp2_0)∧True)∧True)∧(True∧True∧(True∧True∧(∀ (i:Nat),i<Y.1→rE true)∧rE (0:Nat)∧rE (0:Nat)∧(∀ (i:Nat),rE true)∧(0+Y.1)
* (8:Nat)≤(140737488355328:Nat)∧0+Y.1≤(4611686018427387904:Nat)∧True∧True∧(tmG4 Y w bq Zp2_0)∧(tmG2 Y w bq Zp2_0)∧True)∧(tmG1 Y w bq Zp2_0)∧True)∧(True∧True∧(True∧True∧(∀ (i:Nat),i<Y.1→rE true)∧rE (0:Nat)∧rE (0:Nat)∧(∀ (i:Nat),rE true)∧(0+Y.1)*(8:Nat)≤(140737488355328:Nat)∧0+Y.1≤(4611686018427387904:Nat)∧True∧True∧(tmG2 Y w bq Zp2_0)∧True)∧(tmG1 Y w bq Zp2_0)∧True)∧True)∧(True∧True∧(True∧True∧(True∧True∧(∀ (i:Nat),i<Y.1→rE true)∧rE (0:Nat)∧rE (0:Nat)∧(∀ (i:Nat),rE true)∧(0+Y.1)*(8:Nat)≤(140737488355328:Nat)∧0+Y.1≤(4611686018427387904:Nat)∧True∧True∧(tmG4 Y w bq Zp2_0)∧(tmG2 Y w bq Zp2_0)∧True)∧(tmG1 Y w bq Zp2_0)∧True)∧(True∧True∧(tmG1 Y w bq Zp2_0)∧True)∧True)∧(True∧True ∧
(True∧True∧(True∧True∧(∀ (i:Nat),i<Y.1→rE true)∧rE (0:Nat)∧rE (0:Nat)∧(∀ (i:Nat),rE true)∧(0+Y.1)*(8:Nat)≤(140737488355328:Nat)∧0+Y.1≤(4611686018427387904:Nat)∧True∧True∧(tmG2 Y w bq Zp2_0)∧True)∧(tmG1 Y w bq Zp2_0)∧True)∧(True∧True∧(tmG1 Y w bq Zp2_0)∧True)∧True)∧True)∧∀ (zp4_0:Unit),True→(0:Nat)<(1:Nat)∧(0:Nat)<(1:Nat)∧((↑Y.1:Int)=(0:Int)→False)∧(0:Nat)<(1:Nat)∧(0:Nat)<(1:Nat)∧((↑Y.1:Int)=(0:Int)→False)∧(0:Int)≤w.tmod (↑Y.1:Int)∧w.tmod (↑Y.1:Int)<(↑Y.1:Int)∧0+(w.tmod (↑Y.1:Int)).toNat<Y.1∧rI (bq)∧((9:Int)=(0:Int)→False)∧rI (Y.2 (0+(w.tmod (↑Y.g:Int)).toNat)+bq.tmod (9:Int))∧(0:Int)≤w.tmod (↑Y.1:Int)∧w.tmod (↑Y.1:Int)<(↑Y.1:Int)∧0+1≤(1:Nat) ∧
0+(w.tmod (↑Y.1:Int)).toNat<Y.1∧(∀ (i':Nat),rE true)∧(0:Nat)<(1:Nat)∧∃ (Zp2_0:Yd),(Y.1=Zp2_0.1∧0+Zp2_0.1≤Y.1∧(∀ (i_1:Nat),i_1<Zp2_0.1→rE (1:Nat)∧rE (1:Nat)∧(if i_1+0=0+(w.tmod (↑Y.1:Int)).toNat then min (1048576:Int) (Y.2 (0+(w.tmod (↑Y.g:Int)).toNat)+bq.tmod (9:Int)) else Y.2 (i_1+0))=Zp2_0.2 i_1∧True)∧(Y.3=Zp2_0.3∧0+Zp2_0.3≤Y.3∧(∀ (i_1:Nat),i_1<Zp2_0.3→rE (5:Nat)∧rE (5:Nat)∧(Y.sti (i_1+0)).1=(Zp2_0.sti i_1).1∧(Y.sti (i_1+0)).2=(Zp2_0.sti i_1).2∧(Y.sti (i_1+0)).3=(Zp2_0.sti i_1).3∧(∀ (i_2:Nat),i_2<(Zp2_0.sti i_1).3→((Y.sti (i_1+0)).out i_2).sv.den=((Zp2_0.sti i_1).out i_2).sv.den∧True∧True∧True)∧(Y.sti (i_1+0)).5=(Zp2_0.sti i_1).5∧(Y.sti (i_1+0)).6=(Zp2_0.sti i_1).6∧True)∧True)∧Y.5=Zp2_0.5∧0+Zp2_0.5≤Y.5∧(∀ (i_1:Nat),i_1<Zp2_0.5→rE (3:Nat)∧rE (3:Nat)∧(Y.sal (i_1+0)).1=(Zp2_0.sal i_1).1∧(Y.sal (i_1+0)).2=(Zp2_0.sal i_1).2∧(Y.sal (i_1+0)).3=(Zp2_0.sal i_1).3∧True)∧True)∧(¬pnE Zp2_0=(0:Int)→false=true∧True)∧(¬¬pnE Zp2_0=(0:Int)→(pnI Zp2_0<pnI Y→false=true∧True)∧(¬pnI Zp2_0<pnI Y→(0:Nat)<(1:Nat)∧((0:Int)<(↑Y.5:Int)→(0:Nat)<(1:Nat)∧(0:Nat)<(1:Nat)∧((↑Y.5:Int)=(0:Int)→False)∧(0:Int)≤w.tmod (↑Y.5:Int)∧w.tmod (↑Y.5:Int)<(↑Y.5:Int)∧0+(w.tmod (↑Y.5:Int)).toNat<Y.5∧rI (bq)∧((5:Int)=(0:Int)→False)∧rI ((Y.sal (0+(w.tmod (↑Y.q:Int)).toNat)).3+bq.tmod (5:Int))∧0+(w.tmod (↑Y.5:Int)).toNat<Y.5∧rI (bq) ∧
((7:Int)=(0:Int)→False)∧rI ((Y.sal (0+(w.tmod (↑Y.q:Int)).toNat)).2+bq.tmod (7:Int))∧2+1≤(3:Nat)∧0+(w.tmod (↑Y.5:Int)).toNat<Y.5∧(∀ (i':Nat),rE true)∧1+1≤(3:Nat)∧0+(w.tmod (↑Y.5:Int)).toNat<Y.5∧(∀ (i':Nat),rE true)∧(0:Nat)<(1:Nat)∧∃ (Zp2_1:Yd),(Y.1=Zp2_1.1∧0+Zp2_1.1≤Y.1∧(∀ (i_2:Nat),i_2<Zp2_1.1→rE (1:Nat)∧rE (1:Nat)∧(if i_2+0=0+(w.tmod (↑Y.1:Int)).toNat then min (1048576:Int) (Y.2 (0+(w.tmod (↑Y.g:Int)).toNat)+bq.tmod (9:Int)) else Y.2 (i_2+0))=Zp2_1.2 i_2∧True)∧(tmG10 Y Zp2_1)∧Y.5=Zp2_1.5∧0+Zp2_1.5≤Y.5∧(∀ (i_2:Nat),i_2<Zp2_1.5→rE (3:Nat)∧rE (3:Nat)∧(if i_2+0=0+(w.tmod (↑Y.5:Int)).toNat then if i_2+0 =
0+(w.tmod (↑Y.5:Int)).toNat then (Y.sal (i_2+0)).1 else (Y.sal (i_2+0)).1 else if i_2+0=0+(w.tmod (↑Y.5:Int)).toNat then (Y.sal (i_2+0)).1 else (Y.sal (i_2+0)).1)=(Zp2_1.sal i_2).1∧(if i_2+0=0+(w.tmod (↑Y.5:Int)).toNat then min (1048576:Int) ((Y.sal (0+(w.tmod (↑Y.q:Int)).toNat)).2+bq.tmod (7:Int)) else if i_2+0=0+(w.tmod (↑Y.5:Int)).toNat then (Y.sal (i_2+0)).2 else (Y.sal (i_2+0)).2)=(Zp2_1.sal i_2).2∧(if i_2+0=0+(w.tmod (↑Y.5:Int)).toNat then if i_2+0=0+(w.tmod (↑Y.5:Int)).toNat then min (1000000:Int) ((Y.sal (0+(w.tmod (↑Y.q:Int)).toNat)).3+bq.tmod (5:Int)) else (Y.sal (i_2+0)).3 else if i_2+0=0+(w.tmod (↑Y.5 :
Int)).toNat then min (1000000:Int) ((Y.sal (0+(w.tmod (↑Y.q:Int)).toNat)).3+bq.tmod (5:Int)) else (Y.sal (i_2+0)).3)=(Zp2_1.sal i_2).3∧True)∧True)∧(¬pnE Zp2_1=(0:Int)→false=true∧True)∧(¬¬pnE Zp2_1=(0:Int)→(pnI Zp2_1<pnI Zp2_0→false=true∧True)∧(¬pnI Zp2_1<pnI Zp2_0→(0:Nat)<(1:Nat)∧((0:Int)<(↑Y.3:Int)→(0:Nat)<(1:Nat)∧(0:Nat)<(1:Nat)∧((↑Y.3:Int)=(0:Int)→False)∧(0:Int)≤w.tmod (↑Y.3:Int)∧w.tmod (↑Y.3:Int)<(↑Y.3:Int)∧0+(w.tmod (↑Y.3:Int)).toNat<Y.3∧rI (bq)∧((5:Int)=(0:Int)→False)∧rI ((Y.sti (0+(w.tmod (↑Y.m:Int)).toNat)).5 - bq.tmod (5:Int))∧3+1≤(5:Nat)∧0+(w.tmod (↑Y.3:Int)).toNat<Y.3∧(∀ (i':Nat),rE true)∧(0:Nat)<(1:Nat)∧∃ (Zp2_2:Yd),(Y.1=Zp2_2.1∧0+Zp2_2.1
≤ Y.1∧(tmG7 Y w bq Zp2_2)∧(tmG8 Y w bq Zp2_2)∧Y.5=Zp2_2.5∧0+Zp2_2.5≤Y.5∧(tmG5 Y w bq Zp2_2)∧True)∧(¬pnE Zp2_2=(0:Int)→false=true∧True)∧(tmG0 Y Zp2_1 Zp2_2))∧(¬(0:Int)<(↑Y.3:Int)→(0:Nat)<(1:Nat)∧∃ (Zp2_2:Yd),(Y.1=Zp2_2.1∧0+Zp2_2.1≤Y.1∧(tmG7 Y w bq Zp2_2)∧(tmG11 Y Zp2_2)∧Y.5=Zp2_2.5∧0+Zp2_2.5≤Y.5∧(tmG5 Y w bq Zp2_2)∧True)∧(¬pnE Zp2_2=(0:Int)→false=true∧True)∧(tmG0 Y Zp2_1 Zp2_2)))))∧(¬(0:Int)<(↑Y.5:Int)→(0:Nat)<(1:Nat)∧∃ (Zp2_1:Yd),(Y.1=Zp2_1.1∧0+Zp2_1.1≤Y.1∧(∀ (i_2:Nat),i_2<Zp2_1.1→rE (1:Nat)∧rE (1:Nat)∧(if i_2+0=0+(w.tmod (↑Y.1:Int)).toNat then min (1048576:Int) (Y.2 (0+(w.tmod (↑Y.g:Int)).toNat)+bq.tmod (9:Int)) else Y.2 (i_2+0))=Zp2_1.2 i_2∧True)∧(tmG10 Y
Zp2_1)∧Y.5=Zp2_1.5∧0+Zp2_1.5≤Y.5∧(∀ (i_2:Nat),i_2<Zp2_1.5→rE (3:Nat)∧rE (3:Nat)∧(Y.sal (i_2+0)).1=(Zp2_1.sal i_2).1∧(Y.sal (i_2+0)).2=(Zp2_1.sal i_2).2∧(Y.sal (i_2+0)).3=(Zp2_1.sal i_2).3∧True)∧True)∧(¬pnE Zp2_1=(0:Int)→false=true∧True)∧(¬¬pnE Zp2_1=(0:Int)→(pnI Zp2_1<pnI Zp2_0→false=true∧True)∧(¬pnI Zp2_1<pnI Zp2_0→(0:Nat)<(1:Nat)∧((0:Int)<(↑Y.3:Int)→(0:Nat)<(1:Nat)∧(0:Nat)<(1:Nat)∧((↑Y.3:Int)=(0:Int)→False)∧(0:Int)≤w.tmod (↑Y.3:Int)∧w.tmod (↑Y.3:Int)<(↑Y.3:Int)∧0+(w.tmod (↑Y.3:Int)).toNat<Y.3∧rI (bq)∧((5:Int)=(0:Int)→False)∧rI ((Y.sti (0+(w.tmod (↑Y.m:Int)).toNat)).5 - bq.tmod (5:Int))∧3+1≤(5:Nat)∧0+(w.tmod (↑Y.3:Int)).toNat<Y.3∧(∀
(i':Nat),rE true)∧(0:Nat)<(1:Nat)∧∃ (Zp2_2:Yd),(Y.1=Zp2_2.1∧0+Zp2_2.1≤Y.1∧(tmG7 Y w bq Zp2_2)∧(tmG8 Y w bq Zp2_2)∧Y.5=Zp2_2.5∧0+Zp2_2.5≤Y.5∧(∀ (i_3:Nat),i_3<Zp2_2.5→rE (3:Nat)∧rE (3:Nat)∧(Y.sal (i_3+0)).1=(Zp2_2.sal i_3).1∧(Y.sal (i_3+0)).2=(Zp2_2.sal i_3).2∧(Y.sal (i_3+0)).3=(Zp2_2.sal i_3).3∧True)∧True)∧(¬pnE Zp2_2=(0:Int)→false=true∧True)∧(tmG0 Y Zp2_1 Zp2_2))∧(¬(0:Int)<(↑Y.3:Int)→(0:Nat)<(1:Nat)∧∃ (Zp2_2:Yd),(Y.1=Zp2_2.1∧0+Zp2_2.1≤Y.1∧(tmG7 Y w bq Zp2_2)∧(tmG11 Y Zp2_2)∧Y.5=Zp2_2.5∧0+Zp2_2.5≤Y.5∧(∀ (i_3:Nat),i_3<Zp2_2.5→rE (3:Nat)∧rE (3:Nat)∧(Y.sal (i_3+0)).1=(Zp2_2.sal i_3).1∧(Y.sal (i_3+0)).2=(Zp2_2.sal i_3).2∧(Y.sal (i_3+0)).3=(Zp2_2.sal
i_3).3∧True)∧True)∧(¬pnE Zp2_2=(0:Int)→false=true∧True)∧(tmG0 Y Zp2_1 Zp2_2))))))))))):=by kernel_rfl
end Go.Proofs.Ytlhdlkplgafolaa

set_option maxRecDepth 100000
namespace Go.Proofs.Ytlhdlkplgafolaa
open Go Go.Lg
attribute [local irreducible] bodyH funS
variable {Y:Yd}
theorem pnE_ok (h:okYd Y):pnE Y=0:=by rw [pnE,if_pos h]
theorem pnN_ok (h:okYd Y):pnN Y=Y.m:=by rw [pnN,if_pos h]
theorem ok_pnE (h:pnE Y=0):okYd Y:=by
 apply Classical.byContradiction
 intro hn
 rw [pnE,if_neg hn] at h
 exact absurd h (by decide)
theorem tg3 (h:okYd Y):tmG3 Y (idY Y):=by
 have m4:=h.s.a
 unfold tmG3
 simp only [rI,rE,and_true,true_and,implies_true,Int.toNat_natCast,Nat.zero_add]
 refine ⟨rfl,fun _ _=>rfl,⟨rfl,?_,Nat.add_comm _ _,fun i hi=>?_,fun i hi=>?_⟩,rfl,fun _ _=>rfl⟩
 ·omega
 ·have:i=0:=by omega
  subst this
  rw [id_0]
  exact ⟨rfl,rfl,rfl,Nat.le_refl _,fun _ _=>⟨rfl,rfl⟩,rfl,rfl⟩
 ·rw [Nat.add_comm 1 i,id_s]
  exact ⟨rfl,rfl,rfl,fun _ _=>rfl,rfl,rfl⟩
theorem tg6 (h:okYd Y) (hm:Y.m<4):tmG6 Y (idY Y):=by
 obtain ⟨e1,e2⟩:=id_pn h hm
 have e3:=pnE_ok (id_ok h hm)
 have e4:pnN (idY Y)=Y.m+1:=pnN_ok (id_ok h hm)
 unfold tmG6
 simp only [rI,rE,e1,e3,e4,and_true,true_and,true_implies,Nat.zero_lt_one,not_true,false_implies,Int.toNat_zero,e2]
 refine ⟨⟨by omega,by omega⟩,⟨fun _=>⟨by omega,by omega⟩,fun hh=>?_⟩⟩
 omega
theorem tg0 {Z1 Z2:Yd} (h:okYd Y) (h2:okYd Z2) (hle:pnI Z1≤pnI Z2):tmG0 Y Z1 Z2:=by
 have e:=pnE_ok h2
 have g1:=h.g.a
 have g2:=h.g.b
 have m4:=h.s.a
 unfold tmG0
 refine fun _=>⟨fun hl=>by omega,fun _=>⟨by omega,fun _=>⟨rfl,trivial⟩,fun hm=>?_⟩⟩
 have hm:Y.m<4:=by omega
 have ex:tmG13 Y:=⟨trivial,fun _ _=>rfl,rfl,rfl,by omega,by omega,by omega,by omega,idY Y,tg3 h,tg6 h hm,fun hh=>absurd (id_pn h hm).1 hh⟩
 exact ⟨by omega,by omega,⟨by omega,by omega,by omega,by omega,⟨trivial,by omega,fun _ _=>rfl,rfl,rfl,by omega,by omega,by omega,by omega,idY Y,tg3 h,tg6 h hm,fun hh=>absurd (id_pn h hm).1 hh⟩,⟨by omega,ex,trivial⟩,trivial⟩,⟨by omega,by omega,by omega,by omega,by omega,ex,trivial⟩,trivial⟩
theorem tm_true {w b:Int} (hw:0≤w∧w≤255) (hb:0≤b∧b≤255):tmG Y w b:=by
 rw [tmG_vc]
 simp only [tmG9,tmG12,tmG14,tmG1,tmG2,tmG4,tmG5,tmG7,tmG8,tmG10,tmG11,rI,rE,tt3,tt4,tt5,tt13,tt14,and_true,true_and,Nat.zero_lt_one,and_self,implies_true,Int.toNat_natCast,Nat.zero_add,Nat.add_zero,Nat.sub_zero,Nat.not_lt_zero,if_false,Nat.one_mul,Nat.mul_one,Classical.not_not,iff_self,Bool.false_eq_true,imp_false,and_imp,true_implies,forall_const,gdV_cells,sc1,sc0,ft_fold,sti_fold,sal_fold,yd_fold,iOf_fold,stiOf_fold,salOf_fold,yv_fold]
 intro hlg
 refine ⟨Y,⟨rfl,fun _ _=>rfl,⟨rfl,fun _ _=>rfl⟩,rfl,fun _ _=>rfl⟩,fun hE=>?_,fun hE=>?_⟩
 ·by_cases h:okYd Y
  ·exact absurd (pnE_ok h) hE
  ·rw [pnI,if_neg h]
 have h:=ok_pnE hE
 have g1:=h.g.a
 have g2:=h.g.b
 have m4:=h.s.a
 have q6:=h.l.a
 refine ⟨h,fun _=>⟨⟨by omega,by omega⟩,?_⟩⟩
 have t1:=tm_bd (a:=w) (b:=Y.g) (by omega) (by omega)
 have u9:=tm_bd (a:=b) (b:=9) (by omega) (by omega)
 have u7:=tm_bd (a:=b) (b:=7) (by omega) (by omega)
 have u5:=tm_bd (a:=b) (b:=5) (by omega) (by omega)
 have c0:=h.g.c (w.tmod Y.g).toNat (by omega)
 unfold okNb at c0
 have ok1:=sty_ok (w:=w) h hb.1
 have le1:=sty_le (w:=w) h hb.1
 have ok2:=sly_ok (w:=w) ok1 hb.1
 have le2:=sly_le (w:=w) ok1 hb.1
 refine ⟨⟨by omega,by omega,by omega,by omega,by omega,by omega,rfl⟩,by omega,by omega,by omega,by omega,by omega,⟨by omega,by omega⟩,by omega,⟨by omega,by omega⟩,by omega,by omega,by omega,by omega,stY Y w b,⟨rfl,Nat.le_refl _,fun _ _=>rfl,⟨rfl,Nat.le_refl _,fun _ _=>⟨rfl,rfl,rfl,fun _ _=>rfl,rfl,rfl⟩⟩,rfl,Nat.le_refl _,fun _ _=>⟨rfl,rfl,rfl⟩⟩,pnE_ok ok1,fun _=>⟨by omega,fun _=>⟨fun hq=>?_,fun hq=>?_⟩⟩⟩
 ·have t2:=tm_bd (a:=w) (b:=Y.q) (by omega) (by omega)
  obtain ⟨k0,k1,k2,k3,k4,k5⟩:=h.l.b (w.tmod Y.q).toNat (by omega)
  refine ⟨by omega,by omega,by omega,by omega,⟨by omega,by omega⟩,by omega,⟨by omega,by omega⟩,by omega,⟨by omega,by omega⟩,by omega,⟨by omega,by omega⟩,by omega,by omega,by omega,by omega,slY (stY Y w b) w b,⟨rfl,Nat.le_refl _,fun _ _=>rfl,⟨rfl,Nat.le_refl _,fun _ _=>⟨rfl,rfl,rfl,fun _ _=>rfl,rfl,rfl⟩⟩,rfl,Nat.le_refl _,fun i hi=>?_⟩,pnE_ok ok2,fun _=>⟨by omega,fun _=>⟨fun hm=>?_,fun hm=>?_⟩⟩⟩
  ·simp only [slY,stY]
   by_cases e:i=(w.tmod Y.q).toNat <;> simp [e]
  ·have t3:=tm_bd (a:=w) (b:=Y.m) (by omega) (by omega)
   have s0:=(h.s.b (w.tmod Y.m).toNat (by omega)).2.p0
   have s1:=(h.s.b (w.tmod Y.m).toNat (by omega)).2.p1
   have ok3:=siy_ok (w:=w) ok2 hb.1
   have le3:=siy_le (w:=w) ok2 hb.1
   refine ⟨by omega,by omega,by omega,by omega,⟨by omega,by omega⟩,by omega,⟨by omega,by omega⟩,by omega,by omega,siY (slY (stY Y w b) w b) w b,⟨rfl,Nat.le_refl _,fun _ _=>rfl,⟨rfl,Nat.le_refl _,fun i hi=>?_⟩,rfl,Nat.le_refl _,fun i hi=>?_⟩,pnE_ok ok3,tg0 h ok3 le3⟩
   ·simp only [siY,slY,stY]
    by_cases e:i=(w.tmod Y.m).toNat <;> simp [e]
   ·simp only [siY,slY,stY]
    by_cases e:i=(w.tmod Y.q).toNat <;> simp [e]
  ·refine ⟨slY (stY Y w b) w b,⟨rfl,Nat.le_refl _,fun _ _=>rfl,⟨rfl,Nat.le_refl _,fun _ _=>⟨rfl,rfl,rfl,fun _ _=>rfl,rfl,rfl⟩⟩,rfl,Nat.le_refl _,fun i hi=>?_⟩,pnE_ok ok2,tg0 h ok2 (Int.le_refl _)⟩
   simp only [siY,slY,stY]
   by_cases e:i=(w.tmod Y.q).toNat <;> simp [e]
 ·refine ⟨stY Y w b,⟨rfl,Nat.le_refl _,fun _ _=>rfl,⟨rfl,Nat.le_refl _,fun _ _=>⟨rfl,rfl,rfl,fun _ _=>rfl,rfl,rfl⟩⟩,rfl,Nat.le_refl _,fun i hi=>⟨rfl,rfl,rfl⟩⟩,pnE_ok ok1,fun _=>⟨by omega,fun _=>⟨fun hm=>?_,fun hm=>?_⟩⟩⟩
  ·have t3:=tm_bd (a:=w) (b:=Y.m) (by omega) (by omega)
   have s0:=(h.s.b (w.tmod Y.m).toNat (by omega)).2.p0
   have s1:=(h.s.b (w.tmod Y.m).toNat (by omega)).2.p1
   have ok3:=siy_ok (w:=w) ok1 hb.1
   have le3:=siy_le (w:=w) ok1 hb.1
   refine ⟨by omega,by omega,by omega,by omega,⟨by omega,by omega⟩,by omega,⟨by omega,by omega⟩,by omega,by omega,siY (stY Y w b) w b,⟨rfl,Nat.le_refl _,fun _ _=>rfl,⟨rfl,Nat.le_refl _,fun i hi=>?_⟩,rfl,Nat.le_refl _,fun i hi=>⟨rfl,rfl,rfl⟩⟩,pnE_ok ok3,tg0 h ok3 le3⟩
   simp only [siY,slY,stY]
   by_cases e:i=(w.tmod Y.m).toNat <;> simp [e]
  ·exact ⟨stY Y w b,⟨rfl,Nat.le_refl _,fun _ _=>rfl,⟨rfl,Nat.le_refl _,fun _ _=>⟨rfl,rfl,rfl,fun _ _=>rfl,rfl,rfl⟩⟩,rfl,Nat.le_refl _,fun i hi=>⟨rfl,rfl,rfl⟩⟩,pnE_ok ok1,tg0 h ok1 (Int.le_refl _)⟩
end Go.Proofs.Ytlhdlkplgafolaa
