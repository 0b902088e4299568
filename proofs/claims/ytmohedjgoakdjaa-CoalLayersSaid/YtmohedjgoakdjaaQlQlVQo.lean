import Derived.Test.YtmohedjgoakdjaaQmQn
import Derived.Test.YtmohedjgoakdjaaZc
set_option linter.unusedVariables false
set_option linter.unusedSimpArgs false
namespace Go.Proofs.Ytmohedjgoakdjaa
open Go Go.Lg
attribute [local irreducible] bodyH funS
def awC:Ctr:=⟨10,fun args k=>match args with
 | []=>k (.bool true)
 | _=>False⟩
noncomputable def lgC:Ctr:=⟨9,fun args k=>match args with
 | [.agg [.lst 8 n f,.lst 3 m g]]=>SV.lst 8 n f=(clOf n f).sv∧SV.lst 3 m g=(msOf m g).sv∧k (.dec ((10:Int)<n∨(36:Int)<m) (Classical.propDecidable _))
 | _=>False⟩
noncomputable def lgG (Y:Yd):Prop:=funH Try.prog (ctrs []) noX (ictrs []) noL noL 9 [Y.sv] (.dec ((10:Int)<Y.c.n∨(36:Int)<Y.m.n) (Classical.propDecidable _))
def swM (M:Ms) (i:Nat):Ms:=⟨M.n,fun k=>⟨if k=i - 1 then (M.f i).hr else if k=i then (M.f (i - 1)).hr else (M.f k).hr,if k=i - 1 then (M.f i).co else if k=i then (M.f (i - 1)).co else (M.f k).co,if k=i - 1 then (M.f i).tn else if k=i then (M.f (i - 1)).tn else (M.f k).tn⟩⟩
def ixI (Y:Yd) (b:Int):Int:=1+b.tmod (Y.m.n - 1)
noncomputable def ptS (l:List Pn) (j:Nat):Int:=sumJ (fun i=>(l.getD i zP).tn) j
open Classical in
noncomputable def smI (Y:Yd) (i:Nat):Int:=if (Y.m.f i).co=-1 then -(ptS (dwL Y (dn Y.m i)) (dwL Y (dn Y.m i)).length) else (Y.m.f i).tn
noncomputable def smF (Y:Yd) (k:Nat):Int:=sumJ (smI Y) k
open Classical in
noncomputable def atF (M:Ms) (d:Int):Nat→Nat
 | 0=>M.n
 | k+1=>if (M.f k).co=-1∧(dn M k:Int)=d then k else atF M d k
noncomputable def csL:CSpec:=ctrsF [lfC,dwC] (ctrs [lgC,awC,beC,ylC,ltC 15,ltC 20])
noncomputable def lwF (Y:Yd) (a b w:Int) (l:List (Nat × SV)):FS:=mkF 261 ([(1,i6 a),(3,i6 w),(4,.ptr 0 0 0),(9,lT (lfL Y)),(10,i6 0),(12,i6 (drE Y a a)),(13,.ptr 1 0 0),(14,i6 (ylE Y 0 a w))] ++ l)
noncomputable def lwX (Y:Yd) (a w:Int) (l:List (Option SRow)):XS:=mkX ([vr 2 Y.sv,vr 2 (ylS Y 0 a w).sv] ++ l)
def slS:Option SRow→Option Nat
 | some R=>(match R.f 0 with
  | .agg l=>(match l.getLastD .any with
   | .sl r _ _=>some r
   | _=>none)
  | _=>none)
 | none=>none
def pR:SV→Option Nat
 | .ptr r _ _=>some r
 | _=>none
noncomputable def ms13:FS→XS→Lg.Ms:=fun t X=>match pR (sget 261 t 18) with
 | some r=>[some r,slS (X.row r)]
 | none=>[]
noncomputable def be' (Y:Yd) (a:Int):SV:=twL (beN Y a) (bsS (dwL Y a))
structure lwI (Y:Yd) (k:Nat):Prop where
 c:ckY Y=0
 k:k≤Y.m.n
structure lwJ (Y:Yd) (s:Nat × Nat):Prop where
 c:ckY Y=0
 k:s.1<Y.m.n
 d:(Y.m.f s.1).co=-1
 z:s.2≤(dwL Y (dn Y.m s.1)).length
structure lwK (Y:Yd) (z:Nat):Prop where
 c:ckY Y=0
 z:z≤(lfL Y).length
structure lwS (Y:Yd) (b:Int):Prop where
 c:ckY Y=0
 n:2≤Y.m.n
 b:0≤b∧b≤255
noncomputable def lwL (Y:Yd) (a b w:Int):Nat→Option HSpec :=
 twoL 1009 { toLSpec:={ σ:=Unit,inv:=fun _=>lwS Y b,μ:=fun _=>0,nr:=2,ms:=fun t _=>[pR (sget 261 t 16),pR (sget 261 t 17)],t:=fun _=>lwF Y a b w [(11,be' Y a),(15,i6 (ixI Y b)),(16,.ptr 2 0 0),(17,.ptr 3 0 0)],X:=fun _=>lwX Y a w [vr 3 (Y.m.f (ixI Y b - 1).toNat).sv,vr 3 (Y.m.f (ixI Y b).toNat).sv],rd:=fun _ _ k=>k (),rdOK:=fun _ _ _ h=>⟨(),h⟩ },D:=[(1,0),(7,0),(13,2),(14,2)],nb:=some 2 } <|
 twoL 1013 { toLSpec:={ σ:=Unit,inv:=fun _=>lwS Y b,μ:=fun _=>0,nr:=4,ms:=ms13,t:=fun _=>lwF Y a b w [(11,be' Y a),(15,i6 (ixI Y b)),(16,.ptr 2 0 0),(17,.ptr 3 0 0),(18,.ptr 4 0 0)],X:=fun _=>lwX Y a w [vr 3 (Y.m.f (ixI Y b - 1).toNat).sv,vr 3 (Y.m.f (ixI Y b).toNat).sv,vr 2 (.agg [Y.c.sv,.sl 5 0 Y.m.n]),rw' 3 Y.m.n fun k=>((swM Y.m (ixI Y b).toNat).f k).sv],rd:=fun _ _ k=>k (),rdOK:=fun _ _ _ h=>⟨(),h⟩ },D:=[(1,4),(5,4),(7,3),(8,2),(10,6),(12,6)] } <|
 twoL 0 (natH (lwI Y) (fun k=>Y.m.n - k) 2 (fun k=>lwF Y a b w [(23,i6 (smF Y k)),(24,i6 (dn Y.m k)),(25,i6 (atF Y.m a k)),(26,i6 k)]) (fun _=>lwX Y a w []) fun _=>none) <|
 twoL 2 (twH 261 26 29 2 (lwJ Y) (fun s=>(dwL Y (dn Y.m s.1)).length - s.2) (fun s=>lwF Y a b w [(23,i6 (smF Y s.1 - ptS (dwL Y (dn Y.m s.1)) s.2)),(24,i6 (dn Y.m s.1)),(25,i6 (atF Y.m a s.1)),(26,i6 s.1),(27,lT (dwL Y (dn Y.m s.1))),(29,i6 s.2)]) fun _=>lwX Y a w []) <|
 oneL 4 (natH (lwK Y) (fun z=>(lfL Y).length - z) 2 (fun z=>lwF Y a b w [(23,i6 (smF Y Y.m.n - ptS (lfL Y) z)),(25,i6 (atF Y.m a Y.m.n)),(30,i6 z)]) (fun _=>lwX Y a w []) fun _=>none)
noncomputable def lwG (Y:Yd) (a b w:Int):Prop:=funH Try.prog csL noX (ictrs []) (lwL Y a b w) noL 8 [Y.sv,i6 a,.int .u8 b,i6 w] (.bool true)
end Go.Proofs.Ytmohedjgoakdjaa

set_option maxRecDepth 100000
namespace Go.Proofs.Ytmohedjgoakdjaa
open Go Go.Lg
theorem lgG_vc (Y:Yd):lgG Y =
((0:Nat)<(1:Nat) ∧
 ((10:Int)<(↑Y.c.1:Int)→(true=true↔(10:Int)<(↑Y.c.n:Int)∨(36:Int)<(↑Y.m.n:Int))∧True) ∧
  (¬(10:Int)<(↑Y.c.1:Int) →
   (0:Nat)<(1:Nat) ∧
    ((36:Int)<(↑Y.m.1:Int)↔(10:Int)<(↑Y.c.n:Int)∨(36:Int)<(↑Y.m.n:Int))∧True)):=by kernel_rfl
def lwG6 (Y:Yd):Prop:=(∀ (i:Nat),i<Y.c.1→rE ((Y.c.f i).sv.den)∧True∧True∧True∧True∧True∧True∧True∧True∧True)
def lwG7 (Y:Yd):Prop:=(∀ (i:Nat),i<Y.m.1→rE ((Y.m.f i).sv.den)∧True∧True∧True∧True)
def lwG11 (Y:Yd):Prop:=(∀ (i:Nat),i<(lfL Y).length→((lfL (Yd.mk (clOf Y.c.n fun i=>(Y.c.f i).sv) (msOf Y.m.n fun i=>(Y.m.f i).sv))).getD i zP).pt.sv.den=((lfL Y).getD i zP).pt.sv.den∧True∧True∧True)
def lwG12 (Y:Yd) (a:Int):Prop:=(∀ (i:Nat),i<beN Y a→(bsS (dwL (Yd.mk (clOf Y.c.n fun i=>(Y.c.f i).sv) (msOf Y.m.n fun i=>(Y.m.f i).sv)) a) i).sv.den=(bsS (dwL Y a) i).sv.den∧True∧True∧True)
def lwG0 (Y:Yd) (a:Int) (b:Int) (w:Int):Prop:=(True∧True∧True∧lwS Y b∧a=a∧w=w∧rE (0:Nat)∧rE (0:Nat)∧(lfL (Yd.mk (clOf Y.c.n fun i=>(Y.c.f i).sv) (msOf Y.m.n fun i=>(Y.m.f i).sv))).length=(lfL Y).length∧(lwG11 Y)∧ckY (Yd.mk (clOf Y.c.n fun i=>(Y.c.f i).sv) (msOf Y.m.n fun i=>(Y.m.f i).sv))=(0:Int)∧beN (Yd.mk (clOf Y.c.n fun i=>(Y.c.f i).sv) (msOf Y.m.n fun i=>(Y.m.f i).sv)) a=beN Y a∧(lwG12 Y a)∧drE (Yd.mk (clOf Y.c.n fun i=>(Y.c.f i).sv) (msOf Y.m.n fun i=>(Y.m.f i).sv)) a a=drE Y a a∧rE (0:Nat)∧rE (0:Nat)∧ylE (Yd.mk (clOf Y.c.n fun i=>(Y.c.f i).sv) (msOf Y.m.n fun i=>(Y.m.f i).sv)) (0:Int) a w=ylE Y (0:Int) a w∧(1:Int)+b.tmod ((↑Y.m.1:Int) - (1:Int))=ixI Y b∧rE (0:Nat)∧rE (0:Nat)∧rE (0:Nat)∧rE (0:Nat)∧rE Y.c.1∧(lwG6 Y)∧rE Y.m.1∧(lwG7 Y)∧(ylS (Yd.mk (clOf Y.c.n fun i=>(Y.c.f i).sv) (msOf Y.m.n fun i=>(Y.m.f i).sv)) (0:Int) a w).1=(ylS Y (0:Int) a w).1∧(ylS (Yd.mk (clOf Y.c.n fun i=>(Y.c.f i).sv) (msOf Y.m.n fun i=>(Y.m.f i).sv)) (0:Int) a w).2=(ylS Y (0:Int) a w).2∧(Y.m.f ((1:Int)+b.tmod ((↑Y.m.n:Int) - (1:Int)) - (1:Int)).toNat).1=(Y.m.f (ixI Y b - (1:Int)).toNat).1∧(Y.m.f ((1:Int)+b.tmod ((↑Y.m.n:Int) - (1:Int)) - (1:Int)).toNat).2=(Y.m.f (ixI Y b - (1:Int)).toNat).2∧(Y.m.f ((1:Int)+b.tmod ((↑Y.m.n:Int) - (1:Int)) - (1:Int)).toNat).3=(Y.m.f (ixI Y b - (1:Int)).toNat).3∧(Y.m.f ((1:Int)+b.tmod ((↑Y.m.n:Int) - (1:Int))).toNat).1=(Y.m.f (ixI Y b).toNat).1∧(Y.m.f ((1:Int)+b.tmod ((↑Y.m.n:Int) - (1:Int))).toNat).2=(Y.m.f (ixI Y b).toNat).2∧(Y.m.f ((1:Int)+b.tmod ((↑Y.m.n:Int) - (1:Int))).toNat).3=(Y.m.f (ixI Y b).toNat).3∧True)
def lwG8 (Y:Yd):Prop:=(∀ (i:Nat),i<Y.c.1→True∧True∧True∧True∧True∧True∧True∧True∧True)
def lwG9 (Y:Yd):Prop:=(∀ (i:Nat),i<(lfL Y).length→rE (((lfL Y).getD i zP).pt.sv.den)∧True∧True∧True)
def lwG1 (Y:Yd) (a:Int) (w:Int) (z:Nat):Prop:=((↑z:Int)<(↑Y.m.1:Int)→(0:Nat)<(1:Nat)∧(0:Int)≤(↑z:Int)∧(↑z:Int)<(↑Y.m.1:Int)∧(¬(Y.m.f (↑z:Int).toNat).2=(-1:Int)→(0:Nat)<(1:Nat)∧(0:Int)≤(↑z:Int)∧(↑z:Int)<(↑Y.m.1:Int)∧rI (smF Y z+(Y.m.f (↑z:Int).toNat).3)∧rI ((↑z:Int)+(1:Int))∧∃ (z_1:Nat),lwI Y z_1∧Y.m.1 - z_1<Y.m.1 - z∧a=a∧w=w∧rE (0:Nat)∧rE (0:Nat)∧rE ((lfL Y).length)∧(lwG9 Y)∧rE (0:Int)∧rE (drE Y a a)∧rE (0:Nat)∧rE (0:Nat)∧rE (ylE Y (0:Int) a w)∧smF Y z+(Y.m.f (↑z:Int).toNat).3=smF Y z_1∧(↑(dn Y.m z):Int)=(↑(dn Y.m z_1):Int)∧(↑(atF Y.m a z):Int)=(↑(atF Y.m a z_1):Int)∧(↑z:Int)+(1:Int)=(↑z_1:Int)∧rE Y.c.1∧(lwG6 Y)∧rE Y.m.1∧(lwG7 Y)∧rE ((ylS Y (0:Int) a w).1)∧rE ((ylS Y (0:Int) a w).2)∧True)∧(¬¬(Y.m.f (↑z:Int).toNat).2=(-1:Int)→(0:Nat)<(1:Nat)∧(lwG8 Y)∧(∀ (i:Nat),i<Y.m.1→True∧True∧True∧True)∧(SV.lst (8:Nat) Y.c.n fun i=>(Y.c.f i).sv)=(clOf Y.c.n fun i=>(Y.c.f i).sv).sv∧(SV.lst (3:Nat) Y.m.n fun i=>(Y.m.f i).sv)=(msOf Y.m.n fun i=>(Y.m.f i).sv).sv∧(¬drE (Yd.mk (clOf Y.c.n fun i=>(Y.c.f i).sv) (msOf Y.m.n fun i=>(Y.m.f i).sv)) (↑(dn Y.m z):Int) (↑(dn Y.m z):Int)=(0:Int)→false=true∧True)∧(¬¬drE (Yd.mk (clOf Y.c.n fun i=>(Y.c.f i).sv) (msOf Y.m.n fun i=>(Y.m.f i).sv)) (↑(dn Y.m z):Int) (↑(dn Y.m z):Int)=(0:Int)→((lwJ Y ((↑z:Int).toNat,Int.toNat (0:Int))∧z=(↑z:Int).toNat)∧a=a∧w=w∧rE (0:Nat)∧rE (0:Nat)∧rE ((lfL Y).length)∧(lwG9 Y)∧rE (0:Int)∧rE (drE Y a a)∧rE (0:Nat)∧rE (0:Nat)∧rE (ylE Y (0:Int) a w)∧smF Y z=smF Y z - ptS (dwL Y (↑(dn Y.m (↑z:Int).toNat):Int)) (0:Nat)∧rE (↑(dn Y.m z):Int)∧rE (↑(atF Y.m a z):Int)∧rE (↑z:Int)∧(dwL (Yd.mk (clOf Y.c.n fun i=>(Y.c.f i).sv) (msOf Y.m.n fun i=>(Y.m.f i).sv)) (↑(dn Y.m z):Int)).length=(dwL Y (↑(dn Y.m (↑z:Int).toNat):Int)).length∧(∀ (i_1:Nat),i_1<(dwL Y (↑(dn Y.m (↑z:Int).toNat):Int)).length→((dwL (Yd.mk (clOf Y.c.n fun i=>(Y.c.f i).sv) (msOf Y.m.n fun i=>(Y.m.f i).sv)) (↑(dn Y.m z):Int)).getD i_1 zP).pt.sv.den=((dwL Y (↑(dn Y.m (↑z:Int).toNat):Int)).getD i_1 zP).pt.sv.den∧True∧True∧True)∧(0:Int)=(↑(0:Nat):Int)∧rE Y.c.1∧(lwG6 Y)∧rE Y.m.1∧(lwG7 Y)∧rE ((ylS Y (0:Int) a w).1)∧rE ((ylS Y (0:Int) a w).2)∧True)∧∀ (zp9_1:Nat × Nat),lwJ Y zp9_1∧zp9_1.1=(↑z:Int).toNat→((↑zp9_1.2:Int)<(↑(dwL Y (↑(dn Y.m zp9_1.fst):Int)).length:Int)→(0:Int)≤(↑zp9_1.2:Int)∧(↑zp9_1.2:Int)<(↑(dwL Y (↑(dn Y.m zp9_1.fst):Int)).length:Int)∧rI (smF Y zp9_1.1 - ptS (dwL Y (↑(dn Y.m zp9_1.fst):Int)) zp9_1.2 - ((dwL Y (↑(dn Y.m zp9_1.fst):Int)).getD (↑zp9_1.snd:Int).toNat zP).3)∧rI ((↑zp9_1.2:Int)+(1:Int))∧(lwJ Y ((↑zp9_1.fst:Int).toNat,((↑zp9_1.snd:Int)+(1:Int)).toNat)∧(↑zp9_1.1:Int).toNat=(↑z:Int).toNat)∧(dwL Y (↑(dn Y.m (↑zp9_1.fst:Int).toNat):Int)).length - ((↑zp9_1.2:Int)+(1:Int)).toNat<(dwL Y (↑(dn Y.m zp9_1.fst):Int)).length - zp9_1.2∧a=a∧w=w∧rE (0:Nat)∧rE (0:Nat)∧rE ((lfL Y).length)∧(lwG9 Y)∧rE (0:Int)∧rE (drE Y a a)∧rE (0:Nat)∧rE (0:Nat)∧rE (ylE Y (0:Int) a w)∧smF Y zp9_1.1 - ptS (dwL Y (↑(dn Y.m zp9_1.fst):Int)) zp9_1.2 - ((dwL Y (↑(dn Y.m zp9_1.fst):Int)).getD (↑zp9_1.snd:Int).toNat zP).3=smF Y (↑zp9_1.1:Int).toNat - ptS (dwL Y (↑(dn Y.m (↑zp9_1.fst:Int).toNat):Int)) ((↑zp9_1.2:Int)+(1:Int)).toNat∧(↑(dn Y.m zp9_1.1):Int)=(↑(dn Y.m (↑zp9_1.1:Int).toNat):Int)∧(↑(atF Y.m a zp9_1.1):Int)=(↑(atF Y.m a (↑zp9_1.1:Int).toNat):Int)∧(↑zp9_1.1:Int)=(↑(↑zp9_1.1:Int).toNat:Int)∧(dwL Y (↑(dn Y.m zp9_1.fst):Int)).length=(dwL Y (↑(dn Y.m (↑zp9_1.fst:Int).toNat):Int)).length∧(∀ (i_2:Nat),i_2<(dwL Y (↑(dn Y.m (↑zp9_1.fst:Int).toNat):Int)).length→((dwL Y (↑(dn Y.m zp9_1.fst):Int)).getD i_2 zP).pt.sv.den=((dwL Y (↑(dn Y.m (↑zp9_1.fst:Int).toNat):Int)).getD i_2 zP).pt.sv.den∧True∧True∧True)∧(↑zp9_1.2:Int)+(1:Int)=(↑((↑zp9_1.2:Int)+(1:Int)).toNat:Int)∧rE Y.c.1∧(lwG6 Y)∧rE Y.m.1∧(lwG7 Y)∧rE ((ylS Y (0:Int) a w).1)∧rE ((ylS Y (0:Int) a w).2)∧True)∧(¬(↑zp9_1.2:Int)<(↑(dwL Y (↑(dn Y.m zp9_1.fst):Int)).length:Int)→((↑(dn Y.m zp9_1.1):Int)=a→rI ((↑(dn Y.m zp9_1.1):Int)+(1:Int))∧rI ((↑zp9_1.1:Int)+(1:Int))∧∃ (z_2:Nat),lwI Y z_2∧Y.m.1 - z_2<Y.m.1 - z∧a=a∧w=w∧rE (0:Nat)∧rE (0:Nat)∧rE ((lfL Y).length)∧(lwG9 Y)∧rE (0:Int)∧rE (drE Y a a)∧rE (0:Nat)∧rE (0:Nat)∧rE (ylE Y (0:Int) a w)∧smF Y zp9_1.1 - ptS (dwL Y (↑(dn Y.m zp9_1.fst):Int)) zp9_1.2=smF Y z_2∧(↑(dn Y.m zp9_1.1):Int)+(1:Int)=(↑(dn Y.m z_2):Int)∧(↑zp9_1.1:Int)=(↑(atF Y.m a z_2):Int)∧(↑zp9_1.1:Int)+(1:Int)=(↑z_2:Int)∧rE Y.c.1∧(lwG6 Y)∧rE Y.m.1∧(lwG7 Y)∧rE ((ylS Y (0:Int) a w).1)∧rE ((ylS Y (0:Int) a w).2)∧True)∧(¬(↑(dn Y.m zp9_1.1):Int)=a→rI ((↑(dn Y.m zp9_1.1):Int)+(1:Int))∧rI ((↑zp9_1.1:Int)+(1:Int))∧∃ (z_2:Nat),lwI Y z_2∧Y.m.1 - z_2<Y.m.1 - z∧a=a∧w=w∧rE (0:Nat)∧rE (0:Nat)∧rE ((lfL Y).length)∧(lwG9 Y)∧rE (0:Int)∧rE (drE Y a a)∧rE (0:Nat)∧rE (0:Nat)∧rE (ylE Y (0:Int) a w)∧smF Y zp9_1.1 - ptS (dwL Y (↑(dn Y.m zp9_1.fst):Int)) zp9_1.2=smF Y z_2∧(↑(dn Y.m zp9_1.1):Int)+(1:Int)=(↑(dn Y.m z_2):Int)∧(↑(atF Y.m a zp9_1.1):Int)=(↑(atF Y.m a z_2):Int)∧(↑zp9_1.1:Int)+(1:Int)=(↑z_2:Int)∧rE Y.c.1∧(lwG6 Y)∧rE Y.m.1∧(lwG7 Y)∧rE ((ylS Y (0:Int) a w).1)∧rE ((ylS Y (0:Int) a w).2)∧True)))))
def lwG10 (Y:Yd) (a:Int):Prop:=((dwL (Yd.mk (clOf Y.c.n fun i=>(Y.c.f i).sv) (msOf ((↑(atF Y.m a Y.m.n):Int)+(1:Int) - (0:Int)).toNat fun i=>(Y.m.f (Int.toNat (0:Int)+i)).sv)) a).length=(dwL (Yd.mk (clOf Y.c.n fun i=>(Y.c.f i).sv) (msOf Y.m.n fun i=>(Y.m.f i).sv)) a).length∧eqT (dwL (Yd.mk (clOf Y.c.n fun i=>(Y.c.f i).sv) (msOf ((↑(atF Y.m a Y.m.n):Int)+(1:Int) - (0:Int)).toNat fun i=>(Y.m.f (Int.toNat (0:Int)+i)).sv)) a).length (fun i=>tOf ((dwL (Yd.mk (clOf Y.c.n fun i=>(Y.c.f i).sv) (msOf ((↑(atF Y.m a Y.m.n):Int)+(1:Int) - (0:Int)).toNat fun i=>(Y.m.f (Int.toNat (0:Int)+i)).sv)) a).getD i zP).pt.sv) fun i=>tOf ((dwL (Yd.mk (clOf Y.c.n fun i=>(Y.c.f i).sv) (msOf Y.m.n fun i=>(Y.m.f i).sv)) a).getD i zP).pt.sv)
def lwG2 (Y:Yd) (a:Int) (w:Int) (z:Nat):Prop:=(¬(↑z:Int)<(↑Y.m.1:Int)→(∃ (z_1:Nat),lwK Y z_1∧a=a∧w=w∧rE (0:Nat)∧rE (0:Nat)∧rE ((lfL Y).length)∧(lwG9 Y)∧rE (0:Int)∧rE (drE Y a a)∧rE (0:Nat)∧rE (0:Nat)∧rE (ylE Y (0:Int) a w)∧smF Y z=smF Y Y.m.1 - ptS (lfL Y) z_1∧(↑(atF Y.m a z):Int)=(↑(atF Y.m a Y.m.1):Int)∧(0:Int)=(↑z_1:Int)∧rE Y.c.1∧(lwG6 Y)∧rE Y.m.1∧(lwG7 Y)∧rE ((ylS Y (0:Int) a w).1)∧rE ((ylS Y (0:Int) a w).2)∧True)∧∀ (z:Nat),lwK Y z→((↑z:Int)<(↑(lfL Y).length:Int)→(0:Int)≤(↑z:Int)∧(↑z:Int)<(↑(lfL Y).length:Int)∧rI (smF Y Y.m.1 - ptS (lfL Y) z - ((lfL Y).getD (↑z:Int).toNat zP).3)∧rI ((↑z:Int)+(1:Int))∧∃ (z_1:Nat),lwK Y z_1∧(lfL Y).length - z_1<(lfL Y).length - z∧a=a∧w=w∧rE (0:Nat)∧rE (0:Nat)∧rE ((lfL Y).length)∧(lwG9 Y)∧rE (0:Int)∧rE (drE Y a a)∧rE (0:Nat)∧rE (0:Nat)∧rE (ylE Y (0:Int) a w)∧smF Y Y.m.1 - ptS (lfL Y) z - ((lfL Y).getD (↑z:Int).toNat zP).3=smF Y Y.m.1 - ptS (lfL Y) z_1∧rE (↑(atF Y.m a Y.m.1):Int)∧(↑z:Int)+(1:Int)=(↑z_1:Int)∧rE Y.c.1∧(lwG6 Y)∧rE Y.m.1∧(lwG7 Y)∧rE ((ylS Y (0:Int) a w).1)∧rE ((ylS Y (0:Int) a w).2)∧True)∧(¬(↑z:Int)<(↑(lfL Y).length:Int)→(¬smF Y Y.m.1 - ptS (lfL Y) z=(0:Int)→false=true∧True)∧(¬¬smF Y Y.m.1 - ptS (lfL Y) z=(0:Int)→(¬drE Y a a=(0:Int)→rE true∧True)∧(¬¬drE Y a a=(0:Int)→(¬ylE Y (0:Int) a w=(0:Int)→rE true∧True)∧(¬¬ylE Y (0:Int) a w=(0:Int)→(0:Nat)<(1:Nat)∧(0:Nat)<(1:Nat)∧rI ((↑(atF Y.m a Y.m.1):Int)+(1:Int))∧(0:Int)≤(0:Int)∧(0:Int)≤(↑(atF Y.m a Y.m.1):Int)+(1:Int)∧(↑(atF Y.m a Y.m.1):Int)+(1:Int)≤(↑Y.m.1:Int)∧(0:Nat)<(1:Nat)∧(lwG8 Y)∧(∀ (i:Nat),i<((↑(atF Y.m a Y.m.1):Int)+(1:Int) - (0:Int)).toNat→True∧True∧True∧True)∧(SV.lst (8:Nat) Y.c.n fun i=>(Y.c.f i).sv)=(clOf Y.c.n fun i=>(Y.c.f i).sv).sv∧(SV.lst (3:Nat) ((↑(atF Y.m a Y.m.n):Int)+(1:Int) - (0:Int)).toNat fun i=>(Y.m.f (Int.toNat (0:Int)+i)).sv)=(msOf ((↑(atF Y.m a Y.m.n):Int)+(1:Int) - (0:Int)).toNat fun i=>(Y.m.f (Int.toNat (0:Int)+i)).sv).sv∧(0:Nat)<(1:Nat)∧(lwG8 Y)∧(∀ (i:Nat),i<Y.m.1→True∧True∧True∧True)∧(SV.lst (8:Nat) Y.c.n fun i=>(Y.c.f i).sv)=(clOf Y.c.n fun i=>(Y.c.f i).sv).sv∧(SV.lst (3:Nat) Y.m.n fun i=>(Y.m.f i).sv)=(msOf Y.m.n fun i=>(Y.m.f i).sv).sv∧(∀ (i:Nat),i<(dwL (Yd.mk (clOf Y.c.n fun i=>(Y.c.f i).sv) (msOf ((↑(atF Y.m a Y.m.n):Int)+(1:Int) - (0:Int)).toNat fun i=>(Y.m.f (Int.toNat (0:Int)+i)).sv)) a).length→True∧True∧True)∧(∀ (i:Nat),i<(dwL (Yd.mk (clOf Y.c.n fun i=>(Y.c.f i).sv) (msOf Y.m.n fun i=>(Y.m.f i).sv)) a).length→True∧True∧True)∧((SV.lst (2:Nat) (dwL (Yd.mk (clOf Y.c.n fun i=>(Y.c.f i).sv) (msOf ((↑(atF Y.m a Y.m.n):Int)+(1:Int) - (0:Int)).toNat fun i=>(Y.m.f (Int.toNat (0:Int)+i)).sv)) a).length fun i=>((dwL (Yd.mk (clOf Y.c.n fun i=>(Y.c.f i).sv) (msOf ((↑(atF Y.m a Y.m.n):Int)+(1:Int) - (0:Int)).toNat fun i=>(Y.m.f (Int.toNat (0:Int)+i)).sv)) a).getD i zP).pt.sv)=twL (dwL (Yd.mk (clOf Y.c.n fun i=>(Y.c.f i).sv) (msOf ((↑(atF Y.m a Y.m.n):Int)+(1:Int) - (0:Int)).toNat fun i=>(Y.m.f (Int.toNat (0:Int)+i)).sv)) a).length fun i=>tOf ((dwL (Yd.mk (clOf Y.c.n fun i=>(Y.c.f i).sv) (msOf ((↑(atF Y.m a Y.m.n):Int)+(1:Int) - (0:Int)).toNat fun i=>(Y.m.f (Int.toNat (0:Int)+i)).sv)) a).getD i zP).pt.sv)∧((SV.lst (2:Nat) (dwL (Yd.mk (clOf Y.c.n fun i=>(Y.c.f i).sv) (msOf Y.m.n fun i=>(Y.m.f i).sv)) a).length fun i=>((dwL (Yd.mk (clOf Y.c.n fun i=>(Y.c.f i).sv) (msOf Y.m.n fun i=>(Y.m.f i).sv)) a).getD i zP).pt.sv)=twL (dwL (Yd.mk (clOf Y.c.n fun i=>(Y.c.f i).sv) (msOf Y.m.n fun i=>(Y.m.f i).sv)) a).length fun i=>tOf ((dwL (Yd.mk (clOf Y.c.n fun i=>(Y.c.f i).sv) (msOf Y.m.n fun i=>(Y.m.f i).sv)) a).getD i zP).pt.sv)∧(dwL (Yd.mk (clOf Y.c.n fun i=>(Y.c.f i).sv) (msOf ((↑(atF Y.m a Y.m.n):Int)+(1:Int) - (0:Int)).toNat fun i=>(Y.m.f (Int.toNat (0:Int)+i)).sv)) a).length≤(1000:Nat)∧((lwG10 Y a)→(drE (Yd.mk (clOf Y.c.n fun i=>(Y.c.f i).sv) (msOf ((↑(atF Y.m a Y.m.n):Int)+(1:Int) - (0:Int)).toNat fun i=>(Y.m.f (Int.toNat (0:Int)+i)).sv)) a a=(0:Int)→(drE (Yd.mk (clOf Y.c.n fun i=>(Y.c.f i).sv) (msOf Y.m.n fun i=>(Y.m.f i).sv)) a a=(0:Int)→rE true∧True)∧(¬drE (Yd.mk (clOf Y.c.n fun i=>(Y.c.f i).sv) (msOf Y.m.n fun i=>(Y.m.f i).sv)) a a=(0:Int)→false=true∧True))∧(¬drE (Yd.mk (clOf Y.c.n fun i=>(Y.c.f i).sv) (msOf ((↑(atF Y.m a Y.m.n):Int)+(1:Int) - (0:Int)).toNat fun i=>(Y.m.f (Int.toNat (0:Int)+i)).sv)) a a=(0:Int)→false=true∧True))∧(¬(lwG10 Y a)→false=true∧True))))))
def lwG3 (Y:Yd) (a:Int) (b:Int) (w:Int):Prop:=(True∧True∧True∧True∧lwS Y b∧a=a∧w=w∧rE (0:Nat)∧rE (0:Nat)∧(lfL (Yd.mk (clOf Y.c.n fun i=>(Y.c.f i).sv) (msOf Y.m.n fun i=>(Y.m.f i).sv))).length=(lfL Y).length∧(lwG11 Y)∧ckY (Yd.mk (clOf Y.c.n fun i=>(Y.c.f i).sv) (msOf Y.m.n fun i=>(Y.m.f i).sv))=(0:Int)∧beN (Yd.mk (clOf Y.c.n fun i=>(Y.c.f i).sv) (msOf Y.m.n fun i=>(Y.m.f i).sv)) a=beN Y a∧(lwG12 Y a)∧drE (Yd.mk (clOf Y.c.n fun i=>(Y.c.f i).sv) (msOf Y.m.n fun i=>(Y.m.f i).sv)) a a=drE Y a a∧rE (0:Nat)∧rE (0:Nat)∧ylE (Yd.mk (clOf Y.c.n fun i=>(Y.c.f i).sv) (msOf Y.m.n fun i=>(Y.m.f i).sv)) (0:Int) a w=ylE Y (0:Int) a w∧(1:Int)+b.tmod ((↑Y.m.1:Int) - (1:Int))=ixI Y b∧rE (0:Nat)∧rE (0:Nat)∧rE (0:Nat)∧rE (0:Nat)∧rE Y.c.1∧(lwG6 Y)∧rE Y.m.1∧(lwG7 Y)∧(ylS (Yd.mk (clOf Y.c.n fun i=>(Y.c.f i).sv) (msOf Y.m.n fun i=>(Y.m.f i).sv)) (0:Int) a w).1=(ylS Y (0:Int) a w).1∧(ylS (Yd.mk (clOf Y.c.n fun i=>(Y.c.f i).sv) (msOf Y.m.n fun i=>(Y.m.f i).sv)) (0:Int) a w).2=(ylS Y (0:Int) a w).2∧(Y.m.f ((1:Int)+b.tmod ((↑Y.m.n:Int) - (1:Int)) - (1:Int)).toNat).1=(Y.m.f (ixI Y b - (1:Int)).toNat).1∧(Y.m.f ((1:Int)+b.tmod ((↑Y.m.n:Int) - (1:Int)) - (1:Int)).toNat).2=(Y.m.f (ixI Y b - (1:Int)).toNat).2∧(Y.m.f ((1:Int)+b.tmod ((↑Y.m.n:Int) - (1:Int)) - (1:Int)).toNat).3=(Y.m.f (ixI Y b - (1:Int)).toNat).3∧(Y.m.f ((1:Int)+b.tmod ((↑Y.m.n:Int) - (1:Int))).toNat).1=(Y.m.f (ixI Y b).toNat).1∧(Y.m.f ((1:Int)+b.tmod ((↑Y.m.n:Int) - (1:Int))).toNat).2=(Y.m.f (ixI Y b).toNat).2∧(Y.m.f ((1:Int)+b.tmod ((↑Y.m.n:Int) - (1:Int))).toNat).3=(Y.m.f (ixI Y b).toNat).3∧True)
def lwG4 (Y:Yd) (a:Int) (b:Int) (w:Int):Prop:=(True∧(True∧(0:Int)≤(1:Int)+b.tmod ((↑Y.m.1:Int) - (1:Int))∧(1:Int)+b.tmod ((↑Y.m.1:Int) - (1:Int))<(↑Y.m.1:Int)∧(lwG3 Y a b w)∧(True∧(lwG0 Y a b w)∧(lwG0 Y a b w)∧True)∧True)∧(True∧(True∧(0:Int)≤(1:Int)+b.tmod ((↑Y.m.1:Int) - (1:Int))∧(1:Int)+b.tmod ((↑Y.m.1:Int) - (1:Int))<(↑Y.m.1:Int)∧(lwG0 Y a b w)∧(lwG0 Y a b w)∧True)∧(True∧True∧(0:Int)≤(1:Int)+b.tmod ((↑Y.m.1:Int) - (1:Int))∧(1:Int)+b.tmod ((↑Y.m.1:Int) - (1:Int))<(↑Y.m.1:Int)∧True∧True∧lwS Y b∧a=a∧w=w∧rE (0:Nat)∧rE (0:Nat)∧(lfL (Yd.mk (clOf Y.c.n fun i=>(Y.c.f i).sv) (msOf Y.m.n fun i=>(Y.m.f i).sv))).length=(lfL Y).length∧(lwG11 Y)∧ckY (Yd.mk (clOf Y.c.n fun i=>(Y.c.f i).sv) (msOf Y.m.n fun i=>(Y.m.f i).sv))=(0:Int)∧beN (Yd.mk (clOf Y.c.n fun i=>(Y.c.f i).sv) (msOf Y.m.n fun i=>(Y.m.f i).sv)) a=beN Y a∧(lwG12 Y a)∧drE (Yd.mk (clOf Y.c.n fun i=>(Y.c.f i).sv) (msOf Y.m.n fun i=>(Y.m.f i).sv)) a a=drE Y a a∧rE (0:Nat)∧rE (0:Nat)∧ylE (Yd.mk (clOf Y.c.n fun i=>(Y.c.f i).sv) (msOf Y.m.n fun i=>(Y.m.f i).sv)) (0:Int) a w=ylE Y (0:Int) a w∧(1:Int)+b.tmod ((↑Y.m.1:Int) - (1:Int))=ixI Y b∧rE (0:Nat)∧rE (0:Nat)∧rE (0:Nat)∧rE (0:Nat)∧rE Y.c.1∧(lwG6 Y)∧rE Y.m.1∧(lwG7 Y)∧(ylS (Yd.mk (clOf Y.c.n fun i=>(Y.c.f i).sv) (msOf Y.m.n fun i=>(Y.m.f i).sv)) (0:Int) a w).1=(ylS Y (0:Int) a w).1∧(ylS (Yd.mk (clOf Y.c.n fun i=>(Y.c.f i).sv) (msOf Y.m.n fun i=>(Y.m.f i).sv)) (0:Int) a w).2=(ylS Y (0:Int) a w).2∧(Y.m.f ((1:Int)+b.tmod ((↑Y.m.n:Int) - (1:Int)) - (1:Int)).toNat).1=(Y.m.f (ixI Y b - (1:Int)).toNat).1∧(Y.m.f ((1:Int)+b.tmod ((↑Y.m.n:Int) - (1:Int)) - (1:Int)).toNat).2=(Y.m.f (ixI Y b - (1:Int)).toNat).2∧(Y.m.f ((1:Int)+b.tmod ((↑Y.m.n:Int) - (1:Int)) - (1:Int)).toNat).3=(Y.m.f (ixI Y b - (1:Int)).toNat).3∧(Y.m.f ((1:Int)+b.tmod ((↑Y.m.n:Int) - (1:Int))).toNat).1=(Y.m.f (ixI Y b).toNat).1∧(Y.m.f ((1:Int)+b.tmod ((↑Y.m.n:Int) - (1:Int))).toNat).2=(Y.m.f (ixI Y b).toNat).2∧(Y.m.f ((1:Int)+b.tmod ((↑Y.m.n:Int) - (1:Int))).toNat).3=(Y.m.f (ixI Y b).toNat).3∧True)∧True)∧True)
def lwG5 (Y:Yd) (a:Int) (w:Int):Prop:=(∃ (z:Nat),lwI Y z∧a=a∧w=w∧rE (0:Nat)∧rE (0:Nat)∧rE ((lfL Y).length)∧(lwG9 Y)∧rE (0:Int)∧rE (drE Y a a)∧rE (0:Nat)∧rE (0:Nat)∧rE (ylE Y (0:Int) a w)∧(0:Int)=smF Y z∧(0:Int)=(↑(dn Y.m z):Int)∧(↑Y.m.1:Int)=(↑(atF Y.m a z):Int)∧(0:Int)=(↑z:Int)∧rE Y.c.1∧(lwG6 Y)∧rE Y.m.1∧(lwG7 Y)∧rE ((ylS Y (0:Int) a w).1)∧rE ((ylS Y (0:Int) a w).2)∧True)
theorem lwG_vc (Y:Yd) (a:Int) (b:Int) (w:Int):lwG Y a b w =
((0:Nat)<(1:Nat)∧(lwG8 Y)∧(∀ (i:Nat),i<Y.m.1→True∧True∧True∧True)∧(SV.lst (8:Nat) Y.c.n fun i=>(Y.c.f i).sv)=(clOf Y.c.n fun i=>(Y.c.f i).sv).sv∧(SV.lst (3:Nat) Y.m.n fun i=>(Y.m.f i).sv)=(msOf Y.m.n fun i=>(Y.m.f i).sv).sv∧((10:Int)<(↑Y.c.n:Int)∨(36:Int)<(↑Y.m.n:Int)→rE true∧True)∧(¬((10:Int)<(↑Y.c.n:Int)∨(36:Int)<(↑Y.m.n:Int))→(0:Nat)<(1:Nat)∧((↑Y.m.1:Int)<(2:Int)→rE true∧True)∧(¬(↑Y.m.1:Int)<(2:Int)→(0:Nat)<(1:Nat)∧(lwG8 Y)∧(∀ (i:Nat),i<Y.m.1→True∧True∧True∧True)∧(SV.lst (8:Nat) Y.c.n fun i=>(Y.c.f i).sv)=(clOf Y.c.n fun i=>(Y.c.f i).sv).sv∧(SV.lst (3:Nat) Y.m.n fun i=>(Y.m.f i).sv)=(msOf Y.m.n fun i=>(Y.m.f i).sv).sv∧(¬ckY (Yd.mk (clOf Y.c.n fun i=>(Y.c.f i).sv) (msOf Y.m.n fun i=>(Y.m.f i).sv))=(0:Int)→((↑(lfL (Yd.mk
(clOf Y.c.n fun i=>(Y.c.f i).sv) (msOf Y.m.n fun i=>(Y.m.f i).sv))).length:Int)=(0:Int)→rE true∧True)∧(¬(↑(lfL (Yd.mk (clOf Y.c.n fun i=>(Y.c.f i).sv) (msOf Y.m.n fun i=>(Y.m.f i).sv))).length:Int)=(0:Int)→false=true∧True))∧(¬¬ckY (Yd.mk (clOf Y.c.n fun i=>(Y.c.f i).sv) (msOf Y.m.n fun i=>(Y.m.f i).sv))=(0:Int)→(0:Nat)<(1:Nat)∧(lwG8 Y)∧(∀ (i:Nat),i<Y.m.1→True∧True∧True∧True)∧(SV.lst (8:Nat) Y.c.n fun i=>(Y.c.f i).sv)=(clOf Y.c.n fun i=>(Y.c.f i).sv).sv∧(SV.lst (3:Nat) Y.m.n fun i=>(Y.m.f i).sv)=(msOf Y.m.n fun i=>(Y.m.f i).sv).sv∧(0:Nat)<(1:Nat)∧(lwG8 Y)∧(∀ (i:Nat),i<Y.m.1→True∧True∧True∧True)∧(SV.lst (8:Nat) Y.c.n fun i=>(Y.c.f i).sv)=(clOf Y.c.n fun i=>(Y.c.f i).sv).sv∧(SV.lst (3:Nat) Y.m.n fun i=>(Y.m.f i).sv)=(msOf Y.m.n fun i=>(Y.m.f i).sv).sv∧rI (b)
∧ (0:Nat)<(1:Nat)∧rI ((↑Y.m.1:Int) - (1:Int))∧((↑Y.m.1:Int) - (1:Int)=(0:Int)→False)∧rI ((1:Int)+b.tmod ((↑Y.m.1:Int) - (1:Int)))∧(True∧True∧(0:Nat)<(1:Nat)∧True∧True∧rI ((1:Int)+b.tmod ((↑Y.m.1:Int) - (1:Int)) - (1:Int))∧True∧(0:Int)≤(1:Int)+b.tmod ((↑Y.m.1:Int) - (1:Int)) - (1:Int)∧(1:Int)+b.tmod ((↑Y.m.1:Int) - (1:Int)) - (1:Int)<(↑Y.m.1:Int)∧True∧True∧True∧(0:Nat)<(1:Nat)∧True∧(True∧(0:Int)≤(1:Int)+b.tmod ((↑Y.m.1:Int) - (1:Int))∧(1:Int)+b.tmod ((↑Y.m.1:Int) - (1:Int))<(↑Y.m.1:Int)∧(True∧(lwG3 Y a b w)∧(lwG3 Y a b w)∧True)∧(True∧(lwG3 Y a b w)∧(True∧(lwG0 Y a b w)∧(lwG0 Y a b w)∧True)∧True)∧(True∧(lwG3 Y a b w)∧(True∧(lwG0 Y a b w)∧(lwG0 Y a b w)∧True)∧True)∧True)∧(lwG4 Y a b w)∧(lwG4 Y a b w)∧True)
∧ ∀ (zp4_0:Unit),lwS Y b→(0:Nat)<(1:Nat)∧(¬(Y.m.f (ixI Y b - (1:Int)).toNat).2=(-1:Int)→(0:Nat)<(1:Nat)∧(¬(Y.m.f (ixI Y b).toNat).2=(-1:Int)→(0:Nat)<(1:Nat)∧(0:Nat)<(1:Nat)∧((Y.m.f (ixI Y b - (1:Int)).toNat).1=(Y.m.f (ixI Y b).toNat).1→(0:Nat)<(1:Nat)∧(0:Nat)<(1:Nat)∧(∀ (i:Nat),i<Y.m.1→rE true)∧rE (0:Nat)∧rE (0:Nat)∧(∀ (i:Nat),rE true)∧((0:Nat)+Y.m.1)*(24:Nat)≤(140737488355328:Nat)∧(0:Nat)+Y.m.1≤(4611686018427387904:Nat)∧(True∧True∧True∧True∧(0:Nat)<(1:Nat)∧True∧True∧True∧True∧rI (ixI Y b - (1:Int))∧True∧True∧True∧True∧(0:Nat)<(1:Nat)∧True∧True∧True∧True∧(0:Nat)<(1:Nat)∧True∧True∧(0:Nat)<(1:Nat)∧True∧True∧(0:Int)≤ixI Y b - (1:Int)∧ixI Y b - (1:Int)<(↑((0:Nat)+Y.m.1):Int)∧True
∧ True∧(0:Nat)+(3:Nat)≤(3:Nat)∧(0:Nat)+(ixI Y b - (1:Int)).toNat<(0:Nat)+Y.m.1∧(∀ (i':Nat),rE true)∧True∧True∧(0:Int)≤ixI Y b∧ixI Y b<(↑((0:Nat)+Y.m.1):Int)∧True∧True∧(0:Nat)+(3:Nat)≤(3:Nat)∧(0:Nat)+(ixI Y b).toNat<(0:Nat)+Y.m.1∧(∀ (i':Nat),rE true)∧lwS Y b∧a=a∧w=w∧rE (0:Nat)∧rE (0:Nat)∧rE ((lfL Y).length)∧(lwG9 Y)∧rE (0:Int)∧rE (beN Y a)∧(∀ (i:Nat),i<beN Y a→rE ((bsS (dwL Y a) i).sv.den)∧True∧True∧True)∧rE (drE Y a a)∧rE (0:Nat)∧rE (0:Nat)∧rE (ylE Y (0:Int) a w)∧rE (ixI Y b)∧rE (0:Nat)∧rE (0:Nat)∧rE (0:Nat)∧rE (0:Nat)∧rE (0:Nat)∧rE (0:Nat)∧rE Y.c.1∧(lwG6 Y)∧rE Y.m.1∧(lwG7 Y)∧rE ((ylS Y (0:Int) a w).1)∧rE ((ylS Y (0:Int) a w).2)∧rE ((Y.m.f (ixI Y b - (1:Int)).toNat).1)∧rE ((Y.m.f (ixI Y b - (1 :
Int)).toNat).2)∧rE ((Y.m.f (ixI Y b - (1:Int)).toNat).3)∧rE ((Y.m.f (ixI Y b).toNat).1)∧rE ((Y.m.f (ixI Y b).toNat).2)∧rE ((Y.m.f (ixI Y b).toNat).3)∧rE Y.c.1∧(lwG6 Y)∧rE (0:Nat)∧(0:Nat)+Y.m.1=Y.m.1∧Y.m.1=(0:Nat)+Y.m.1∧(∀ (i:Nat),i<Y.m.1→rE (3:Nat)∧((if i=(0:Nat)+(ixI Y b).toNat then (Y.m.f (ixI Y b - (1:Int)).toNat).1 else if i=(0:Nat)+(ixI Y b - (1:Int)).toNat then (Y.m.f (ixI Y b).toNat).1 else if i<(0:Nat) then (0:Int) else (Y.m.f (i - (0:Nat))).1)=if i=(ixI Y b).toNat - (1:Nat) then (Y.m.f (ixI Y b).toNat).1 else if i=(ixI Y b).toNat then (Y.m.f ((ixI Y b).toNat - (1:Nat))).1 else (Y.m.f i).1)∧((if i=(0:Nat)+(ixI Y b).toNat then (Y.m.f (ixI Y b - (1:Int)).toNat).2 else if i=(0:Nat)+(ixI Y b - (1:Int)).toNat then (Y.m.f (ixI Y b).toNat).2 else if i<(0:Nat) then (0:Int) else
(Y.m.f (i - (0:Nat))).2)=if i=(ixI Y b).toNat - (1:Nat) then (Y.m.f (ixI Y b).toNat).2 else if i=(ixI Y b).toNat then (Y.m.f ((ixI Y b).toNat - (1:Nat))).2 else (Y.m.f i).2)∧((if i=(0:Nat)+(ixI Y b).toNat then (Y.m.f (ixI Y b - (1:Int)).toNat).3 else if i=(0:Nat)+(ixI Y b - (1:Int)).toNat then (Y.m.f (ixI Y b).toNat).3 else if i<(0:Nat) then (0:Int) else (Y.m.f (i - (0:Nat))).3)=if i=(ixI Y b).toNat - (1:Nat) then (Y.m.f (ixI Y b).toNat).3 else if i=(ixI Y b).toNat then (Y.m.f ((ixI Y b).toNat - (1:Nat))).3 else (Y.m.f i).3)∧True)∧True)∧∀ (zp4_0:Unit),lwS Y b→(0:Nat)<(1:Nat)∧(lwG8 Y)∧(0:Nat)+Y.m.1≤Y.m.1∧(∀ (i:Nat),i<Y.m.1→rE (3:Nat)∧True∧True∧True∧True)∧(SV.lst (8:Nat) Y.c.n fun i=>(Y.c.f i).sv)=(clOf Y.c.n fun i=>(Y.c.f i).sv).sv∧(SV.lst (3:Nat) Y.m.n fun i=>((swM Y.m (ixI Y
b).toNat).f (i+(0:Nat))).sv)=(msOf Y.m.n fun i=>((swM Y.m (ixI Y b).toNat).f (i+(0:Nat))).sv).sv∧(0:Nat)<(1:Nat)∧(lwG8 Y)∧(0:Nat)+Y.m.1≤Y.m.1∧(∀ (i:Nat),i<Y.m.1→rE (3:Nat)∧True∧True∧True∧True)∧(SV.lst (8:Nat) Y.c.n fun i=>(Y.c.f i).sv)=(clOf Y.c.n fun i=>(Y.c.f i).sv).sv∧(SV.lst (3:Nat) Y.m.n fun i=>((swM Y.m (ixI Y b).toNat).f (i+(0:Nat))).sv)=(msOf Y.m.n fun i=>((swM Y.m (ixI Y b).toNat).f (i+(0:Nat))).sv).sv∧(∀ (i:Nat),i<beN Y a→True∧True∧True)∧(∀ (i:Nat),i<beN (Yd.mk (clOf Y.c.n fun i=>(Y.c.f i).sv) (msOf Y.m.n fun i=>((swM Y.m (ixI Y b).toNat).f (i+(0:Nat))).sv)) a→True∧True∧True)∧((SV.lst (2:Nat) (beN Y a) fun i=>(bsS (dwL Y a) i).sv)=twL (beN Y a) fun i=>tOf (bsS (dwL Y a) i).sv)∧((SV.lst (2:Nat) (beN (Yd.mk (clOf Y.c.n fun i=>(Y.c.f i).sv) (msOf Y.m.n
fun i=>((swM Y.m (ixI Y b).toNat).f (i+(0:Nat))).sv)) a) fun i=>(bsS (dwL (Yd.mk (clOf Y.c.n fun i=>(Y.c.f i).sv) (msOf Y.m.n fun i=>((swM Y.m (ixI Y b).toNat).f (i+(0:Nat))).sv)) a) i).sv)=twL (beN (Yd.mk (clOf Y.c.n fun i=>(Y.c.f i).sv) (msOf Y.m.n fun i=>((swM Y.m (ixI Y b).toNat).f (i+(0:Nat))).sv)) a) fun i=>tOf (bsS (dwL (Yd.mk (clOf Y.c.n fun i=>(Y.c.f i).sv) (msOf Y.m.n fun i=>((swM Y.m (ixI Y b).toNat).f (i+(0:Nat))).sv)) a) i).sv)∧beN Y a≤(1000:Nat)∧(¬(beN Y a=beN (Yd.mk (clOf Y.c.n fun i=>(Y.c.f i).sv) (msOf Y.m.n fun i=>((swM Y.m (ixI Y b).toNat).f (i+(0:Nat))).sv)) a∧eqT (beN Y a) (fun i=>tOf (bsS (dwL Y a) i).sv) fun i=>tOf (bsS (dwL (Yd.mk (clOf Y.c.n fun i=>(Y.c.f i).sv) (msOf Y.m.n fun i=>((swM Y.m (ixI Y b).toNat).f (i+(0:Nat))).sv)) a) i).sv)→false=true∧True)∧(¬¬(beN Y a=beN (Yd.mk (clOf
Y.c.n fun i=>(Y.c.f i).sv) (msOf Y.m.n fun i=>((swM Y.m (ixI Y b).toNat).f (i+(0:Nat))).sv)) a∧eqT (beN Y a) (fun i=>tOf (bsS (dwL Y a) i).sv) fun i=>tOf (bsS (dwL (Yd.mk (clOf Y.c.n fun i=>(Y.c.f i).sv) (msOf Y.m.n fun i=>((swM Y.m (ixI Y b).toNat).f (i+(0:Nat))).sv)) a) i).sv)→(¬drE (Yd.mk (clOf Y.c.n fun i=>(Y.c.f i).sv) (msOf Y.m.n fun i=>((swM Y.m (ixI Y b).toNat).f (i+(0:Nat))).sv)) a a=drE Y a a→false=true∧True)∧(¬¬drE (Yd.mk (clOf Y.c.n fun i=>(Y.c.f i).sv) (msOf Y.m.n fun i=>((swM Y.m (ixI Y b).toNat).f (i+(0:Nat))).sv)) a a=drE Y a a→(0:Nat)<(1:Nat)∧(0:Nat)<(1:Nat)∧(¬((ylS (Yd.mk (clOf Y.c.n fun i=>(Y.c.f i).sv) (msOf Y.m.n fun i=>((swM Y.m (ixI Y b).toNat).f (i+(0:Nat))).sv)) (0:Int) a w).1=(ylS Y (0:Int) a w).1∧(ylS (Yd.mk (clOf Y.c.n fun i=>(Y.c.f i).sv) (msOf Y.m.n fun i=>((swM Y.m
(ixI Y b).toNat).f (i+(0:Nat))).sv)) (0:Int) a w).2=(ylS Y (0:Int) a w).2)→false=true∧True)∧(¬¬((ylS (Yd.mk (clOf Y.c.n fun i=>(Y.c.f i).sv) (msOf Y.m.n fun i=>((swM Y.m (ixI Y b).toNat).f (i+(0:Nat))).sv)) (0:Int) a w).1=(ylS Y (0:Int) a w).1∧(ylS (Yd.mk (clOf Y.c.n fun i=>(Y.c.f i).sv) (msOf Y.m.n fun i=>((swM Y.m (ixI Y b).toNat).f (i+(0:Nat))).sv)) (0:Int) a w).2=(ylS Y (0:Int) a w).2)→(¬ylE (Yd.mk (clOf Y.c.n fun i=>(Y.c.f i).sv) (msOf Y.m.n fun i=>((swM Y.m (ixI Y b).toNat).f (i+(0:Nat))).sv)) (0:Int) a w=ylE Y (0:Int) a w→false=true∧True)∧(¬¬ylE (Yd.mk (clOf Y.c.n fun i=>(Y.c.f i).sv) (msOf Y.m.n fun i=>((swM Y.m (ixI Y b).toNat).f (i+(0:Nat))).sv)) (0:Int) a w=ylE Y (0:Int) a w→(0:Nat)<(1:Nat)∧(lwG5 Y a w)∧∀ (z:Nat),lwI Y z→(0:Nat)<(1:Nat)∧(lwG1 Y a w z)∧(lwG2 Y a w
z))))))∧(¬(Y.m.f (ixI Y b - (1:Int)).toNat).1=(Y.m.f (ixI Y b).toNat).1→(0:Nat)<(1:Nat)∧(lwG5 Y a w)∧∀ (z:Nat),lwI Y z→(0:Nat)<(1:Nat)∧(lwG1 Y a w z)∧(lwG2 Y a w z)))∧(¬¬(Y.m.f (ixI Y b).toNat).2=(-1:Int)→(0:Nat)<(1:Nat)∧(lwG5 Y a w)∧∀ (z:Nat),lwI Y z→(0:Nat)<(1:Nat)∧(lwG1 Y a w z)∧(lwG2 Y a w z)))∧(¬¬(Y.m.f (ixI Y b - (1:Int)).toNat).2=(-1:Int)→(0:Nat)<(1:Nat)∧(lwG5 Y a w)∧∀ (z:Nat),lwI Y z→(0:Nat)<(1:Nat)∧(lwG1 Y a w z)∧(lwG2 Y a w z)))))):=by kernel_rfl
end Go.Proofs.Ytmohedjgoakdjaa

set_option maxRecDepth 100000
namespace Go.Proofs.Ytmohedjgoakdjaa
open Go Go.Lg
attribute [local irreducible] funS bodyH
theorem lg_true (Y:Yd):lgG Y:=by
 rw [lgG_vc]
 simp only [rI,rE,tt3,tt4,tt5,tt13,tt14,rI,rE,and_true,true_and,Nat.zero_lt_one,and_self,implies_true]
 refine ⟨fun h=>⟨fun _=>.inl h,fun _=>trivial⟩,fun h=>⟨fun h2=>.inr h2,fun h2=>h2.elim (fun h3=>absurd h3 h) id⟩⟩
theorem lg_ok:lgC.Ok Try.prog:=by
 refine ⟨by kernel_rfl,fun x k hk=>?_⟩
 simp only [lgC] at hk
 split at hk
 ·rename_i n f m g
  obtain ⟨h1,h2,hk⟩:=hk
  have hh:=lg_true ⟨clOf n f,msOf m g⟩
  unfold lgG at hh
  simp only [Yd.sv] at hh
  rw [← h1,← h2] at hh
  have hh:funH Try.prog (ctrs []) noX (ictrs []) noL noL 9 [.agg [.lst 8 n f,.lst 3 m g]] _:=hh
  exact ⟨_,plainD nilS_cs nilS_x nilS_ic hh trivial,hk⟩
 ·exact hk.elim
theorem aw_ok:awC.Ok Try.prog:=by
 refine ⟨by kernel_rfl,fun x k hk=>?_⟩
 simp only [awC] at hk
 split at hk
 ·exact ⟨.bool true,Does.plain (res:=.bool true) Zc_does trivial,hk⟩
 ·exact hk.elim
theorem csL_sound:SoundS Try.prog csL:=ctrsF_sound (ctrs_sound (by
 intro x hx
 simp at hx
 rcases hx with rfl | rfl | rfl | rfl | rfl | rfl
 ·exact lg_ok
 ·exact aw_ok
 ·exact be_ok
 ·exact yl_ok
 ·exact lt_ok
 ·exact lt_ok')) (by
 intro x hx
 simp at hx
 rcases hx with rfl | rfl
 ·exact lf_ok
 ·exact dw_ok)
theorem tf_fold (f:Nat→Tw):(fun i=>tOf (f i).sv)=f:=rfl
theorem tw_fold (n:Nat) (f:Nat→Tw):(SV.lst 2 n fun i=>(f i).sv)=twL n f:=rfl
theorem sm_eq {Y:Yd} (hc:ckY Y=0):∀ k,k≤Y.m.n→smF Y k=lf Y.m k
 | 0,_=>rfl
 | k+1,hk=>by
  show smF Y k+smI Y k=_
  rw [sm_eq hc k (by omega),lf_s]
  congr 1
  unfold smI dl
  by_cases hd:(Y.m.f k).co=-1
  ·rw [if_pos hd,if_pos hd]
   show -(ptA (dwL Y (dn Y.m k)))=_
   rw [(draw_sum hc (by omega) hd).2]
  ·rw [if_neg hd,if_neg hd]
theorem at_y {M:Ms} {a:Int} {k:Nat} (h:(M.f k).co=-1) (h2:(dn M k:Int)=a):atF M a (k+1)=k:=by simp only [atF,if_pos (And.intro h h2)]
theorem at_n {M:Ms} {a:Int} {k:Nat} (h:¬ ((M.f k).co=-1∧(dn M k:Int)=a)):atF M a (k+1)=atF M a k:=by simp only [atF,if_neg h]
theorem at_spec {M:Ms} {a:Int} (h0:0≤a):∀ k,a<dn M k→atF M a k<k∧(M.f (atF M a k)).co=-1∧(dn M (atF M a k):Int)=a
 | 0,h=>by simp [dn] at h; omega
 | k+1,h=>by
  by_cases hd:(M.f k).co=-1
  ·rw [dn_y hd] at h
   by_cases e:(dn M k:Int)=a
   ·rw [at_y hd e]; exact ⟨by omega,hd,e⟩
   ·rw [at_n fun h2=>e h2.2]
    have ih:=at_spec (M:=M) (a:=a) h0 k (by omega)
    exact ⟨by omega,ih.2⟩
  ·rw [dn_n hd] at h
   rw [at_n fun h2=>hd h2.1]
   have ih:=at_spec (M:=M) (a:=a) h0 k h
   exact ⟨by omega,ih.2⟩
theorem dr_in {Y:Yd} {a:Int} (h:drE Y a a=0):0≤a∧a<dn Y.m Y.m.n:=by
 apply Classical.byContradiction
 intro hn
 have:=drE_2 (a:=a) (b:=a) (drE_ck h) (by omega)
 omega
theorem ix_bd {Y:Yd} {b:Int} (h:lwS Y b):1≤ixI Y b∧ixI Y b<Y.m.n:=by
 have n2:=h.n
 have hb:=h.b
 unfold ixI
 rw [Int.tmod_eq_emod_of_nonneg hb.1]
 have h1:=Int.emod_nonneg b (b:=(Y.m.n:Int) - 1) (by omega)
 have h2:=Int.emod_lt_of_pos b (b:=(Y.m.n:Int) - 1) (by omega)
 omega
theorem sw_ms (M:Ms) (i:Nat):(msOf M.n fun k=>((swM M i).f k).sv)=swM M i:=rfl
theorem sw_swp {M:Ms} {i:Nat} (i1:1≤i) (i2:i<M.n) (ha:¬ (M.f (i - 1)).co=-1) (hb:¬ (M.f i).co=-1) (h:(M.f (i - 1)).hr=(M.f i).hr):Swp M (swM M i) i:=by
 refine ⟨rfl,i1,i2,?_,?_,fun k h1 h2=>?_,ha,hb,h⟩
 ·simp only [swM,if_true]
 ·simp only [swM,if_neg (show ¬ i=i - 1 by omega),if_true]
 ·simp only [swM,if_neg h1,if_neg h2]
theorem cut_sv (M:Ms) (k:Nat):(SV.lst 3 k fun i=>(M.f (Int.toNat 0+i)).sv)=(cuM M k).sv:=by
 show (SV.lst 3 k fun i=>(M.f (Int.toNat 0+i)).sv)=SV.lst 3 k fun i=>(M.f i).sv
 congr 1
 funext i
 rw [show Int.toNat 0+i=i by simp]
theorem pt_bd {l:List Pn} (h:∀ i,i<l.length→0≤(l.getD i zP).tn∧(l.getD i zP).tn≤33554432):∀ j,j≤l.length→0≤ptS l j∧ptS l j≤j*33554432
 | 0,_=>by simp [ptS,sumJ]
 | j+1,hj=>by
  have ih:=pt_bd h j (by omega)
  have:=h j (by omega)
  show 0≤ptS l j+(l.getD j zP).tn∧ptS l j+(l.getD j zP).tn≤_
  have e:(((j+1:Nat):Int))*33554432=j*33554432+33554432:=by push_cast; omega
  rw [e]
  omega
theorem cut_ms (M:Ms) (k:Nat):(msOf k fun i=>(M.f (Int.toNat 0+i)).sv)=cuM M k:=by
 unfold msOf cuM
 congr 1
 funext i
 show mvOf (M.f (Int.toNat 0+i)).sv=M.f i
 rw [show Int.toNat 0+i=i by simp]; rfl
theorem lw_true (Y:Yd) (a b w:Int) (hb:0≤b∧b≤255):lwG Y a b w:=by
 rw [lwG_vc]
 have e0:Yd.mk Y.c Y.m=Y:=rfl
 have e1:∀ t:Tw,Tw.mk t.lo t.hi=t:=fun t=>rfl
 simp only [lwG0,lwG1,lwG2,lwG3,lwG4,lwG5,lwG6,lwG7,lwG8,lwG9,lwG10,lwG11,lwG12,rI,rE,tt3,tt4,tt5,tt13,tt14,rI,rE,tt3,tt4,tt5,tt13,tt14,and_true,true_and,Nat.zero_lt_one,and_self,implies_true,Int.toNat_natCast,Nat.zero_add,Nat.add_zero,Nat.one_mul,Nat.mul_one,Classical.not_not,iff_self,Bool.false_eq_true,imp_false,and_imp,true_implies,forall_const,ms_fold,cl_fold,mv_fold,cv_fold,e0,e1,tf_fold,tw_fold,sw_ms,cut_ms]
 intro hlg hn2
 refine ⟨fun h=>by rw [lf_no h]; rfl,fun hc=>?_⟩
 have hS:lwS Y b:=⟨hc,by omega,hb⟩
 obtain ⟨x1,x2⟩:=ix_bd hS
 have xe:1+b.tmod ((Y.m.n:Int) - 1)=ixI Y b:=rfl
 rw [xe]
 obtain ⟨hC,hM,hSh⟩:=ck_0 hc
 have hn:=hM.n
 refine ⟨by omega,by omega,by omega,by omega,⟨by omega,by omega,by omega,by omega,by omega,hS,hc,rfl,rfl,rfl,rfl,rfl,rfl,rfl⟩,fun _=>⟨fun ha=>⟨fun hbb=>⟨fun hh=>?_,fun _=>?_⟩,fun _=>?_⟩,fun _=>?_⟩⟩
 ·have et:(ixI Y b - 1).toNat=(ixI Y b).toNat - 1:=by omega
  rw [et] at ha hh
  have sw:=sw_swp (M:=Y.m) (i:=(ixI Y b).toNat) (by omega) (by omega) ha hbb hh
  obtain ⟨s1,s2,s3,-,-⟩:=swp_all (C:=Y.c) sw (show ckY ⟨Y.c,Y.m⟩=0 from hc) a a w
  obtain ⟨-,-,-,s4,s5⟩:=swp_all (C:=Y.c) sw (show ckY ⟨Y.c,Y.m⟩=0 from hc) 0 a w
  rw [e0] at s1 s3 s4 s5
  have s6:beN ⟨Y.c,swM Y.m (ixI Y b).toNat⟩ a=beN Y a:=by unfold beN; rw [s1]
  have bn:beN Y a≤1000:=by
   have:=hC.b
   unfold beN
   split <;> omega
  rw [s1,s3,s4,s5,s6,et]
  refine ⟨by omega,by omega,⟨by omega,by omega,by omega,Nat.le_refl _,by omega,by omega,by omega,Nat.le_refl _,by omega,hS,fun i hi=>?_⟩,fun _=>⟨Nat.le_refl _,rfl,Nat.le_refl _,rfl,bn,⟨rfl,fun i hi=>⟨rfl,rfl⟩⟩,fun _ _=>⟨rfl,fun _=>⟨⟨rfl,rfl⟩,fun _ _=>⟨rfl,fun _=>?_⟩⟩⟩⟩⟩
  ·by_cases k1:i=(ixI Y b).toNat
   ·have k2:¬ i=(ixI Y b).toNat - 1:=by omega
    simp only [if_pos k1,if_neg k2]; exact ⟨trivial,trivial,trivial⟩
   ·by_cases k2:i=(ixI Y b).toNat - 1
    ·simp only [if_neg k1,if_pos k2]; exact ⟨trivial,trivial,trivial⟩
    ·simp only [if_neg k1,if_neg k2,if_neg (Nat.not_lt_zero i),Nat.sub_zero]; exact ⟨trivial,trivial,trivial⟩
  refine ⟨⟨0,⟨hc,by omega⟩,rfl,rfl,rfl,rfl⟩,fun z hz=>⟨fun hl=>⟨by omega,hl,fun hd=>?_,fun hd=>?_⟩,fun hl=>?_⟩⟩
  ·have e2:=sm_eq hc z (by omega)
   have bb:=lf_bd hM (k:=z) (by omega)
   have t0:=(hM.h z (by omega)).t0
   have t1:=(hM.h z (by omega)).t1
   rw [← e2] at bb
   have e3:smF Y (z+1)=smF Y z+(Y.m.f z).tn:=by
    show smF Y z+smI Y z=_
    unfold smI
    rw [if_neg hd]
   exact ⟨by omega,hl,by omega,by omega,z+1,⟨hc,by omega⟩,by omega,e3.symm,by rw [dn_n hd],by rw [at_n fun h=>hd h.1],by omega⟩
  ·obtain ⟨d1,d2⟩:=draw_sum hc (k:=z) (by omega) hd
   refine ⟨d1,fun _=>⟨⟨⟨hc,by show z<Y.m.n; omega,hd,by show Int.toNat 0≤_; simp⟩,by simp [ptS,sumJ],rfl⟩,?_⟩⟩
   rintro ⟨z',j⟩ hj e
   simp only at e
   subst e
   have hjz:=hj.z
   simp only at hjz ⊢
   have e2:=sm_eq hc z' (by omega)
   have bb:=lf_bd hM (k:=z') (by omega)
   rw [← e2] at bb
   have dl:=dw_len Y (dn Y.m z')
   have pb:=fun i hi=>(dw_okP (getD_mem (l:=dwL Y (dn Y.m z')) (d:=zP) (i:=i) hi)).1.t
   have ps:=pt_bd (l:=dwL Y (dn Y.m z')) pb j hjz
   have ddn:=dn_le Y.m z'
   have e3:smF Y (z'+1)=smF Y z' - ptS (dwL Y (dn Y.m z')) (dwL Y (dn Y.m z')).length:=by
    show smF Y z'+smI Y z'=_
    unfold smI
    rw [if_pos hd]
    omega
   refine ⟨fun hjl=>?_,fun hjl=>?_⟩
   ·have e8:((j:Int)+1).toNat=j+1:=by omega
    have pj:=pb j (by omega)
    have hj1:j+1≤(dwL Y (dn Y.m z')).length:=by omega
    have pst:ptS (dwL Y (dn Y.m z')) (j+1)=ptS (dwL Y (dn Y.m z')) j+((dwL Y (dn Y.m z')).getD j zP).tn:=rfl
    rw [e8,pst]
    exact ⟨by omega,hjl,by omega,by omega,⟨⟨hc,hj.k,hj.d,hj1⟩,trivial⟩,by omega,by omega,by omega⟩
   ·have ej:j=(dwL Y (dn Y.m z')).length:=by omega
    subst ej
    rw [← e3]
    refine ⟨fun ea=>⟨by omega,by omega,z'+1,⟨hc,by omega⟩,by omega,rfl,by rw [dn_y hd]; rfl,by rw [at_y hd ea],by omega⟩,fun ea=>⟨by omega,by omega,z'+1,⟨hc,by omega⟩,by omega,rfl,by rw [dn_y hd]; rfl,by rw [at_n fun h=>ea h.2],by omega⟩⟩
  ·have ez:z=Y.m.n:=by have:=hz.k; omega
   subst ez
   have e2:=sm_eq hc Y.m.n (by omega)
   have bb:=lf_bd hM (k:=Y.m.n) (by omega)
   rw [← e2] at bb
   have lfl:(lfL Y).length≤32:=by rw [lf_yes hc]; exact po_len (ck_ly hc)
   have pb:∀ i,i<(lfL Y).length→0≤((lfL Y).getD i zP).tn∧((lfL Y).getD i zP).tn≤33554432:=fun i hi=>by
    have hm:=getD_mem (l:=lfL Y) (d:=zP) (i:=i) hi
    generalize (lfL Y).getD i zP=p at hm ⊢
    rw [lf_yes hc] at hm
    exact (po_mem (ck_ly hc) (lyN Y.m) (Nat.le_refl _) p hm).1.t
   refine ⟨⟨0,⟨hc,by omega⟩,by simp [ptS,sumJ],rfl,rfl⟩,fun y hy=>?_⟩
   have hyz:=hy.z
   have ps:=pt_bd (l:=lfL Y) pb y hyz
   refine ⟨fun hyl=>?_,fun hyl=>?_⟩
   ·have pj:=pb y (by omega)
    have pst:ptS (lfL Y) (y+1)=ptS (lfL Y) y+((lfL Y).getD y zP).tn:=rfl
    exact ⟨by omega,hyl,by omega,by omega,y+1,⟨hc,by omega⟩,by omega,by rw [pst]; omega,by omega⟩
   ·have ey:y=(lfL Y).length:=by omega
    subst ey
    have tot:ptS (lfL Y) (lfL Y).length=lf Y.m Y.m.n:=left_sum hc
    refine ⟨by rw [tot,e2]; omega,fun _ hda hya=>?_⟩
    obtain ⟨a0,a1⟩:=dr_in hda
    obtain ⟨k1,k2,k3⟩:=at_spec (M:=Y.m) a0 Y.m.n a1
    have ek:(((atF Y.m a Y.m.n:Nat):Int)+1 - 0).toNat=atF Y.m a Y.m.n+1:=by omega
    rw [ek]
    obtain ⟨q1,q2⟩:=cut_ok hc k1 k2
    rw [k3] at q1 q2
    have q1:drE ⟨Y.c,cuM Y.m (atF Y.m a Y.m.n+1)⟩ a a=0:=q1
    have q2:dwL ⟨Y.c,cuM Y.m (atF Y.m a Y.m.n+1)⟩ a=dwL Y a:=q2
    have dl:=dw_len Y a
    rw [q1,q2]
    exact ⟨by omega,Int.le_refl _,by omega,by omega,cut_sv Y.m _,rfl,rfl,by omega,fun _ _=>⟨fun _=>hda,rfl⟩,rfl,fun i hi=>⟨rfl,rfl⟩⟩
 all_goals
  refine ⟨⟨0,⟨hc,by omega⟩,rfl,rfl,rfl,rfl⟩,fun z hz=>⟨fun hl=>⟨by omega,hl,fun hd=>?_,fun hd=>?_⟩,fun hl=>?_⟩⟩
  ·have e2:=sm_eq hc z (by omega)
   have bb:=lf_bd hM (k:=z) (by omega)
   have t0:=(hM.h z (by omega)).t0
   have t1:=(hM.h z (by omega)).t1
   rw [← e2] at bb
   have e3:smF Y (z+1)=smF Y z+(Y.m.f z).tn:=by
    show smF Y z+smI Y z=_
    unfold smI
    rw [if_neg hd]
   exact ⟨by omega,hl,by omega,by omega,z+1,⟨hc,by omega⟩,by omega,e3.symm,by rw [dn_n hd],by rw [at_n fun h=>hd h.1],by omega⟩
  ·obtain ⟨d1,d2⟩:=draw_sum hc (k:=z) (by omega) hd
   refine ⟨d1,fun _=>⟨⟨⟨hc,by show z<Y.m.n; omega,hd,by show Int.toNat 0≤_; simp⟩,by simp [ptS,sumJ],rfl⟩,?_⟩⟩
   rintro ⟨z',j⟩ hj e
   simp only at e
   subst e
   have hjz:=hj.z
   simp only at hjz ⊢
   have e2:=sm_eq hc z' (by omega)
   have bb:=lf_bd hM (k:=z') (by omega)
   rw [← e2] at bb
   have dl:=dw_len Y (dn Y.m z')
   have pb:=fun i hi=>(dw_okP (getD_mem (l:=dwL Y (dn Y.m z')) (d:=zP) (i:=i) hi)).1.t
   have ps:=pt_bd (l:=dwL Y (dn Y.m z')) pb j hjz
   have ddn:=dn_le Y.m z'
   have e3:smF Y (z'+1)=smF Y z' - ptS (dwL Y (dn Y.m z')) (dwL Y (dn Y.m z')).length:=by
    show smF Y z'+smI Y z'=_
    unfold smI
    rw [if_pos hd]
    omega
   refine ⟨fun hjl=>?_,fun hjl=>?_⟩
   ·have e8:((j:Int)+1).toNat=j+1:=by omega
    have pj:=pb j (by omega)
    have hj1:j+1≤(dwL Y (dn Y.m z')).length:=by omega
    have pst:ptS (dwL Y (dn Y.m z')) (j+1)=ptS (dwL Y (dn Y.m z')) j+((dwL Y (dn Y.m z')).getD j zP).tn:=rfl
    rw [e8,pst]
    exact ⟨by omega,hjl,by omega,by omega,⟨⟨hc,hj.k,hj.d,hj1⟩,trivial⟩,by omega,by omega,by omega⟩
   ·have ej:j=(dwL Y (dn Y.m z')).length:=by omega
    subst ej
    rw [← e3]
    refine ⟨fun ea=>⟨by omega,by omega,z'+1,⟨hc,by omega⟩,by omega,rfl,by rw [dn_y hd]; rfl,by rw [at_y hd ea],by omega⟩,fun ea=>⟨by omega,by omega,z'+1,⟨hc,by omega⟩,by omega,rfl,by rw [dn_y hd]; rfl,by rw [at_n fun h=>ea h.2],by omega⟩⟩
  ·have ez:z=Y.m.n:=by have:=hz.k; omega
   subst ez
   have e2:=sm_eq hc Y.m.n (by omega)
   have bb:=lf_bd hM (k:=Y.m.n) (by omega)
   rw [← e2] at bb
   have lfl:(lfL Y).length≤32:=by rw [lf_yes hc]; exact po_len (ck_ly hc)
   have pb:∀ i,i<(lfL Y).length→0≤((lfL Y).getD i zP).tn∧((lfL Y).getD i zP).tn≤33554432:=fun i hi=>by
    have hm:=getD_mem (l:=lfL Y) (d:=zP) (i:=i) hi
    generalize (lfL Y).getD i zP=p at hm ⊢
    rw [lf_yes hc] at hm
    exact (po_mem (ck_ly hc) (lyN Y.m) (Nat.le_refl _) p hm).1.t
   refine ⟨⟨0,⟨hc,by omega⟩,by simp [ptS,sumJ],rfl,rfl⟩,fun y hy=>?_⟩
   have hyz:=hy.z
   have ps:=pt_bd (l:=lfL Y) pb y hyz
   refine ⟨fun hyl=>?_,fun hyl=>?_⟩
   ·have pj:=pb y (by omega)
    have pst:ptS (lfL Y) (y+1)=ptS (lfL Y) y+((lfL Y).getD y zP).tn:=rfl
    exact ⟨by omega,hyl,by omega,by omega,y+1,⟨hc,by omega⟩,by omega,by rw [pst]; omega,by omega⟩
   ·have ey:y=(lfL Y).length:=by omega
    subst ey
    have tot:ptS (lfL Y) (lfL Y).length=lf Y.m Y.m.n:=left_sum hc
    refine ⟨by rw [tot,e2]; omega,fun _ hda hya=>?_⟩
    obtain ⟨a0,a1⟩:=dr_in hda
    obtain ⟨k1,k2,k3⟩:=at_spec (M:=Y.m) a0 Y.m.n a1
    have ek:(((atF Y.m a Y.m.n:Nat):Int)+1 - 0).toNat=atF Y.m a Y.m.n+1:=by omega
    rw [ek]
    obtain ⟨q1,q2⟩:=cut_ok hc k1 k2
    rw [k3] at q1 q2
    have q1:drE ⟨Y.c,cuM Y.m (atF Y.m a Y.m.n+1)⟩ a a=0:=q1
    have q2:dwL ⟨Y.c,cuM Y.m (atF Y.m a Y.m.n+1)⟩ a=dwL Y a:=q2
    have dl:=dw_len Y a
    rw [q1,q2]
    exact ⟨by omega,Int.le_refl _,by omega,by omega,cut_sv Y.m _,rfl,rfl,by omega,fun _ _=>⟨fun _=>hda,rfl⟩,rfl,fun i hi=>⟨rfl,rfl⟩⟩
end Go.Proofs.Ytmohedjgoakdjaa
