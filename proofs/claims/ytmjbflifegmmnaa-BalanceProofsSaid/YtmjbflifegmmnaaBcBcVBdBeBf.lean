import Derived.Test.YtmjbflifegmmnaaBaBaVBbBmBn1
set_option linter.unusedVariables false
set_option linter.unusedSimpArgs false
set_option maxRecDepth 100000
namespace Go.Proofs.Ytmjbflifegmmnaa
open Go Go.Lg
attribute [local irreducible] bodyH
def croC:Ctr:=⟨gcross,fun args k=>match args with
 | [.int .i64 s,x]=>x=(fOf x).sv∧(0≤s∧s≤1000)∧okF (fOf x)∧k (crV (fOf x) s.toNat)
 | _=>False⟩
noncomputable def bouG (b:Bool) (p:Pl) (i s:Nat):Prop:=funH Try.prog (ctrs [croC,loC,hiC]) noX (ictrs []) noL noL gbound [endV b,i6 s,p.sv,i6 i] (i6 (bnd b p.f i s))
noncomputable def bouf (p:Pl) (i s:Nat):Prop:=bouG false p i s
noncomputable def bout (p:Pl) (i s:Nat):Prop:=bouG true p i s
def bouC:Ctr:=⟨gbound,fun args k=>match args with
 | [e,.int .i64 s,x,.int .i64 i]=>x=(pOf x).sv∧(0≤s∧s≤1000)∧okF (pOf x).f∧(0≤i∧i<(pOf x).f.n)∧∃ b,e=endV b∧k (i6 (bnd b (pOf x).f i.toNat s.toNat))
 | _=>False⟩
noncomputable def setG (z:Int):Prop:=funH Try.prog (ctrs []) noX (ictrs []) noL noL gsets [i6 z] (.clo (.func gsetsI) [] [.ipt [i6 z]])
def setC:Ctr:=⟨gsets,fun args k=>match args with
 | [.int .i64 z]=>k (.clo (.func gsetsI) [] [.ipt [i6 z]])
 | _=>False⟩
noncomputable def seIG (z:Int):Prop:=itH Try.prog (ctrs []) noX (ictrs [])
 (oneL 0 (natH (fun j=>j≤pwk z) (fun j=>pwk z - j) 1 (fun j=>mkF 14 [(0,.yld 0),(1,.ipt [i6 z]),(3,i6 j)]) (fun _=>⟨1,.nil⟩) fun j=>some j)) noL gsetsI [] [.ipt [i6 z]] (pwk z) fun i=>[i6 i]
def seI:ICtr:=⟨gsetsI,fun fs us k=>match fs,us with
 | [],[.ipt [.int .i64 z]]=>(0≤z∧z≤8)∧k (pwk z) 1 fun i=>[i6 i]
 | _,_=>False⟩
noncomputable def cs34:CSpec:=ctrsF [setC] (ctrs [takC,bouC,loC,hiC,maxC,minC])
noncomputable def tigG (b:Bool) (p:Pl) (i:Nat):Prop:=funH Try.prog cs34 noX (ictrs [seI]) noL
 (oneL 0 (itS 5 (fun _=>True) (mkF 37 [(3,.ptr 0 0 0),(4,.ptr 1 0 0),(5,.ptr 2 0 0),(7,.ptr 3 0 0),(8,.ptr 4 0 0)]) (fun j=>mkX [vr 3 (endV b),vr 2 p.sv,vr 1 (i6 i),vr 4 (p.f.el i),vr 1 (i6 (tgt b p.f i j))]) (fun _=>none))) gtight [endV b,p.sv,i6 i] (i6 (tgE b p i))
noncomputable def tigf (p:Pl) (i:Nat):Prop:=tigG false p i
noncomputable def tigt (p:Pl) (i:Nat):Prop:=tigG true p i
def tigC:Ctr:=⟨gtight,fun args k=>match args with
 | [e,x,.int .i64 i]=>x=(pOf x).sv∧(0≤(pOf x).k∧(pOf x).k≤8)∧okF (pOf x).f∧(0≤i∧i<(pOf x).f.n)∧∃ b,e=endV b∧k (i6 (tgE b (pOf x) i.toNat))
 | _=>False⟩
def fstN (P:Nat→Bool):Nat→Nat
 | 0=>0
 | n+1=>if fstN P n=n then (bif P n then n else n+1) else fstN P n
def cEx (p:Pl):Bool:=decide (fstN (bad p.f) (pwk p.k)<pwk p.k)
def cFs (p:Pl):Nat:=bif cEx p then fstN (bad p.f) (pwk p.k) else 0
noncomputable def cs46:CSpec:=ctrsF [setC] (ctrs [croC])
noncomputable def conG (p:Pl):Prop:=funH Try.prog cs46 noX (ictrs [seI]) noL
 (oneL 0 (itS 3 (fun j=>∀ s,s<j→bad p.f s=false) (mkF 22 [(1,.ptr 0 0 0),(2,.ptr 1 0 0),(3,.ptr 2 0 0)]) (fun _=>mkX [vr 2 p.sv,vr 1 (i6 0),vr 1 (.bool false)]) (fun _=>none))) gcontra [p.sv] (.tup [i6 (cFs p),dB (cEx p)])
def conC:Ctr:=plC gcontra fun p r k=>match r with
 | []=>(0≤p.k∧p.k≤8)∧okF p.f∧k (.tup [i6 (cFs p),dB (cEx p)])
 | _=>False
def prP (b:Bool) (f:Fl) (i:Nat) (t:Int) (s:Nat):Bool:=tkB f s i && decide (bnd b f i s=t)
def prS (b:Bool) (p:Pl) (i:Nat) (t:Int):Nat:=if fstN (prP b p.f i t) (pwk p.k)<pwk p.k then fstN (prP b p.f i t) (pwk p.k) else 0
noncomputable def cs39:CSpec:=ctrsF [setC] (ctrs [takC,bouC])
noncomputable def proG (b:Bool) (p:Pl) (i:Nat) (t:Int):Prop:=funH Try.prog cs39 noX (ictrs [seI]) noL
 (oneL 0 (itS 5 (fun j=>∀ s,s<j→prP b p.f i t s=false) (mkF 34 [(4,.ptr 0 0 0),(5,.ptr 1 0 0),(6,.ptr 2 0 0),(7,.ptr 3 0 0),(9,.ptr 4 0 0)]) (fun j=>mkX [vr 3 (endV b),vr 2 p.sv,vr 1 (i6 i),vr 1 (i6 t),vr 1 (i6 0)]) (fun _=>none))) gproof [endV b,p.sv,i6 i,i6 t] (i6 (prS b p i t))
noncomputable def prof (p:Pl) (i:Nat) (t:Int):Prop:=proG false p i t
noncomputable def prot (p:Pl) (i:Nat) (t:Int):Prop:=proG true p i t
def proC:Ctr:=⟨gproof,fun args k=>match args with
 | [e,x,.int .i64 i,.int .i64 t]=>x=(pOf x).sv∧(0≤(pOf x).k∧(pOf x).k≤8)∧okF (pOf x).f∧(0≤i∧i<(pOf x).f.n)∧∃ b,e=endV b∧k (i6 (prS b (pOf x) i.toNat t))
 | _=>False⟩
def fl (p:Nat→Bool) (k:Nat):List Nat:=(List.range k).filter p
def lstI (l:List Nat):SV:=.lst 1 l.length fun k=>i6 (l.getD k 0:Nat)
def nilV:SV:=.val (.slice none 0 0)
def plL (s:Nat):List Nat:=fl (fun x=>hb s (x:Int)) 8
noncomputable def isPG (n k:Int):Prop:=funH Try.prog (ctrs []) noX (ictrs []) noL noL gisPl [i6 n,i6 k] (.dec (0≤n∧n<k) inferInstance)
def isPC:Ctr:=⟨gisPl,fun args k=>match args with
 | [.int .i64 n,.int .i64 z]=>k (.dec (0≤n∧n<z) inferInstance)
 | _=>False⟩
noncomputable def vGaG (a b:Int):Prop:=funH Try.prog (ctrs []) noX (ictrs []) noL noL gvGas [.agg [i6 a,i6 b]] (.dec (0≤a∧a≤b∧b≤1073741824) inferInstance)
def vGaC:Ctr:=⟨gvGas,fun args k=>match args with
 | [.agg [.int .i64 a,.int .i64 b]]=>k (.dec (0≤a∧a≤b∧b≤1073741824) inferInstance)
 | _=>False⟩
structure okFl (p:Pl) (i:Nat):Prop where
 fr:0≤p.f.fr i∧p.f.fr i<p.k
 to:0≤p.f.to i∧p.f.to i<p.k
 ne:¬ p.f.fr i=p.f.to i
 gas:0≤p.f.lo i∧p.f.lo i≤p.f.hi i∧p.f.hi i≤1073741824
noncomputable def valG (p:Pl):Prop:=funH Try.prog (ctrs [isPC,vGaC]) noX (ictrs []) (oneL 0 (natH (fun i=>i≤p.f.n∧(2≤p.k∧p.k≤8∧p.f.n≤16)∧∀ j,j<i→okFl p j) (fun i=>p.f.n - i) 1
 (fun i=>mkF 54 [(1,.ptr 0 0 0),(20,p.f.sv),(21,i6 p.f.n),(22,i6 i)]) (fun _=>mkX [vr 2 p.sv]) fun _=>none)) noL gvalid [p.sv] (.dec (okP p) (Classical.propDecidable _))
noncomputable def valC (g:FuncId):Ctr:=plC g fun p r k=>match r with
 | []=>k (.dec (okP p) (Classical.propDecidable _))
 | _=>False
noncomputable def fixG (p:Pl) (i:Nat) (x:Int):Prop:=funH Try.prog (ctrs []) noX (ictrs []) noL noL gfixed [p.sv,i6 i,i6 x] (setP p i x).sv
def fixC:Ctr:=plC gfixed fun p r k=>match r with
 | [.int .i64 i,.int .i64 x]=>(p.f.n≤16∧0≤i∧i<p.f.n)∧k (setP p i.toNat x).sv
 | _=>False
open Classical in
noncomputable def chE (p:Pl):Int:=if okP p then (bif cEx p then 6 else 0) else 1
noncomputable def cheG (p:Pl):Prop:=funH Try.prog (ctrs [valC gvalid,conC]) noX (ictrs []) noL noL gcheck [p.sv] (i6 (chE p))
noncomputable def cheC:Ctr:=plC gcheck fun p r k=>match r with
 | []=>k (i6 (chE p))
 | _=>False
noncomputable def okN (p:Pl):Nat:=if chE p=0 then p.f.n else 0
def liN (n:Nat) (f:Nat→Int):SV:=.lst 1 n fun k=>i6 (f k)
def spN (n:Nat) (f g:Nat→Int):SV:=.lst 2 n fun k=>.agg [i6 (f k),i6 (g k)]
noncomputable def csTr:CSpec:=ctrsF [fixC] (ctrs [cheC,leaC,greC,tigC])
noncomputable def truG (p:Pl):Prop:=funN Try.prog csTr noX (ictrs []) (oneL 0 (natH (fun i=>i≤p.f.n∧chE p=0) (fun i=>p.f.n - i) 2
 (fun i=>mkF 37 [(1,.ptr 0 0 0),(5,.sl 1 0 p.f.n),(17,i6 p.f.n),(18,i6 i)]) (fun i=>mkX [vr 2 (.agg [i6 p.k,(truF p i).sv]),rw' 1 p.f.n fun j=>i6 (if j<i then truV p j else 0)]) fun _=>none)) noL gTruth [p.sv] (.tup [liN (okN p) (truV p),i6 (chE p)])
noncomputable def truC:Ctr:=plC gTruth fun p r k=>match r with
 | []=>k (.tup [liN (okN p) (truV p),i6 (chE p)])
 | _=>False
noncomputable def tghG (p:Pl):Prop:=funN Try.prog csTr noX (ictrs []) (oneL 0 (natH (fun i=>i≤p.f.n∧chE p=0) (fun i=>p.f.n - i) 2
 (fun i=>mkF 35 [(1,.ptr 0 0 0),(5,.sl 1 0 p.f.n),(17,i6 p.f.n),(18,i6 i)]) (fun i=>mkX [vr 2 p.sv,rw' 2 p.f.n fun j=>.agg [i6 (if j<i then tgE false p j else 0),i6 (if j<i then tgE true p j else 0)]]) fun _=>none)) noL gTight [p.sv] (.tup [spN (okN p) (tgE false p) (tgE true p),i6 (chE p)])
noncomputable def tghC:Ctr:=plC gTight fun p r k=>match r with
 | []=>k (.tup [spN (okN p) (tgE false p) (tgE true p),i6 (chE p)])
 | _=>False
open Classical in
noncomputable def whE (p:Pl) (i:Int) (b:Bool):Int:=if okP p then (if i<0∨(p.f.n:Int)≤i then 2 else if chE p=0 then (if tgE b p i.toNat=own b p.f i.toNat then 4 else 0) else chE p) else 1
noncomputable def whL (p:Pl) (i:Int) (b:Bool):List Nat:=if whE p i b=0 then plL (prS b p i.toNat (tgE b p i.toNat)) else []
noncomputable def plaI (s m:Nat) (Xs:List (Option SRow)):Nat→Option HSpec:=oneL 0 (filH 17 3 (fun z=>z≤8∧fl (fun x=>hb s (x:Int)) z=[]) (fun z=>z≤8) (fun z=>8 - z) m
 (fun z=>mkF 17 [(0,i6 s),(3,nilV),(5,i6 z)]) (fun z=>mkF 17 [(0,i6 s),(3,.sl m 0 (fl (fun x=>hb s (x:Int)) z).length),(5,i6 z)])
 (fun _=>mkX Xs) (fun z=>mkX (Xs ++ [rw' 1 (fl (fun x=>hb s (x:Int)) z).length fun k=>i6 ((fl (fun x=>hb s (x:Int)) z).getD k 0:Nat)])))
noncomputable def csWh:CSpec:=ctrs [valC gvalid,cheC,leaC,greC,tigC,proC,loC,hiC]
noncomputable def whyG (b:Bool) (p:Pl) (i:Int):Prop:=funN Try.prog csWh (inl Try.prog (ctrs [hasC]) none (ictrs []) gplaces (plaI (prS b p i.toNat (tgE b p i.toNat)) 2 [vr 2 p.sv,vr 3 (endV b)]) noL noX) (ictrs []) noL noL gWhy [p.sv,i6 i,.bool b] (.tup [lstI (whL p i b),i6 (whE p i b)])
noncomputable def whyf (p:Pl) (i:Int):Prop:=whyG false p i
noncomputable def whyt (p:Pl) (i:Int):Prop:=whyG true p i
noncomputable def whyC:Ctr:=plC gWhy fun p r k=>match r with
 | [.int .i64 i,.dec q _]=>∃ b:Bool,(q↔b=true)∧k (.tup [lstI (whL p i b),i6 (whE p i b)])
 | [.int .i64 i,.bool b]=>k (.tup [lstI (whL p i b),i6 (whE p i b)])
 | _=>False
open Classical in
noncomputable def wrE (p:Pl):Int:=if okP p then (bif cEx p then 0 else 4) else 1
noncomputable def wrL (p:Pl):List Nat:=if wrE p=0 then plL (cFs p) else []
noncomputable def csWr:CSpec:=ctrs [valC gvalid,conC]
noncomputable def wroG (p:Pl):Prop:=funN Try.prog csWr (inl Try.prog (ctrs [hasC]) none (ictrs []) gplaces (plaI (cFs p) 1 [vr 2 p.sv]) noL noX) (ictrs []) noL noL gWrong [p.sv] (.tup [lstI (wrL p),i6 (wrE p)])
noncomputable def wroC:Ctr:=plC gWrong fun p r k=>match r with
 | []=>k (.tup [lstI (wrL p),i6 (wrE p)])
 | _=>False
end Go.Proofs.Ytmjbflifegmmnaa

set_option maxRecDepth 100000
namespace Go.Proofs.Ytmjbflifegmmnaa
open Go Go.Lg
theorem bouf_vc (p:Pl) (i:Nat) (s:Nat):bouf p i s =
((0:Nat)<(1:Nat)∧(∀ (i:Nat),i<p.f.1→True∧True∧True∧True∧True)∧SV.lst (4:Nat) p.f.n p.f.el=(fOf (SV.lst (4:Nat) p.f.n p.f.el)).sv∧((0:Int)≤(↑s:Int)∧(↑s:Int)≤(1000:Int))∧okF (fOf (SV.lst (4:Nat) p.f.n p.f.el))∧(0:Nat)<(1:Nat)∧(0:Nat)<(1:Nat)∧(0:Nat)<(1:Nat)∧(0:Nat)<(1:Nat)∧(0:Int)≤(↑i:Int)∧(↑i:Int)<(↑p.f.1:Int)∧rI (IH (fOf (SV.lst (4:Nat) p.f.n p.f.el)) (↑s:Int).toNat - p.f.5 (↑i:Int).toNat)∧(0:Nat)<(1:Nat)∧(0:Nat)<(1:Nat)∧rI (OL (fOf (SV.lst (4:Nat) p.f.n p.f.el)) (↑s:Int).toNat - (IH (fOf (SV.lst (4:Nat) p.f.n p.f.el)) (↑s:Int).toNat - p.f.5 (↑i:Int).toNat))∧OL (fOf (SV.lst (4:Nat) p.f.n p.f.el)) (↑s:Int).toNat - (IH (fOf (SV.lst (4:Nat) p.f.n p.f.el)) (↑s:Int).toNat - p.f.5 (↑i:Int).toNat)=bnd false p.f i s∧True):=by kernel_rfl
theorem bout_vc (p:Pl) (i:Nat) (s:Nat):bout p i s =
((0:Nat)<(1:Nat)∧(∀ (i:Nat),i<p.f.1→True∧True∧True∧True∧True)∧SV.lst (4:Nat) p.f.n p.f.el=(fOf (SV.lst (4:Nat) p.f.n p.f.el)).sv∧((0:Int)≤(↑s:Int)∧(↑s:Int)≤(1000:Int))∧okF (fOf (SV.lst (4:Nat) p.f.n p.f.el))∧(0:Nat)<(1:Nat)∧(0:Nat)<(1:Nat)∧(0:Nat)<(1:Nat)∧(0:Nat)<(1:Nat)∧(0:Int)≤(↑i:Int)∧(↑i:Int)<(↑p.f.1:Int)∧rI (IL (fOf (SV.lst (4:Nat) p.f.n p.f.el)) (↑s:Int).toNat - p.f.4 (↑i:Int).toNat)∧(0:Nat)<(1:Nat)∧(0:Nat)<(1:Nat)∧rI (OH (fOf (SV.lst (4:Nat) p.f.n p.f.el)) (↑s:Int).toNat - (IL (fOf (SV.lst (4:Nat) p.f.n p.f.el)) (↑s:Int).toNat - p.f.4 (↑i:Int).toNat))∧OH (fOf (SV.lst (4:Nat) p.f.n p.f.el)) (↑s:Int).toNat - (IL (fOf (SV.lst (4:Nat) p.f.n p.f.el)) (↑s:Int).toNat - p.f.4 (↑i:Int).toNat)=bnd true p.f i s∧True):=by kernel_rfl
theorem setG_vc (z:Int):setG z =
((0:Nat)<(1:Nat)∧z=z∧True):=by kernel_rfl
theorem seIG_vc (z:Int):seIG z =
((∃ z_1,
  z_1≤pwk z∧(0:Nat)=z_1∧SV.denL [i6 z]=SV.denL [i6 z]∧(True∧True)∧(0:Int)=(↑z_1:Int)∧True) ∧
 ∀ (z_1:Nat),
  z_1≤pwk z →
   ((0:Int)≤z∧z≤(↑(64:Nat):Int)) ∧
    ((-9223372036854775808:Int)≤(1:Int)*shP z∧(1:Int)*shP z≤(9223372036854775807:Int)) ∧
     ((↑z_1:Int)<(1:Int)*shP z →
       z_1<pwk z ∧
        (↑z_1:Int)=(↑z_1:Int) ∧
         (((-9223372036854775808:Int)≤(↑z_1:Int)+(1:Int) ∧
            (↑z_1:Int)+(1:Int)≤(9223372036854775807:Int)) ∧
           ∃ z_2,
            z_2≤pwk z ∧
             pwk z - z_2<pwk z - z_1 ∧
              z_1.succ=z_2 ∧
               SV.denL [i6 z]=SV.denL [i6 z] ∧
                (True∧True)∧(↑z_1:Int)+(1:Int)=(↑z_2:Int)∧True) ∧
          True) ∧
      (¬(↑z_1:Int)<(1:Int)*shP z→z_1=pwk z)):=by kernel_rfl
theorem tigf_vc (p:Pl) (i:Nat):tigf p i =
((0:Nat)<(1:Nat)∧(0:Nat)<(1:Nat)∧(0:Int)≤(↑i:Int)∧(↑i:Int)<(↑p.f.1:Int)∧(0:Nat)<(1:Nat)∧(0:Nat)<(1:Nat)∧(0:Nat)<(1:Nat)∧((0:Int)≤p.1∧p.1≤(8:Int))∧((True∧True)∧∃ z,(z=(0:Nat)∧True)∧rE (0:Nat)∧rE (0:Nat)∧rE (0:Nat)∧rE (0:Nat)∧rE (0:Nat)∧rE (0:Nat)∧rE (0:Nat)∧rE (0:Nat)∧rE (0:Nat)∧rE (0:Nat)∧rE (Fn.func gsetsI)∧SV.denL [i6 p.k]=SV.denL [SV.int IntKind.i64 p.k]∧(True∧True)∧rE (Value.func (Fn.func glo) #[] #[])∧rE (Value.func (Fn.func ghi) #[] #[])∧rE (Value.func (Fn.func gmax) #[] #[])∧p.1=p.1∧rE p.f.1∧(∀ (i:Nat),i<p.f.1→rE ((p.f.el i).den)∧True∧True∧True∧True∧True)∧rE (↑i:Int)∧p.f.2 (↑i:Int).toNat=p.f.2 i∧p.f.3 (↑i:Int).toNat=p.f.3 i∧p.f.4 (↑i:Int).toNat=p.f.4 i∧p.f.5 (↑i:Int).toNat=p.f.5 i∧p.f.4 (↑i :
Int).toNat=tgt false p.f i z∧True)∧(∀ (j:Nat),j<pwk p.1→∀ (z:Nat),z=j∧True→(0:Nat)<(1:Nat)∧(((0:Int)≤(↑j:Int)∧(↑j:Int)≤(1000:Int))∧((0:Int)≤p.f.2 i∧p.f.2 i<(64:Int))∧(0:Int)≤p.f.3 i∧p.f.3 i<(64:Int))∧(Bool.rec false (!hb (↑j:Int).toNat (p.f.fr i)) (hb (↑j:Int).toNat (p.f.to i))=true→(0:Nat)<(1:Nat)∧(0:Nat)<(1:Nat)∧(0:Nat)<(1:Nat)∧(0:Nat)<(1:Nat)∧(0:Nat)<(1:Nat)∧(∀ (i:Nat),i<p.f.1→True∧True∧True∧True∧True)∧SV.agg [SV.int IntKind.i64 p.k,SV.lst (4:Nat) p.f.n p.f.el]=(pOf (SV.agg [SV.int IntKind.i64 p.k,SV.lst (4:Nat) p.f.n p.f.el])).sv∧((0:Int)≤(↑j:Int)∧(↑j:Int)≤(1000:Int))∧okF (pOf (SV.agg [SV.int IntKind.i64 p.k,SV.lst (4:Nat) p.f.n p.f.el])).f∧((0:Int)≤(↑i:Int)∧(↑i:Int)<(↑p.f.1:Int))∧∃ b,SV.agg [SV.val
(Value.func (Fn.func glo) #[] #[]),SV.val (Value.func (Fn.func ghi) #[] #[]),SV.val (Value.func (Fn.func gmax) #[] #[])]=endV b∧∃ z_1,(z_1=j.succ∧True)∧rE (Value.func (Fn.func glo) #[] #[])∧rE (Value.func (Fn.func ghi) #[] #[])∧rE (Value.func (Fn.func gmax) #[] #[])∧p.1=p.1∧rE p.f.1∧(∀ (i:Nat),i<p.f.1→rE ((p.f.el i).den)∧True∧True∧True∧True∧True)∧rE (↑i:Int)∧rE (p.f.2 i)∧rE (p.f.3 i)∧rE (p.f.4 i)∧rE (p.f.5 i)∧max (tgt false p.f i z) (bnd b (pOf (SV.agg [SV.int IntKind.i64 p.k,SV.lst (4:Nat) p.f.n p.f.el])).f (↑i:Int).toNat (↑j:Int).toNat)=tgt false p.f i z_1∧True)∧(¬Bool.rec false (!hb (↑j:Int).toNat (p.f.fr i)) (hb (↑j:Int).toNat (p.f.to i))=true→∃ z_1,(z_1=j.succ∧True)∧rE (Value.func (Fn.func glo) #[] #[])∧rE (Value.func (Fn.func ghi) #[] #[])∧rE (Value.func (Fn.func gmax) #[] #[])∧p.1=p.1∧rE
p.f.1∧(∀ (i:Nat),i<p.f.1→rE ((p.f.el i).den)∧True∧True∧True∧True∧True)∧rE (↑i:Int)∧rE (p.f.2 i)∧rE (p.f.3 i)∧rE (p.f.4 i)∧rE (p.f.5 i)∧tgt false p.f i z=tgt false p.f i z_1∧True))∧∀ (z:Nat),z=pwk p.1∧True→(0:Nat)<(1:Nat)∧tgt false p.f i z=tgE false p i∧True):=by kernel_rfl
theorem tigt_vc (p:Pl) (i:Nat):tigt p i =
((0:Nat)<(1:Nat)∧(0:Nat)<(1:Nat)∧(0:Int)≤(↑i:Int)∧(↑i:Int)<(↑p.f.1:Int)∧(0:Nat)<(1:Nat)∧(0:Nat)<(1:Nat)∧(0:Nat)<(1:Nat)∧((0:Int)≤p.1∧p.1≤(8:Int))∧((True∧True)∧∃ z,(z=(0:Nat)∧True)∧rE (0:Nat)∧rE (0:Nat)∧rE (0:Nat)∧rE (0:Nat)∧rE (0:Nat)∧rE (0:Nat)∧rE (0:Nat)∧rE (0:Nat)∧rE (0:Nat)∧rE (0:Nat)∧rE (Fn.func gsetsI)∧SV.denL [i6 p.k]=SV.denL [SV.int IntKind.i64 p.k]∧(True∧True)∧rE (Value.func (Fn.func ghi) #[] #[])∧rE (Value.func (Fn.func glo) #[] #[])∧rE (Value.func (Fn.func gmin) #[] #[])∧p.1=p.1∧rE p.f.1∧(∀ (i:Nat),i<p.f.1→rE ((p.f.el i).den)∧True∧True∧True∧True∧True)∧rE (↑i:Int)∧p.f.2 (↑i:Int).toNat=p.f.2 i∧p.f.3 (↑i:Int).toNat=p.f.3 i∧p.f.4 (↑i:Int).toNat=p.f.4 i∧p.f.5 (↑i:Int).toNat=p.f.5 i∧p.f.5 (↑i :
Int).toNat=tgt true p.f i z∧True)∧(∀ (j:Nat),j<pwk p.1→∀ (z:Nat),z=j∧True→(0:Nat)<(1:Nat)∧(((0:Int)≤(↑j:Int)∧(↑j:Int)≤(1000:Int))∧((0:Int)≤p.f.2 i∧p.f.2 i<(64:Int))∧(0:Int)≤p.f.3 i∧p.f.3 i<(64:Int))∧(Bool.rec false (!hb (↑j:Int).toNat (p.f.fr i)) (hb (↑j:Int).toNat (p.f.to i))=true→(0:Nat)<(1:Nat)∧(0:Nat)<(1:Nat)∧(0:Nat)<(1:Nat)∧(0:Nat)<(1:Nat)∧(0:Nat)<(1:Nat)∧(∀ (i:Nat),i<p.f.1→True∧True∧True∧True∧True)∧SV.agg [SV.int IntKind.i64 p.k,SV.lst (4:Nat) p.f.n p.f.el]=(pOf (SV.agg [SV.int IntKind.i64 p.k,SV.lst (4:Nat) p.f.n p.f.el])).sv∧((0:Int)≤(↑j:Int)∧(↑j:Int)≤(1000:Int))∧okF (pOf (SV.agg [SV.int IntKind.i64 p.k,SV.lst (4:Nat) p.f.n p.f.el])).f∧((0:Int)≤(↑i:Int)∧(↑i:Int)<(↑p.f.1:Int))∧∃ b,SV.agg [SV.val
(Value.func (Fn.func ghi) #[] #[]),SV.val (Value.func (Fn.func glo) #[] #[]),SV.val (Value.func (Fn.func gmin) #[] #[])]=endV b∧∃ z_1,(z_1=j.succ∧True)∧rE (Value.func (Fn.func ghi) #[] #[])∧rE (Value.func (Fn.func glo) #[] #[])∧rE (Value.func (Fn.func gmin) #[] #[])∧p.1=p.1∧rE p.f.1∧(∀ (i:Nat),i<p.f.1→rE ((p.f.el i).den)∧True∧True∧True∧True∧True)∧rE (↑i:Int)∧rE (p.f.2 i)∧rE (p.f.3 i)∧rE (p.f.4 i)∧rE (p.f.5 i)∧min (tgt true p.f i z) (bnd b (pOf (SV.agg [SV.int IntKind.i64 p.k,SV.lst (4:Nat) p.f.n p.f.el])).f (↑i:Int).toNat (↑j:Int).toNat)=tgt true p.f i z_1∧True)∧(¬Bool.rec false (!hb (↑j:Int).toNat (p.f.fr i)) (hb (↑j:Int).toNat (p.f.to i))=true→∃ z_1,(z_1=j.succ∧True)∧rE (Value.func (Fn.func ghi) #[] #[])∧rE (Value.func (Fn.func glo) #[] #[])∧rE (Value.func (Fn.func gmin) #[] #[])∧p.1=p.1∧rE
p.f.1∧(∀ (i:Nat),i<p.f.1→rE ((p.f.el i).den)∧True∧True∧True∧True∧True)∧rE (↑i:Int)∧rE (p.f.2 i)∧rE (p.f.3 i)∧rE (p.f.4 i)∧rE (p.f.5 i)∧tgt true p.f i z=tgt true p.f i z_1∧True))∧∀ (z:Nat),z=pwk p.1∧True→(0:Nat)<(1:Nat)∧tgt true p.f i z=tgE true p i∧True):=by kernel_rfl
theorem conG_vc (p:Pl):conG p =
((0:Nat)<(1:Nat)∧((0:Int)≤p.1∧p.1≤(8:Int))∧((True∧True)∧∃ z,(z=(0:Nat)∧∀ (s:Nat),s<(0:Nat)→bad p.f s=false)∧rE (0:Nat)∧rE (0:Nat)∧rE (0:Nat)∧rE (0:Nat)∧rE (0:Nat)∧rE (0:Nat)∧rE (Fn.func gsetsI)∧SV.denL [i6 p.k]=SV.denL [SV.int IntKind.i64 p.k]∧(True∧True)∧p.1=p.1∧rE p.f.1∧(∀ (i:Nat),i<p.f.1→rE ((p.f.el i).den)∧True∧True∧True∧True∧True)∧rE (0:Int)∧rE false∧True)∧(∀ (j:Nat),j<pwk p.1→∀ (z:Nat),(z=j∧∀ (s:Nat),s<j→bad p.f s=false)→(0:Nat)<(1:Nat)∧(∀ (i:Nat),i<p.f.1→True∧True∧True∧True∧True)∧SV.lst (4:Nat) p.f.n p.f.el=(fOf (SV.lst (4:Nat) p.f.n p.f.el)).sv∧((0:Int)≤(↑j:Int)∧(↑j:Int)≤(1000:Int))∧okF (fOf (SV.lst (4:Nat) p.f.n p.f.el))∧(0:Nat)<(1:Nat)∧(0:Nat)<(1:Nat)∧(OH (fOf (SV.lst (4 :
Nat) p.f.n p.f.el)) (↑j:Int).toNat<IL (fOf (SV.lst (4:Nat) p.f.n p.f.el)) (↑j:Int).toNat→(0:Nat)<(1:Nat)∧(0:Nat)<(1:Nat)∧(↑j:Int)=(↑(cFs p):Int)∧(rE true↔cEx p=true)∧True)∧(¬OH (fOf (SV.lst (4:Nat) p.f.n p.f.el)) (↑j:Int).toNat<IL (fOf (SV.lst (4:Nat) p.f.n p.f.el)) (↑j:Int).toNat→∃ z,(z=j.succ∧∀ (s:Nat),s<j.succ→bad p.f s=false)∧p.1=p.1∧rE p.f.1∧(∀ (i:Nat),i<p.f.1→rE ((p.f.el i).den)∧True∧True∧True∧True∧True)∧rE (0:Int)∧rE false∧True))∧∀ (z:Nat),(z=pwk p.1∧∀ (s:Nat),s<pwk p.1→bad p.f s=false)→(0:Nat)<(1:Nat)∧(0:Nat)<(1:Nat)∧(0:Int)=(↑(cFs p):Int)∧(false=true↔cEx p=true)∧True):=by kernel_rfl
theorem prof_vc (p:Pl) (i:Nat) (t:Int):prof p i t =
((0:Nat)<(1:Nat)∧((0:Int)≤p.1∧p.1≤(8:Int))∧((True∧True)∧∃ z,(z=(0:Nat)∧∀ (s:Nat),s<(0:Nat)→prP false p.f i t s=false)∧rE (0:Nat)∧rE (0:Nat)∧rE (0:Nat)∧rE (0:Nat)∧rE (0:Nat)∧rE (0:Nat)∧rE (0:Nat)∧rE (0:Nat)∧rE (0:Nat)∧rE (0:Nat)∧rE (Fn.func gsetsI)∧SV.denL [i6 p.k]=SV.denL [SV.int IntKind.i64 p.k]∧(True∧True)∧rE (Value.func (Fn.func glo) #[] #[])∧rE (Value.func (Fn.func ghi) #[] #[])∧rE (Value.func (Fn.func gmax) #[] #[])∧p.1=p.1∧rE p.f.1∧(∀ (i:Nat),i<p.f.1→rE ((p.f.el i).den)∧True∧True∧True∧True∧True)∧rE (↑i:Int)∧t=t∧rE (0:Int)∧True)∧(∀ (j:Nat),j<pwk p.1→∀ (z:Nat),(z=j∧∀ (s:Nat),s<j→prP false p.f i t s=false)→(0:Nat)<(1:Nat)∧(0:Nat)<(1:Nat)∧(0:Int)≤(↑i:Int)∧(↑i:Int)<(↑p.f.1:Int)∧(((0:Int) ≤
(↑j:Int)∧(↑j:Int)≤(1000:Int))∧((0:Int)≤p.f.2 (↑i:Int).toNat∧p.f.2 (↑i:Int).toNat<(64:Int))∧(0:Int)≤p.f.3 (↑i:Int).toNat∧p.f.3 (↑i:Int).toNat<(64:Int))∧(¬Bool.rec false (!hb (↑j:Int).toNat (p.f.fr (↑i:Int).toNat)) (hb (↑j:Int).toNat (p.f.to (↑i:Int).toNat))=true→∃ z,(z=j.succ∧∀ (s:Nat),s<j.succ→prP false p.f i t s=false)∧rE (Value.func (Fn.func glo) #[] #[])∧rE (Value.func (Fn.func ghi) #[] #[])∧rE (Value.func (Fn.func gmax) #[] #[])∧p.1=p.1∧rE p.f.1∧(∀ (i:Nat),i<p.f.1→rE ((p.f.el i).den)∧True∧True∧True∧True∧True)∧rE (↑i:Int)∧t=t∧rE (0:Int)∧True)∧(¬¬Bool.rec false (!hb (↑j:Int).toNat (p.f.fr (↑i:Int).toNat)) (hb (↑j:Int).toNat (p.f.to (↑i:Int).toNat))=true→(0:Nat)<(1:Nat)∧(0:Nat)<(1:Nat)∧(0:Nat)<(1:Nat)∧(∀ (i:Nat),i<p.f.1→True ∧
True∧True∧True∧True)∧SV.agg [SV.int IntKind.i64 p.k,SV.lst (4:Nat) p.f.n p.f.el]=(pOf (SV.agg [SV.int IntKind.i64 p.k,SV.lst (4:Nat) p.f.n p.f.el])).sv∧((0:Int)≤(↑j:Int)∧(↑j:Int)≤(1000:Int))∧okF (pOf (SV.agg [SV.int IntKind.i64 p.k,SV.lst (4:Nat) p.f.n p.f.el])).f∧((0:Int)≤(↑i:Int)∧(↑i:Int)<(↑p.f.1:Int))∧∃ b,SV.agg [SV.val (Value.func (Fn.func glo) #[] #[]),SV.val (Value.func (Fn.func ghi) #[] #[]),SV.val (Value.func (Fn.func gmax) #[] #[])]=endV b∧(0:Nat)<(1:Nat)∧(bnd b (pOf (SV.agg [SV.int IntKind.i64 p.k,SV.lst (4:Nat) p.f.n p.f.el])).f (↑i:Int).toNat (↑j:Int).toNat=t→(0:Nat)<(1:Nat)∧(↑j:Int)=(↑(prS false p i t):Int)∧True)∧(¬bnd b (pOf (SV.agg [SV.int IntKind.i64 p.k,SV.lst (4:Nat) p.f.n p.f.el])).f (↑i:Int).toNat (↑j:Int).toNat=t→∃ z,(z=j.succ∧∀ (s:Nat),s<j.succ →
prP false p.f i t s=false)∧rE (Value.func (Fn.func glo) #[] #[])∧rE (Value.func (Fn.func ghi) #[] #[])∧rE (Value.func (Fn.func gmax) #[] #[])∧p.1=p.1∧rE p.f.1∧(∀ (i:Nat),i<p.f.1→rE ((p.f.el i).den)∧True∧True∧True∧True∧True)∧rE (↑i:Int)∧t=t∧rE (0:Int)∧True)))∧∀ (z:Nat),(z=pwk p.1∧∀ (s:Nat),s<pwk p.1→prP false p.f i t s=false)→(0:Nat)<(1:Nat)∧(0:Int)=(↑(prS false p i t):Int)∧True):=by kernel_rfl
theorem prot_vc (p:Pl) (i:Nat) (t:Int):prot p i t =
((0:Nat)<(1:Nat)∧((0:Int)≤p.1∧p.1≤(8:Int))∧((True∧True)∧∃ z,(z=(0:Nat)∧∀ (s:Nat),s<(0:Nat)→prP true p.f i t s=false)∧rE (0:Nat)∧rE (0:Nat)∧rE (0:Nat)∧rE (0:Nat)∧rE (0:Nat)∧rE (0:Nat)∧rE (0:Nat)∧rE (0:Nat)∧rE (0:Nat)∧rE (0:Nat)∧rE (Fn.func gsetsI)∧SV.denL [i6 p.k]=SV.denL [SV.int IntKind.i64 p.k]∧(True∧True)∧rE (Value.func (Fn.func ghi) #[] #[])∧rE (Value.func (Fn.func glo) #[] #[])∧rE (Value.func (Fn.func gmin) #[] #[])∧p.1=p.1∧rE p.f.1∧(∀ (i:Nat),i<p.f.1→rE ((p.f.el i).den)∧True∧True∧True∧True∧True)∧rE (↑i:Int)∧t=t∧rE (0:Int)∧True)∧(∀ (j:Nat),j<pwk p.1→∀ (z:Nat),(z=j∧∀ (s:Nat),s<j→prP true p.f i t s=false)→(0:Nat)<(1:Nat)∧(0:Nat)<(1:Nat)∧(0:Int)≤(↑i:Int)∧(↑i:Int)<(↑p.f.1:Int)∧(((0:Int)≤(↑j
: Int)∧(↑j:Int)≤(1000:Int))∧((0:Int)≤p.f.2 (↑i:Int).toNat∧p.f.2 (↑i:Int).toNat<(64:Int))∧(0:Int)≤p.f.3 (↑i:Int).toNat∧p.f.3 (↑i:Int).toNat<(64:Int))∧(¬Bool.rec false (!hb (↑j:Int).toNat (p.f.fr (↑i:Int).toNat)) (hb (↑j:Int).toNat (p.f.to (↑i:Int).toNat))=true→∃ z,(z=j.succ∧∀ (s:Nat),s<j.succ→prP true p.f i t s=false)∧rE (Value.func (Fn.func ghi) #[] #[])∧rE (Value.func (Fn.func glo) #[] #[])∧rE (Value.func (Fn.func gmin) #[] #[])∧p.1=p.1∧rE p.f.1∧(∀ (i:Nat),i<p.f.1→rE ((p.f.el i).den)∧True∧True∧True∧True∧True)∧rE (↑i:Int)∧t=t∧rE (0:Int)∧True)∧(¬¬Bool.rec false (!hb (↑j:Int).toNat (p.f.fr (↑i:Int).toNat)) (hb (↑j:Int).toNat (p.f.to (↑i:Int).toNat))=true→(0:Nat)<(1:Nat)∧(0:Nat)<(1:Nat)∧(0:Nat)<(1:Nat)∧(∀ (i:Nat),i<p.f.1→True∧True ∧
True∧True∧True)∧SV.agg [SV.int IntKind.i64 p.k,SV.lst (4:Nat) p.f.n p.f.el]=(pOf (SV.agg [SV.int IntKind.i64 p.k,SV.lst (4:Nat) p.f.n p.f.el])).sv∧((0:Int)≤(↑j:Int)∧(↑j:Int)≤(1000:Int))∧okF (pOf (SV.agg [SV.int IntKind.i64 p.k,SV.lst (4:Nat) p.f.n p.f.el])).f∧((0:Int)≤(↑i:Int)∧(↑i:Int)<(↑p.f.1:Int))∧∃ b,SV.agg [SV.val (Value.func (Fn.func ghi) #[] #[]),SV.val (Value.func (Fn.func glo) #[] #[]),SV.val (Value.func (Fn.func gmin) #[] #[])]=endV b∧(0:Nat)<(1:Nat)∧(bnd b (pOf (SV.agg [SV.int IntKind.i64 p.k,SV.lst (4:Nat) p.f.n p.f.el])).f (↑i:Int).toNat (↑j:Int).toNat=t→(0:Nat)<(1:Nat)∧(↑j:Int)=(↑(prS true p i t):Int)∧True)∧(¬bnd b (pOf (SV.agg [SV.int IntKind.i64 p.k,SV.lst (4:Nat) p.f.n p.f.el])).f (↑i:Int).toNat (↑j:Int).toNat=t→∃ z,(z=j.succ∧∀ (s:Nat),s<j.succ→prP true
p.f i t s=false)∧rE (Value.func (Fn.func ghi) #[] #[])∧rE (Value.func (Fn.func glo) #[] #[])∧rE (Value.func (Fn.func gmin) #[] #[])∧p.1=p.1∧rE p.f.1∧(∀ (i:Nat),i<p.f.1→rE ((p.f.el i).den)∧True∧True∧True∧True∧True)∧rE (↑i:Int)∧t=t∧rE (0:Int)∧True)))∧∀ (z:Nat),(z=pwk p.1∧∀ (s:Nat),s<pwk p.1→prP true p.f i t s=false)→(0:Nat)<(1:Nat)∧(0:Int)=(↑(prS true p i t):Int)∧True):=by kernel_rfl
theorem isPG_vc (n:Int) (k:Int):isPG n k =
(((0:Int)≤n→(n<k↔(0:Int)≤n∧n<k)∧True) ∧
 (¬(0:Int)≤n→(false=true↔(0:Int)≤n∧n<k)∧True)):=by kernel_rfl
theorem vGaG_vc (a:Int) (b:Int):vGaG a b =
((0:Nat)<(1:Nat) ∧
 ((0:Int)≤a →
   (0:Nat)<(1:Nat) ∧
    (0:Nat)<(1:Nat) ∧
     (a≤b →
       (0:Nat)<(1:Nat) ∧
        (b≤(1073741824:Int)↔(0:Int)≤a∧a≤b∧b≤(1073741824:Int))∧True) ∧
      (¬a≤b→(false=true↔(0:Int)≤a∧a≤b∧b≤(1073741824:Int))∧True)) ∧
  (¬(0:Int)≤a→(false=true↔(0:Int)≤a∧a≤b∧b≤(1073741824:Int))∧True)):=by kernel_rfl
theorem valG_vc (p:Pl):valG p =
((0:Nat)<(1:Nat)∧(p.1<(2:Int)→(false=true↔okP p)∧True)∧(¬p.1<(2:Int)→(0:Nat)<(1:Nat)∧((8:Int)<p.1→(false=true↔okP p)∧True)∧(¬(8:Int)<p.1→(0:Nat)<(1:Nat)∧((16:Int)<(↑p.f.1:Int)→(false=true↔okP p)∧True)∧(¬(16:Int)<(↑p.f.1:Int)→(0:Nat)<(1:Nat)∧(∃ z,(z≤p.f.1∧((2:Int)≤p.1∧p.1≤(8:Int)∧p.f.1≤(16:Nat))∧∀ (j:Nat),j<z→okFl p j)∧rE (0:Nat)∧rE (0:Nat)∧rE p.f.1∧(∀ (i:Nat),i<p.f.1→rE ((p.f.el i).den)∧True∧True∧True∧True∧True)∧rE (↑p.f.1:Int)∧(0:Int)=(↑z:Int)∧p.1=p.1∧rE p.f.1∧(∀ (i:Nat),i<p.f.1→rE ((p.f.el i).den)∧True∧True∧True∧True∧True)∧True)∧∀ (z:Nat),(z≤p.f.1∧((2:Int)≤p.1∧p.1≤(8:Int)∧p.f.1≤(16:Nat))∧∀ (j:Nat),j<z→okFl p j)→((↑z:Int)<(↑p.f.1:Int)→(0:Int)≤(↑z :
Int)∧(↑z:Int)<(↑p.f.1:Int)∧(0:Nat)<(1:Nat)∧(0:Nat)<(1:Nat)∧(¬((0:Int)≤p.f.2 (↑z:Int).toNat∧p.f.2 (↑z:Int).toNat<p.1)→(false=true↔okP p)∧True)∧(¬¬((0:Int)≤p.f.2 (↑z:Int).toNat∧p.f.2 (↑z:Int).toNat<p.1)→(0:Nat)<(1:Nat)∧(0:Nat)<(1:Nat)∧(¬((0:Int)≤p.f.3 (↑z:Int).toNat∧p.f.3 (↑z:Int).toNat<p.1)→(false=true↔okP p)∧True)∧(¬¬((0:Int)≤p.f.3 (↑z:Int).toNat∧p.f.3 (↑z:Int).toNat<p.1)→(0:Nat)<(1:Nat)∧(0:Nat)<(1:Nat)∧(p.f.2 (↑z:Int).toNat=p.f.3 (↑z:Int).toNat→(false=true↔okP p)∧True)∧(¬p.f.2 (↑z:Int).toNat=p.f.3 (↑z:Int).toNat→(0:Nat)<(1:Nat)∧(¬((0:Int)≤p.f.4 (↑z:Int).toNat∧p.f.4 (↑z:Int).toNat≤p.f.5 (↑z:Int).toNat∧p.f.5 (↑z:Int).toNat≤(1073741824:Int))→(false=true↔okP p)∧True)∧(¬¬((0:Int)≤p.f.4 (↑z :
Int).toNat∧p.f.4 (↑z:Int).toNat≤p.f.5 (↑z:Int).toNat∧p.f.5 (↑z:Int).toNat≤(1073741824:Int))→rI ((↑z:Int)+(1:Int))∧∃ z_1,(z_1≤p.f.1∧((2:Int)≤p.1∧p.1≤(8:Int)∧p.f.1≤(16:Nat))∧∀ (j:Nat),j<z_1→okFl p j)∧p.f.1 - z_1<p.f.1 - z∧rE (0:Nat)∧rE (0:Nat)∧rE p.f.1∧(∀ (i:Nat),i<p.f.1→rE ((p.f.el i).den)∧True∧True∧True∧True∧True)∧rE (↑p.f.1:Int)∧(↑z:Int)+(1:Int)=(↑z_1:Int)∧p.1=p.1∧rE p.f.1∧(∀ (i:Nat),i<p.f.1→rE ((p.f.el i).den)∧True∧True∧True∧True∧True)∧True)))))∧(¬(↑z:Int)<(↑p.f.1:Int)→(rE true↔okP p)∧True))))):=by kernel_rfl
theorem fixG_vc (p:Pl) (i:Nat) (x:Int):fixG p i x =
((0:Nat)<(1:Nat)∧(0:Int)≤(↑p.f.1:Int)∧(↑p.f.1:Int)≤(↑p.f.1:Int)∧(↑p.f.1:Int)≤(1048576:Int)∧(↑p.f.1:Int)*(↑(32:Nat):Int)≤(140737488355328:Int)∧(0:Nat)<(1:Nat)∧rE (0:Nat)∧rE ((↑p.f.1:Int).toNat)∧p.f.1=(↑p.f.1:Int).toNat∧(∀ (i:Nat),i<p.f.1→rE true)∧(0:Int)≤(↑i:Int)∧(↑i:Int)<(↑(↑p.f.1:Int).toNat:Int)∧(2:Nat)+(2:Nat)≤(4:Nat)∧(0:Nat)+(↑i:Int).toNat<p.f.1∧(∀ (i':Nat),rE true)∧(0:Nat)<(1:Nat)∧(0:Nat)<(1:Nat)∧p.1=p.1∧(↑p.f.1:Int).toNat=p.f.1∧(0:Nat)+p.f.1≤p.f.1∧(∀ (i_1:Nat),i_1<p.f.1→rE (4:Nat)∧rE (4:Nat)∧(if i_1+(0:Nat)=(0:Nat)+(↑i:Int).toNat then p.f.2 (i_1+(0:Nat)) else p.f.2 (i_1+(0:Nat)))=p.f.2 i_1∧(if i_1+(0:Nat)=(0:Nat)+(↑i:Int).toNat then p.f.3 (i_1+(0:Nat)) else p.f.3 (i_1+(0 :
Nat)))=p.f.3 i_1∧((if i_1+(0:Nat)=(0:Nat)+(↑i:Int).toNat then x else p.f.4 (i_1+(0:Nat)))=if i_1=i then x else p.f.4 i_1)∧((if i_1+(0:Nat)=(0:Nat)+(↑i:Int).toNat then x else p.f.5 (i_1+(0:Nat)))=if i_1=i then x else p.f.5 i_1)∧True)∧True):=by kernel_rfl
theorem cheG_vc (p:Pl):cheG p =
((0:Nat)<(1:Nat) ∧
 (∀ (i:Nat),i<p.f.1→True∧True∧True∧True∧True) ∧
  SV.agg [SV.int IntKind.i64 p.k,SV.lst (4:Nat) p.f.n p.f.el] =
    (pOf (SV.agg [SV.int IntKind.i64 p.k,SV.lst (4:Nat) p.f.n p.f.el])).sv ∧
   (¬okP (pOf (SV.agg [SV.int IntKind.i64 p.k,SV.lst (4:Nat) p.f.n p.f.el]))→(1:Int)=chE p∧True) ∧
    (¬¬okP (pOf (SV.agg [SV.int IntKind.i64 p.k,SV.lst (4:Nat) p.f.n p.f.el])) →
     (0:Nat)<(1:Nat) ∧
      (∀ (i:Nat),i<p.f.1→True∧True∧True∧True∧True) ∧
       SV.agg [SV.int IntKind.i64 p.k,SV.lst (4:Nat) p.f.n p.f.el] =
         (pOf (SV.agg [SV.int IntKind.i64 p.k,SV.lst (4:Nat) p.f.n p.f.el])).sv ∧
        ((0:Int)≤p.1∧p.1≤(8:Int)) ∧
         okF (pOf (SV.agg [SV.int IntKind.i64 p.k,SV.lst (4:Nat) p.f.n p.f.el])).f ∧
          (cEx (pOf (SV.agg [SV.int IntKind.i64 p.k,SV.lst (4:Nat) p.f.n p.f.el]))=true →
            (6:Int)=chE p∧True) ∧
           (¬cEx (pOf (SV.agg [SV.int IntKind.i64 p.k,SV.lst (4:Nat) p.f.n p.f.el]))=true →
            (0:Int)=chE p∧True))):=by kernel_rfl
theorem truG_vc (p:Pl):truG p =
((0:Nat)<(1:Nat)∧(∀ (i:Nat),i<p.f.1→True∧True∧True∧True∧True)∧SV.agg [SV.int IntKind.i64 p.k,SV.lst (4:Nat) p.f.n p.f.el]=(pOf (SV.agg [SV.int IntKind.i64 p.k,SV.lst (4:Nat) p.f.n p.f.el])).sv∧(¬chE (pOf (SV.agg [SV.int IntKind.i64 p.k,SV.lst (4:Nat) p.f.n p.f.el]))=(0:Int)→(0:Nat)=okN p∧chE (pOf (SV.agg [SV.int IntKind.i64 p.k,SV.lst (4:Nat) p.f.n p.f.el]))=chE p∧True)∧(¬¬chE (pOf (SV.agg [SV.int IntKind.i64 p.k,SV.lst (4:Nat) p.f.n p.f.el]))=(0:Int)→(0:Nat)<(1:Nat)∧(0:Int)≤(↑p.f.1:Int)∧(↑p.f.1:Int)≤(↑p.f.1:Int)∧(↑p.f.1:Int)≤(1048576:Int)∧(↑p.f.1:Int)*(↑(8:Nat):Int)≤(140737488355328:Int)∧(∃ z,(z≤p.f.1∧chE p=(0:Int))∧rE (0:Nat)∧rE (0:Nat)∧rE (0:Nat)∧(↑p.f.1:Int).toNat=p.f.1∧(↑(↑p.f.1:Int).toNat:Int)=(↑p.f.1:Int)∧(0:Int)=(↑z:Int) ∧
p.1=p.1∧p.f.1=(truF p z).1∧(∀ (i:Nat),i<(truF p z).1→(p.f.el i).den=((truF p z).el i).den∧True∧True∧True∧True∧True)∧p.f.1=(↑p.f.1:Int).toNat∧(∀ (i:Nat),i<p.f.1→rE (1:Nat)∧((0:Int)=if i<z then truV p i else (0:Int))∧True)∧True)∧∀ (z:Nat),z≤p.f.1∧chE p=(0:Int)→((↑z:Int)<(↑p.f.1:Int)→(0:Nat)<(1:Nat)∧(∀ (i:Nat),i<(truF p z).1→True∧True∧True∧True∧True)∧SV.agg [SV.int IntKind.i64 p.k,SV.lst (4:Nat) (truF p z).n (truF p z).el]=(pOf (SV.agg [SV.int IntKind.i64 p.k,SV.lst (4:Nat) (truF p z).n (truF p z).el])).sv∧((0:Int)≤p.1∧p.1≤(8:Int))∧okF (pOf (SV.agg [SV.int IntKind.i64 p.k,SV.lst (4:Nat) (truF p z).n (truF p z).el])).f∧((0:Int)≤(↑z:Int)∧(↑z:Int)<(↑(truF p z).1:Int))∧∃ b,SV.agg [SV.val (Value.func (Fn.func glo) #[] #[]),SV.val (Value.func
(Fn.func ghi) #[] #[]),SV.val (Value.func (Fn.func gmax) #[] #[])]=endV b∧(0:Int)≤(↑z:Int)∧(↑z:Int)<(↑p.f.1:Int)∧(0:Nat)+(1:Nat)≤(1:Nat)∧(0:Nat)+(↑z:Int).toNat<p.f.1∧(∀ (i':Nat),rE true)∧(0:Nat)<(1:Nat)∧(0:Int)≤(↑z:Int)∧(↑z:Int)<(↑p.f.1:Int)∧(0:Nat)+(↑z:Int).toNat<p.f.1∧(∀ (i:Nat),i<(truF p z).1→True∧True∧True∧True∧True)∧SV.agg [SV.int IntKind.i64 p.k,SV.lst (4:Nat) (truF p z).n (truF p z).el]=(pOf (SV.agg [SV.int IntKind.i64 p.k,SV.lst (4:Nat) (truF p z).n (truF p z).el])).sv∧((truF p z).1≤(16:Nat)∧(0:Int)≤(↑z:Int)∧(↑z:Int)<(↑(truF p z).1:Int))∧rI ((↑z:Int)+(1:Int))∧∃ z_1,(z_1≤p.f.1∧chE p=(0:Int))∧p.f.1 - z_1<p.f.1 - z∧rE (0:Nat)∧rE (0:Nat)∧rE (0:Nat)∧rE p.f.1∧rE (↑p.f.1:Int)∧(↑z:Int)+(1:Int)=(↑z_1:Int) ∧
p.1=p.1∧(truF p z).1=(truF p z_1).1∧(∀ (i:Nat),i<(truF p z_1).1→((setP (pOf (SV.agg [SV.int IntKind.i64 p.k,SV.lst (4:Nat) (truF p z).n (truF p z).el])) (↑z:Int).toNat (if (0:Nat)+(↑z:Int).toNat=(0:Nat)+(↑z:Int).toNat then tgE b (pOf (SV.agg [SV.int IntKind.i64 p.k,SV.lst (4:Nat) (truF p z).n (truF p z).el])) (↑z:Int).toNat else if (0:Nat)+(↑z:Int).toNat<z then truV p ((0:Nat)+(↑z:Int).toNat) else (0:Int))).f.el i).den=((truF p z_1).el i).den∧True∧True∧True∧True∧True)∧rE p.f.1∧(∀ (i:Nat),i<p.f.1→rE (1:Nat)∧((if i=(0:Nat)+(↑z:Int).toNat then tgE b (pOf (SV.agg [SV.int IntKind.i64 p.k,SV.lst (4:Nat) (truF p z).n (truF p z).el])) (↑z:Int).toNat else if i<z then truV p i else (0:Int))=if i<z_1 then truV p i else (0:Int))∧True)∧True)∧(¬(↑z:Int)<(↑p.f.1:Int)→p.f.1=okN p ∧
(0:Nat)+okN p≤p.f.1∧(∀ (i:Nat),i<okN p→rE (1:Nat)∧rE (1:Nat)∧(if i+(0:Nat)<z then truV p (i+(0:Nat)) else (0:Int))=truV p i∧True)∧(0:Int)=chE p∧True))):=by kernel_rfl
theorem tghG_vc (p:Pl):tghG p =
((0:Nat)<(1:Nat)∧(∀ (i:Nat),i<p.f.1→True∧True∧True∧True∧True)∧SV.agg [SV.int IntKind.i64 p.k,SV.lst (4:Nat) p.f.n p.f.el]=(pOf (SV.agg [SV.int IntKind.i64 p.k,SV.lst (4:Nat) p.f.n p.f.el])).sv∧(¬chE (pOf (SV.agg [SV.int IntKind.i64 p.k,SV.lst (4:Nat) p.f.n p.f.el]))=(0:Int)→(0:Nat)=okN p∧chE (pOf (SV.agg [SV.int IntKind.i64 p.k,SV.lst (4:Nat) p.f.n p.f.el]))=chE p∧True)∧(¬¬chE (pOf (SV.agg [SV.int IntKind.i64 p.k,SV.lst (4:Nat) p.f.n p.f.el]))=(0:Int)→(0:Nat)<(1:Nat)∧(0:Int)≤(↑p.f.1:Int)∧(↑p.f.1:Int)≤(↑p.f.1:Int)∧(↑p.f.1:Int)≤(1048576:Int)∧(↑p.f.1:Int)*(↑(16:Nat):Int)≤(140737488355328:Int)∧(∃ z,(z≤p.f.1∧chE p=(0:Int))∧rE (0:Nat)∧rE (0:Nat)∧rE (0:Nat)∧(↑p.f.1:Int).toNat=p.f.1∧(↑(↑p.f.1:Int).toNat:Int)=(↑p.f.1:Int)∧(0:Int)=(↑z:Int) ∧
p.1=p.1∧rE p.f.1∧(∀ (i:Nat),i<p.f.1→rE ((p.f.el i).den)∧True∧True∧True∧True∧True)∧p.f.1=(↑p.f.1:Int).toNat∧(∀ (i:Nat),i<p.f.1→rE (2:Nat)∧((0:Int)=if i<z then tgE false p i else (0:Int))∧((0:Int)=if i<z then tgE true p i else (0:Int))∧True)∧True)∧∀ (z:Nat),z≤p.f.1∧chE p=(0:Int)→((↑z:Int)<(↑p.f.1:Int)→(0:Nat)<(1:Nat)∧(∀ (i:Nat),i<p.f.1→True∧True∧True∧True∧True)∧SV.agg [SV.int IntKind.i64 p.k,SV.lst (4:Nat) p.f.n p.f.el]=(pOf (SV.agg [SV.int IntKind.i64 p.k,SV.lst (4:Nat) p.f.n p.f.el])).sv∧((0:Int)≤p.1∧p.1≤(8:Int))∧okF (pOf (SV.agg [SV.int IntKind.i64 p.k,SV.lst (4:Nat) p.f.n p.f.el])).f∧((0:Int)≤(↑z:Int)∧(↑z:Int)<(↑p.f.1:Int))∧∃ b,SV.agg [SV.val (Value.func (Fn.func glo) #[] #[]),SV.val (Value.func (Fn.func ghi) #[] #[]),SV.val
(Value.func (Fn.func gmax) #[] #[])]=endV b∧(0:Nat)<(1:Nat)∧(∀ (i:Nat),i<p.f.1→True∧True∧True∧True∧True)∧SV.agg [SV.int IntKind.i64 p.k,SV.lst (4:Nat) p.f.n p.f.el]=(pOf (SV.agg [SV.int IntKind.i64 p.k,SV.lst (4:Nat) p.f.n p.f.el])).sv∧((0:Int)≤p.1∧p.1≤(8:Int))∧okF (pOf (SV.agg [SV.int IntKind.i64 p.k,SV.lst (4:Nat) p.f.n p.f.el])).f∧((0:Int)≤(↑z:Int)∧(↑z:Int)<(↑p.f.1:Int))∧∃ b_1,SV.agg [SV.val (Value.func (Fn.func ghi) #[] #[]),SV.val (Value.func (Fn.func glo) #[] #[]),SV.val (Value.func (Fn.func gmin) #[] #[])]=endV b_1∧(0:Int)≤(↑z:Int)∧(↑z:Int)<(↑p.f.1:Int)∧(0:Nat)+(2:Nat)≤(2:Nat)∧(0:Nat)+(↑z:Int).toNat<p.f.1∧(∀ (i':Nat),rE true)∧rI ((↑z:Int)+(1:Int))∧∃ z_1,(z_1≤p.f.1∧chE p=(0:Int))∧p.f.1 - z_1<p.f.1 - z∧rE (0:Nat)∧rE (0:Nat)∧rE (0 :
Nat)∧rE p.f.1∧rE (↑p.f.1:Int)∧(↑z:Int)+(1:Int)=(↑z_1:Int)∧p.1=p.1∧rE p.f.1∧(∀ (i:Nat),i<p.f.1→rE ((p.f.el i).den)∧True∧True∧True∧True∧True)∧rE p.f.1∧(∀ (i:Nat),i<p.f.1→rE (2:Nat)∧((if i=(0:Nat)+(↑z:Int).toNat then tgE b (pOf (SV.agg [SV.int IntKind.i64 p.k,SV.lst (4:Nat) p.f.n p.f.el])) (↑z:Int).toNat else if i<z then tgE false p i else (0:Int))=if i<z_1 then tgE false p i else (0:Int))∧((if i=(0:Nat)+(↑z:Int).toNat then tgE b_1 (pOf (SV.agg [SV.int IntKind.i64 p.k,SV.lst (4:Nat) p.f.n p.f.el])) (↑z:Int).toNat else if i<z then tgE true p i else (0:Int))=if i<z_1 then tgE true p i else (0:Int))∧True)∧True)∧(¬(↑z:Int)<(↑p.f.1:Int)→p.f.1=okN p∧(0:Nat)+okN p≤p.f.1∧(∀ (i:Nat),i<okN p→rE (2:Nat)∧rE (2:Nat)∧(if i+(0:Nat)<z then tgE false p (i
+ (0:Nat)) else (0:Int))=tgE false p i∧(if i+(0:Nat)<z then tgE true p (i+(0:Nat)) else (0:Int))=tgE true p i∧True)∧(0:Int)=chE p∧True))):=by kernel_rfl
theorem whyf_vc (p:Pl) (i:Int):whyf p i =
((0:Nat)<(1:Nat)∧(∀ (i:Nat),i<p.f.1→True∧True∧True∧True∧True)∧SV.agg [SV.int IntKind.i64 p.k,SV.lst (4:Nat) p.f.n p.f.el]=(pOf (SV.agg [SV.int IntKind.i64 p.k,SV.lst (4:Nat) p.f.n p.f.el])).sv∧(¬okP (pOf (SV.agg [SV.int IntKind.i64 p.k,SV.lst (4:Nat) p.f.n p.f.el]))→(0:Nat)=(whL p i false).length∧(1:Int)=whE p i false∧True)∧(¬¬okP (pOf (SV.agg [SV.int IntKind.i64 p.k,SV.lst (4:Nat) p.f.n p.f.el]))→(i<(0:Int)→(0:Nat)=(whL p i false).length∧(2:Int)=whE p i false∧True)∧(¬i<(0:Int)→(0:Nat)<(1:Nat)∧((↑p.f.1:Int)≤i→(0:Nat)=(whL p i false).length∧(2:Int)=whE p i false∧True)∧(¬(↑p.f.1:Int)≤i→(0:Nat)<(1:Nat)∧(∀ (i:Nat),i<p.f.1→True∧True∧True∧True∧True)∧SV.agg [SV.int IntKind.i64 p.k,SV.lst (4:Nat) p.f.n p.f.el]=(pOf (SV.agg [SV.int IntKind.i64 p.k,
SV.lst (4:Nat) p.f.n p.f.el])).sv∧(¬chE (pOf (SV.agg [SV.int IntKind.i64 p.k,SV.lst (4:Nat) p.f.n p.f.el]))=(0:Int)→(0:Nat)=(whL p i false).length∧chE (pOf (SV.agg [SV.int IntKind.i64 p.k,SV.lst (4:Nat) p.f.n p.f.el]))=whE p i false∧True)∧(¬¬chE (pOf (SV.agg [SV.int IntKind.i64 p.k,SV.lst (4:Nat) p.f.n p.f.el]))=(0:Int)→(0:Nat)<(1:Nat)∧(0:Nat)<(1:Nat)∧(∀ (i:Nat),i<p.f.1→True∧True∧True∧True∧True)∧SV.agg [SV.int IntKind.i64 p.k,SV.lst (4:Nat) p.f.n p.f.el]=(pOf (SV.agg [SV.int IntKind.i64 p.k,SV.lst (4:Nat) p.f.n p.f.el])).sv∧((0:Int)≤p.1∧p.1≤(8:Int))∧okF (pOf (SV.agg [SV.int IntKind.i64 p.k,SV.lst (4:Nat) p.f.n p.f.el])).f∧((0:Int)≤i∧i<(↑p.f.1:Int))∧∃ b,SV.agg [SV.val (Value.func (Fn.func glo) #[] #[]),SV.val (Value.func (Fn.func ghi) #[] #[]),SV.val (Value.func (Fn.func gmax)
#[] #[])]=endV b∧(0:Nat)<(1:Nat)∧(0:Nat)<(1:Nat)∧(0:Int)≤i∧i<(↑p.f.1:Int)∧(tgE b (pOf (SV.agg [SV.int IntKind.i64 p.k,SV.lst (4:Nat) p.f.n p.f.el])) i.toNat=p.f.4 i.toNat→(0:Nat)=(whL p i false).length∧(4:Int)=whE p i false∧True)∧(¬tgE b (pOf (SV.agg [SV.int IntKind.i64 p.k,SV.lst (4:Nat) p.f.n p.f.el])) i.toNat=p.f.4 i.toNat→(0:Nat)<(1:Nat)∧(0:Nat)<(1:Nat)∧(∀ (i:Nat),i<p.f.1→True∧True∧True∧True∧True)∧SV.agg [SV.int IntKind.i64 p.k,SV.lst (4:Nat) p.f.n p.f.el]=(pOf (SV.agg [SV.int IntKind.i64 p.k,SV.lst (4:Nat) p.f.n p.f.el])).sv∧((0:Int)≤p.1∧p.1≤(8:Int))∧okF (pOf (SV.agg [SV.int IntKind.i64 p.k,SV.lst (4:Nat) p.f.n p.f.el])).f∧((0:Int)≤i∧i<(↑p.f.1:Int))∧∃ b_1,SV.agg [SV.val (Value.func (Fn.func glo) #[] #[]),SV.val (Value.func (Fn.func ghi) #[] #[]),
SV.val (Value.func (Fn.func gmax) #[] #[])]=endV b_1∧(∃ z,(z≤(8:Nat)∧fl (fun x=>hb (prS false p i.toNat (tgE false p i.toNat)) (↑x:Int)) z=[])∧(↑(prS b_1 (pOf (SV.agg [SV.int IntKind.i64 p.k,SV.lst (4:Nat) p.f.n p.f.el])) i.toNat (tgE b (pOf (SV.agg [SV.int IntKind.i64 p.k,SV.lst (4:Nat) p.f.n p.f.el])) i.toNat)):Int)=(↑(prS false p i.toNat (tgE false p i.toNat)):Int)∧rE (Value.slice none (0:Nat) (0:Nat))∧(0:Int)=(↑z:Int)∧p.1=p.1∧rE p.f.1∧(∀ (i:Nat),i<p.f.1→rE ((p.f.el i).den)∧True∧True∧True∧True∧True)∧rE (Value.func (Fn.func glo) #[] #[])∧rE (Value.func (Fn.func ghi) #[] #[])∧rE (Value.func (Fn.func gmax) #[] #[])∧True)∧(∀ (z:Nat),z≤(8:Nat)∧fl (fun x=>hb (prS false p i.toNat (tgE false p i.toNat)) (↑x:Int)) z=[]→((↑z:Int)<(8:Int)→(((0:Int)≤(↑(prS false p i.toNat (tgE false p
i.toNat)):Int)∧(↑(prS false p i.toNat (tgE false p i.toNat)):Int)≤(1000:Int))∧(0:Int)≤(↑z:Int)∧(↑z:Int)<(64:Int))∧(hb (↑(prS false p i.toNat (tgE false p i.toNat)):Int).toNat (↑z:Int)=true→True∧(∀ (i:Nat),i<(1:Nat)→rE true)∧(1:Nat)*(8:Nat)≤(140737488355328:Nat)∧(1:Nat)≤(4611686018427387904:Nat)∧rI ((↑z:Int)+(1:Int))∧∃ z_1,z_1≤(8:Nat)∧(8:Nat) - z_1<(8:Nat) - z∧rE (↑(prS false p i.toNat (tgE false p i.toNat)):Int)∧rE (0:Nat)∧(1:Nat)=(fl (fun x=>hb (prS false p i.toNat (tgE false p i.toNat)) (↑x:Int)) z_1).length∧(↑z:Int)+(1:Int)=(↑z_1:Int)∧p.1=p.1∧rE p.f.1∧(∀ (i:Nat),i<p.f.1→rE ((p.f.el i).den)∧True∧True∧True∧True∧True)∧rE (Value.func (Fn.func glo) #[] #[])∧rE (Value.func (Fn.func ghi) #[] #[])∧rE (Value.func (Fn.func gmax) #[] #[])∧(fl
(fun x=>hb (prS false p i.toNat (tgE false p i.toNat)) (↑x:Int)) z_1).length=(1:Nat)∧(∀ (i_1:Nat),i_1<(fl (fun x=>hb (prS false p i.toNat (tgE false p i.toNat)) (↑x:Int)) z_1).length→rE (1:Nat)∧(↑z:Int)=(↑((fl (fun x=>hb (prS false p i.toNat (tgE false p i.toNat)) (↑x:Int)) z_1).getD i_1 (0:Nat)):Int)∧True)∧True)∧(¬hb (↑(prS false p i.toNat (tgE false p i.toNat)):Int).toNat (↑z:Int)=true→rI ((↑z:Int)+(1:Int))∧∃ z_1,(z_1≤(8:Nat)∧fl (fun x=>hb (prS false p i.toNat (tgE false p i.toNat)) (↑x:Int)) z_1=[])∧(8:Nat) - z_1<(8:Nat) - z∧rE (↑(prS false p i.toNat (tgE false p i.toNat)):Int)∧rE (Value.slice none (0:Nat) (0:Nat))∧(↑z:Int)+(1:Int)=(↑z_1:Int)∧p.1=p.1∧rE p.f.1∧(∀ (i:Nat),i<p.f.1→rE ((p.f.el i).den)∧True∧True∧True∧True∧True)∧rE (Value.func (Fn.func glo) #[]
#[])∧rE (Value.func (Fn.func ghi) #[] #[])∧rE (Value.func (Fn.func gmax) #[] #[])∧True))∧(¬(↑z:Int)<(8:Int)→(0:Nat)=(whL p i false).length∧(0:Int)=whE p i false∧True))∧∀ (z:Nat),z≤(8:Nat)→((↑z:Int)<(8:Int)→(((0:Int)≤(↑(prS false p i.toNat (tgE false p i.toNat)):Int)∧(↑(prS false p i.toNat (tgE false p i.toNat)):Int)≤(1000:Int))∧(0:Int)≤(↑z:Int)∧(↑z:Int)<(64:Int))∧(hb (↑(prS false p i.toNat (tgE false p i.toNat)):Int).toNat (↑z:Int)=true→True∧(∀ (i:Nat),i<(1:Nat)→rE true)∧rE (0:Nat)∧rE ((fl (fun x=>hb (prS false p i.toNat (tgE false p i.toNat)) (↑x:Int)) z).length)∧(∀ (i:Nat),rE true)∧((fl (fun x=>hb (prS false p i.toNat (tgE false p i.toNat)) (↑x:Int)) z).length+(1:Nat))*(8:Nat)≤(140737488355328:Nat)∧(fl (fun x=>hb (prS false p i.toNat (tgE false p
i.toNat)) (↑x:Int)) z).length+(1:Nat)≤(4611686018427387904:Nat)∧rI ((↑z:Int)+(1:Int))∧∃ z_1,z_1≤(8:Nat)∧(8:Nat) - z_1<(8:Nat) - z∧rE (↑(prS false p i.toNat (tgE false p i.toNat)):Int)∧rE (0:Nat)∧(fl (fun x=>hb (prS false p i.toNat (tgE false p i.toNat)) (↑x:Int)) z).length+(1:Nat)=(fl (fun x=>hb (prS false p i.toNat (tgE false p i.toNat)) (↑x:Int)) z_1).length∧(↑z:Int)+(1:Int)=(↑z_1:Int)∧p.1=p.1∧rE p.f.1∧(∀ (i:Nat),i<p.f.1→rE ((p.f.el i).den)∧True∧True∧True∧True∧True)∧rE (Value.func (Fn.func glo) #[] #[])∧rE (Value.func (Fn.func ghi) #[] #[])∧rE (Value.func (Fn.func gmax) #[] #[])∧(fl (fun x=>hb (prS false p i.toNat (tgE false p i.toNat)) (↑x:Int)) z_1).length=(fl (fun x=>hb (prS false p i.toNat (tgE false p i.toNat)) (↑x:Int)) z).length+(1:Nat)∧(∀ (i_1:Nat),i_1<(fl
(fun x=>hb (prS false p i.toNat (tgE false p i.toNat)) (↑x:Int)) z_1).length→rE (1:Nat)∧(if i_1<(fl (fun x=>hb (prS false p i.toNat (tgE false p i.toNat)) (↑x:Int)) z).length then (↑((fl (fun x=>hb (prS false p i.toNat (tgE false p i.toNat)) (↑x:Int)) z).getD i_1 (0:Nat)):Int) else (↑z:Int))=(↑((fl (fun x=>hb (prS false p i.toNat (tgE false p i.toNat)) (↑x:Int)) z_1).getD i_1 (0:Nat)):Int)∧True)∧True)∧(¬hb (↑(prS false p i.toNat (tgE false p i.toNat)):Int).toNat (↑z:Int)=true→rI ((↑z:Int)+(1:Int))∧∃ z_1,z_1≤(8:Nat)∧(8:Nat) - z_1<(8:Nat) - z∧rE (↑(prS false p i.toNat (tgE false p i.toNat)):Int)∧rE (0:Nat)∧(fl (fun x=>hb (prS false p i.toNat (tgE false p i.toNat)) (↑x:Int)) z).length=(fl (fun x=>hb (prS false p i.toNat (tgE false p i.toNat)) (↑x:Int)) z_1).length∧(↑z:Int)+(1:Int)=(↑z_1 :
Int)∧p.1=p.1∧rE p.f.1∧(∀ (i:Nat),i<p.f.1→rE ((p.f.el i).den)∧True∧True∧True∧True∧True)∧rE (Value.func (Fn.func glo) #[] #[])∧rE (Value.func (Fn.func ghi) #[] #[])∧rE (Value.func (Fn.func gmax) #[] #[])∧(fl (fun x=>hb (prS false p i.toNat (tgE false p i.toNat)) (↑x:Int)) z_1).length=(fl (fun x=>hb (prS false p i.toNat (tgE false p i.toNat)) (↑x:Int)) z).length∧(∀ (i_1:Nat),i_1<(fl (fun x=>hb (prS false p i.toNat (tgE false p i.toNat)) (↑x:Int)) z_1).length→rE (1:Nat)∧(↑((fl (fun x=>hb (prS false p i.toNat (tgE false p i.toNat)) (↑x:Int)) z).getD i_1 (0:Nat)):Int)=(↑((fl (fun x=>hb (prS false p i.toNat (tgE false p i.toNat)) (↑x:Int)) z_1).getD i_1 (0:Nat)):Int)∧True)∧True))∧(¬(↑z:Int)<(8:Int)→(fl (fun x=>hb (prS false p i.toNat (tgE false p i.toNat)) (↑x:Int)) z).length=(whL p i
false).length∧(0:Nat)+(whL p i false).length≤(fl (fun x=>hb (prS false p i.toNat (tgE false p i.toNat)) (↑x:Int)) z).length∧(∀ (i_1:Nat),i_1<(whL p i false).length→rE (1:Nat)∧rE (1:Nat)∧(↑((fl (fun x=>hb (prS false p i.toNat (tgE false p i.toNat)) (↑x:Int)) z).getD (i_1+(0:Nat)) (0:Nat)):Int)=(↑((whL p i false).getD i_1 (0:Nat)):Int)∧True)∧(0:Int)=whE p i false∧True))))))):=by kernel_rfl
theorem whyt_vc (p:Pl) (i:Int):whyt p i =
((0:Nat)<(1:Nat)∧(∀ (i:Nat),i<p.f.1→True∧True∧True∧True∧True)∧SV.agg [SV.int IntKind.i64 p.k,SV.lst (4:Nat) p.f.n p.f.el]=(pOf (SV.agg [SV.int IntKind.i64 p.k,SV.lst (4:Nat) p.f.n p.f.el])).sv∧(¬okP (pOf (SV.agg [SV.int IntKind.i64 p.k,SV.lst (4:Nat) p.f.n p.f.el]))→(0:Nat)=(whL p i true).length∧(1:Int)=whE p i true∧True)∧(¬¬okP (pOf (SV.agg [SV.int IntKind.i64 p.k,SV.lst (4:Nat) p.f.n p.f.el]))→(i<(0:Int)→(0:Nat)=(whL p i true).length∧(2:Int)=whE p i true∧True)∧(¬i<(0:Int)→(0:Nat)<(1:Nat)∧((↑p.f.1:Int)≤i→(0:Nat)=(whL p i true).length∧(2:Int)=whE p i true∧True)∧(¬(↑p.f.1:Int)≤i→(0:Nat)<(1:Nat)∧(∀ (i:Nat),i<p.f.1→True∧True∧True∧True∧True)∧SV.agg [SV.int IntKind.i64 p.k,SV.lst (4:Nat) p.f.n p.f.el]=(pOf (SV.agg [SV.int IntKind.i64 p.k,SV.lst
(4:Nat) p.f.n p.f.el])).sv∧(¬chE (pOf (SV.agg [SV.int IntKind.i64 p.k,SV.lst (4:Nat) p.f.n p.f.el]))=(0:Int)→(0:Nat)=(whL p i true).length∧chE (pOf (SV.agg [SV.int IntKind.i64 p.k,SV.lst (4:Nat) p.f.n p.f.el]))=whE p i true∧True)∧(¬¬chE (pOf (SV.agg [SV.int IntKind.i64 p.k,SV.lst (4:Nat) p.f.n p.f.el]))=(0:Int)→(0:Nat)<(1:Nat)∧(0:Nat)<(1:Nat)∧(∀ (i:Nat),i<p.f.1→True∧True∧True∧True∧True)∧SV.agg [SV.int IntKind.i64 p.k,SV.lst (4:Nat) p.f.n p.f.el]=(pOf (SV.agg [SV.int IntKind.i64 p.k,SV.lst (4:Nat) p.f.n p.f.el])).sv∧((0:Int)≤p.1∧p.1≤(8:Int))∧okF (pOf (SV.agg [SV.int IntKind.i64 p.k,SV.lst (4:Nat) p.f.n p.f.el])).f∧((0:Int)≤i∧i<(↑p.f.1:Int))∧∃ b,SV.agg [SV.val (Value.func (Fn.func ghi) #[] #[]),SV.val (Value.func (Fn.func glo) #[] #[]),SV.val (Value.func (Fn.func gmin) #[] #[])]
= endV b∧(0:Nat)<(1:Nat)∧(0:Nat)<(1:Nat)∧(0:Int)≤i∧i<(↑p.f.1:Int)∧(tgE b (pOf (SV.agg [SV.int IntKind.i64 p.k,SV.lst (4:Nat) p.f.n p.f.el])) i.toNat=p.f.5 i.toNat→(0:Nat)=(whL p i true).length∧(4:Int)=whE p i true∧True)∧(¬tgE b (pOf (SV.agg [SV.int IntKind.i64 p.k,SV.lst (4:Nat) p.f.n p.f.el])) i.toNat=p.f.5 i.toNat→(0:Nat)<(1:Nat)∧(0:Nat)<(1:Nat)∧(∀ (i:Nat),i<p.f.1→True∧True∧True∧True∧True)∧SV.agg [SV.int IntKind.i64 p.k,SV.lst (4:Nat) p.f.n p.f.el]=(pOf (SV.agg [SV.int IntKind.i64 p.k,SV.lst (4:Nat) p.f.n p.f.el])).sv∧((0:Int)≤p.1∧p.1≤(8:Int))∧okF (pOf (SV.agg [SV.int IntKind.i64 p.k,SV.lst (4:Nat) p.f.n p.f.el])).f∧((0:Int)≤i∧i<(↑p.f.1:Int))∧∃ b_1,SV.agg [SV.val (Value.func (Fn.func ghi) #[] #[]),SV.val (Value.func (Fn.func glo) #[] #[]),SV.val
(Value.func (Fn.func gmin) #[] #[])]=endV b_1∧(∃ z,(z≤(8:Nat)∧fl (fun x=>hb (prS true p i.toNat (tgE true p i.toNat)) (↑x:Int)) z=[])∧(↑(prS b_1 (pOf (SV.agg [SV.int IntKind.i64 p.k,SV.lst (4:Nat) p.f.n p.f.el])) i.toNat (tgE b (pOf (SV.agg [SV.int IntKind.i64 p.k,SV.lst (4:Nat) p.f.n p.f.el])) i.toNat)):Int)=(↑(prS true p i.toNat (tgE true p i.toNat)):Int)∧rE (Value.slice none (0:Nat) (0:Nat))∧(0:Int)=(↑z:Int)∧p.1=p.1∧rE p.f.1∧(∀ (i:Nat),i<p.f.1→rE ((p.f.el i).den)∧True∧True∧True∧True∧True)∧rE (Value.func (Fn.func ghi) #[] #[])∧rE (Value.func (Fn.func glo) #[] #[])∧rE (Value.func (Fn.func gmin) #[] #[])∧True)∧(∀ (z:Nat),z≤(8:Nat)∧fl (fun x=>hb (prS true p i.toNat (tgE true p i.toNat)) (↑x:Int)) z=[]→((↑z:Int)<(8:Int)→(((0:Int)≤(↑(prS true p i.toNat (tgE true p i.toNat)):Int) ∧
(↑(prS true p i.toNat (tgE true p i.toNat)):Int)≤(1000:Int))∧(0:Int)≤(↑z:Int)∧(↑z:Int)<(64:Int))∧(hb (↑(prS true p i.toNat (tgE true p i.toNat)):Int).toNat (↑z:Int)=true→True∧(∀ (i:Nat),i<(1:Nat)→rE true)∧(1:Nat)*(8:Nat)≤(140737488355328:Nat)∧(1:Nat)≤(4611686018427387904:Nat)∧rI ((↑z:Int)+(1:Int))∧∃ z_1,z_1≤(8:Nat)∧(8:Nat) - z_1<(8:Nat) - z∧rE (↑(prS true p i.toNat (tgE true p i.toNat)):Int)∧rE (0:Nat)∧(1:Nat)=(fl (fun x=>hb (prS true p i.toNat (tgE true p i.toNat)) (↑x:Int)) z_1).length∧(↑z:Int)+(1:Int)=(↑z_1:Int)∧p.1=p.1∧rE p.f.1∧(∀ (i:Nat),i<p.f.1→rE ((p.f.el i).den)∧True∧True∧True∧True∧True)∧rE (Value.func (Fn.func ghi) #[] #[])∧rE (Value.func (Fn.func glo) #[] #[])∧rE (Value.func (Fn.func gmin) #[] #[])∧(fl (fun x=>hb (prS true p
i.toNat (tgE true p i.toNat)) (↑x:Int)) z_1).length=(1:Nat)∧(∀ (i_1:Nat),i_1<(fl (fun x=>hb (prS true p i.toNat (tgE true p i.toNat)) (↑x:Int)) z_1).length→rE (1:Nat)∧(↑z:Int)=(↑((fl (fun x=>hb (prS true p i.toNat (tgE true p i.toNat)) (↑x:Int)) z_1).getD i_1 (0:Nat)):Int)∧True)∧True)∧(¬hb (↑(prS true p i.toNat (tgE true p i.toNat)):Int).toNat (↑z:Int)=true→rI ((↑z:Int)+(1:Int))∧∃ z_1,(z_1≤(8:Nat)∧fl (fun x=>hb (prS true p i.toNat (tgE true p i.toNat)) (↑x:Int)) z_1=[])∧(8:Nat) - z_1<(8:Nat) - z∧rE (↑(prS true p i.toNat (tgE true p i.toNat)):Int)∧rE (Value.slice none (0:Nat) (0:Nat))∧(↑z:Int)+(1:Int)=(↑z_1:Int)∧p.1=p.1∧rE p.f.1∧(∀ (i:Nat),i<p.f.1→rE ((p.f.el i).den)∧True∧True∧True∧True∧True)∧rE (Value.func (Fn.func ghi) #[] #[])∧rE (Value.func (Fn.func glo)
#[] #[])∧rE (Value.func (Fn.func gmin) #[] #[])∧True))∧(¬(↑z:Int)<(8:Int)→(0:Nat)=(whL p i true).length∧(0:Int)=whE p i true∧True))∧∀ (z:Nat),z≤(8:Nat)→((↑z:Int)<(8:Int)→(((0:Int)≤(↑(prS true p i.toNat (tgE true p i.toNat)):Int)∧(↑(prS true p i.toNat (tgE true p i.toNat)):Int)≤(1000:Int))∧(0:Int)≤(↑z:Int)∧(↑z:Int)<(64:Int))∧(hb (↑(prS true p i.toNat (tgE true p i.toNat)):Int).toNat (↑z:Int)=true→True∧(∀ (i:Nat),i<(1:Nat)→rE true)∧rE (0:Nat)∧rE ((fl (fun x=>hb (prS true p i.toNat (tgE true p i.toNat)) (↑x:Int)) z).length)∧(∀ (i:Nat),rE true)∧((fl (fun x=>hb (prS true p i.toNat (tgE true p i.toNat)) (↑x:Int)) z).length+(1:Nat))*(8:Nat)≤(140737488355328:Nat)∧(fl (fun x=>hb (prS true p i.toNat (tgE true p i.toNat)) (↑x:Int)) z).length+(1:Nat) ≤
(4611686018427387904:Nat)∧rI ((↑z:Int)+(1:Int))∧∃ z_1,z_1≤(8:Nat)∧(8:Nat) - z_1<(8:Nat) - z∧rE (↑(prS true p i.toNat (tgE true p i.toNat)):Int)∧rE (0:Nat)∧(fl (fun x=>hb (prS true p i.toNat (tgE true p i.toNat)) (↑x:Int)) z).length+(1:Nat)=(fl (fun x=>hb (prS true p i.toNat (tgE true p i.toNat)) (↑x:Int)) z_1).length∧(↑z:Int)+(1:Int)=(↑z_1:Int)∧p.1=p.1∧rE p.f.1∧(∀ (i:Nat),i<p.f.1→rE ((p.f.el i).den)∧True∧True∧True∧True∧True)∧rE (Value.func (Fn.func ghi) #[] #[])∧rE (Value.func (Fn.func glo) #[] #[])∧rE (Value.func (Fn.func gmin) #[] #[])∧(fl (fun x=>hb (prS true p i.toNat (tgE true p i.toNat)) (↑x:Int)) z_1).length=(fl (fun x=>hb (prS true p i.toNat (tgE true p i.toNat)) (↑x:Int)) z).length+(1:Nat)∧(∀ (i_1:Nat),i_1<(fl (fun x=>hb (prS true p i.toNat (tgE true p i.toNat))
(↑x:Int)) z_1).length→rE (1:Nat)∧(if i_1<(fl (fun x=>hb (prS true p i.toNat (tgE true p i.toNat)) (↑x:Int)) z).length then (↑((fl (fun x=>hb (prS true p i.toNat (tgE true p i.toNat)) (↑x:Int)) z).getD i_1 (0:Nat)):Int) else (↑z:Int))=(↑((fl (fun x=>hb (prS true p i.toNat (tgE true p i.toNat)) (↑x:Int)) z_1).getD i_1 (0:Nat)):Int)∧True)∧True)∧(¬hb (↑(prS true p i.toNat (tgE true p i.toNat)):Int).toNat (↑z:Int)=true→rI ((↑z:Int)+(1:Int))∧∃ z_1,z_1≤(8:Nat)∧(8:Nat) - z_1<(8:Nat) - z∧rE (↑(prS true p i.toNat (tgE true p i.toNat)):Int)∧rE (0:Nat)∧(fl (fun x=>hb (prS true p i.toNat (tgE true p i.toNat)) (↑x:Int)) z).length=(fl (fun x=>hb (prS true p i.toNat (tgE true p i.toNat)) (↑x:Int)) z_1).length∧(↑z:Int)+(1:Int)=(↑z_1:Int)∧p.1=p.1∧rE p.f.1∧(∀ (i:Nat),i<p.f.1→rE ((p.f.el
i).den)∧True∧True∧True∧True∧True)∧rE (Value.func (Fn.func ghi) #[] #[])∧rE (Value.func (Fn.func glo) #[] #[])∧rE (Value.func (Fn.func gmin) #[] #[])∧(fl (fun x=>hb (prS true p i.toNat (tgE true p i.toNat)) (↑x:Int)) z_1).length=(fl (fun x=>hb (prS true p i.toNat (tgE true p i.toNat)) (↑x:Int)) z).length∧(∀ (i_1:Nat),i_1<(fl (fun x=>hb (prS true p i.toNat (tgE true p i.toNat)) (↑x:Int)) z_1).length→rE (1:Nat)∧(↑((fl (fun x=>hb (prS true p i.toNat (tgE true p i.toNat)) (↑x:Int)) z).getD i_1 (0:Nat)):Int)=(↑((fl (fun x=>hb (prS true p i.toNat (tgE true p i.toNat)) (↑x:Int)) z_1).getD i_1 (0:Nat)):Int)∧True)∧True))∧(¬(↑z:Int)<(8:Int)→(fl (fun x=>hb (prS true p i.toNat (tgE true p i.toNat)) (↑x:Int)) z).length=(whL p i true).length∧(0:Nat)+(whL p i true).length≤(fl (fun x=>hb (prS true p i.toNat (tgE
true p i.toNat)) (↑x:Int)) z).length∧(∀ (i_1:Nat),i_1<(whL p i true).length→rE (1:Nat)∧rE (1:Nat)∧(↑((fl (fun x=>hb (prS true p i.toNat (tgE true p i.toNat)) (↑x:Int)) z).getD (i_1+(0:Nat)) (0:Nat)):Int)=(↑((whL p i true).getD i_1 (0:Nat)):Int)∧True)∧(0:Int)=whE p i true∧True))))))):=by kernel_rfl
theorem wroG_vc (p:Pl):wroG p =
((0:Nat)<(1:Nat)∧(∀ (i:Nat),i<p.f.1→True∧True∧True∧True∧True)∧SV.agg [SV.int IntKind.i64 p.k,SV.lst (4:Nat) p.f.n p.f.el]=(pOf (SV.agg [SV.int IntKind.i64 p.k,SV.lst (4:Nat) p.f.n p.f.el])).sv∧(¬okP (pOf (SV.agg [SV.int IntKind.i64 p.k,SV.lst (4:Nat) p.f.n p.f.el]))→(0:Nat)=(wrL p).length∧(1:Int)=wrE p∧True)∧(¬¬okP (pOf (SV.agg [SV.int IntKind.i64 p.k,SV.lst (4:Nat) p.f.n p.f.el]))→(0:Nat)<(1:Nat)∧(∀ (i:Nat),i<p.f.1→True∧True∧True∧True∧True)∧SV.agg [SV.int IntKind.i64 p.k,SV.lst (4:Nat) p.f.n p.f.el]=(pOf (SV.agg [SV.int IntKind.i64 p.k,SV.lst (4:Nat) p.f.n p.f.el])).sv∧((0:Int)≤p.1∧p.1≤(8:Int))∧okF (pOf (SV.agg [SV.int IntKind.i64 p.k,SV.lst (4:Nat) p.f.n p.f.el])).f∧(¬cEx (pOf (SV.agg [SV.int IntKind.i64 p.k,SV.lst (4:Nat) p.f.n p.f.el]))=true→(0:Nat)=(wrL p).length
∧ (4:Int)=wrE p∧True)∧(¬¬cEx (pOf (SV.agg [SV.int IntKind.i64 p.k,SV.lst (4:Nat) p.f.n p.f.el]))=true→(∃ z,(z≤(8:Nat)∧fl (fun x=>hb (cFs p) (↑x:Int)) z=[])∧(↑(cFs (pOf (SV.agg [SV.int IntKind.i64 p.k,SV.lst (4:Nat) p.f.n p.f.el]))):Int)=(↑(cFs p):Int)∧rE (Value.slice none (0:Nat) (0:Nat))∧(0:Int)=(↑z:Int)∧p.1=p.1∧rE p.f.1∧(∀ (i:Nat),i<p.f.1→rE ((p.f.el i).den)∧True∧True∧True∧True∧True)∧True)∧(∀ (z:Nat),z≤(8:Nat)∧fl (fun x=>hb (cFs p) (↑x:Int)) z=[]→((↑z:Int)<(8:Int)→(((0:Int)≤(↑(cFs p):Int)∧(↑(cFs p):Int)≤(1000:Int))∧(0:Int)≤(↑z:Int)∧(↑z:Int)<(64:Int))∧(hb (↑(cFs p):Int).toNat (↑z:Int)=true→True∧(∀ (i:Nat),i<(1:Nat)→rE true)∧(1:Nat)*(8:Nat)≤(140737488355328:Nat)∧(1:Nat)≤(4611686018427387904:Nat)∧rI ((↑z:Int)
+ (1:Int))∧∃ z_1,z_1≤(8:Nat)∧(8:Nat) - z_1<(8:Nat) - z∧rE (↑(cFs p):Int)∧rE (0:Nat)∧(1:Nat)=(fl (fun x=>hb (cFs p) (↑x:Int)) z_1).length∧(↑z:Int)+(1:Int)=(↑z_1:Int)∧p.1=p.1∧rE p.f.1∧(∀ (i:Nat),i<p.f.1→rE ((p.f.el i).den)∧True∧True∧True∧True∧True)∧(fl (fun x=>hb (cFs p) (↑x:Int)) z_1).length=(1:Nat)∧(∀ (i:Nat),i<(fl (fun x=>hb (cFs p) (↑x:Int)) z_1).length→rE (1:Nat)∧(↑z:Int)=(↑((fl (fun x=>hb (cFs p) (↑x:Int)) z_1).getD i (0:Nat)):Int)∧True)∧True)∧(¬hb (↑(cFs p):Int).toNat (↑z:Int)=true→rI ((↑z:Int)+(1:Int))∧∃ z_1,(z_1≤(8:Nat)∧fl (fun x=>hb (cFs p) (↑x:Int)) z_1=[])∧(8:Nat) - z_1<(8:Nat) - z∧rE (↑(cFs p):Int)∧rE (Value.slice none (0:Nat) (0:Nat))∧(↑z:Int)+(1:Int)=(↑z_1:Int)∧p.1=p.1∧rE p.f.1∧(∀ (i:Nat),i
< p.f.1→rE ((p.f.el i).den)∧True∧True∧True∧True∧True)∧True))∧(¬(↑z:Int)<(8:Int)→(0:Nat)=(wrL p).length∧(0:Int)=wrE p∧True))∧∀ (z:Nat),z≤(8:Nat)→((↑z:Int)<(8:Int)→(((0:Int)≤(↑(cFs p):Int)∧(↑(cFs p):Int)≤(1000:Int))∧(0:Int)≤(↑z:Int)∧(↑z:Int)<(64:Int))∧(hb (↑(cFs p):Int).toNat (↑z:Int)=true→True∧(∀ (i:Nat),i<(1:Nat)→rE true)∧rE (0:Nat)∧rE ((fl (fun x=>hb (cFs p) (↑x:Int)) z).length)∧(∀ (i:Nat),rE true)∧((fl (fun x=>hb (cFs p) (↑x:Int)) z).length+(1:Nat))*(8:Nat)≤(140737488355328:Nat)∧(fl (fun x=>hb (cFs p) (↑x:Int)) z).length+(1:Nat)≤(4611686018427387904:Nat)∧rI ((↑z:Int)+(1:Int))∧∃ z_1,z_1≤(8:Nat)∧(8:Nat) - z_1<(8:Nat) - z∧rE (↑(cFs p):Int)∧rE (0:Nat)∧(fl (fun x=>hb (cFs p) (↑x:Int)) z).length+(1 :
Nat)=(fl (fun x=>hb (cFs p) (↑x:Int)) z_1).length∧(↑z:Int)+(1:Int)=(↑z_1:Int)∧p.1=p.1∧rE p.f.1∧(∀ (i:Nat),i<p.f.1→rE ((p.f.el i).den)∧True∧True∧True∧True∧True)∧(fl (fun x=>hb (cFs p) (↑x:Int)) z_1).length=(fl (fun x=>hb (cFs p) (↑x:Int)) z).length+(1:Nat)∧(∀ (i:Nat),i<(fl (fun x=>hb (cFs p) (↑x:Int)) z_1).length→rE (1:Nat)∧(if i<(fl (fun x=>hb (cFs p) (↑x:Int)) z).length then (↑((fl (fun x=>hb (cFs p) (↑x:Int)) z).getD i (0:Nat)):Int) else (↑z:Int))=(↑((fl (fun x=>hb (cFs p) (↑x:Int)) z_1).getD i (0:Nat)):Int)∧True)∧True)∧(¬hb (↑(cFs p):Int).toNat (↑z:Int)=true→rI ((↑z:Int)+(1:Int))∧∃ z_1,z_1≤(8:Nat)∧(8:Nat) - z_1<(8:Nat) - z∧rE (↑(cFs p):Int)∧rE (0:Nat)∧(fl (fun x=>hb (cFs p) (↑x:Int)) z).length=(fl (fun x=>hb (cFs p) (↑x:Int))
z_1).length∧(↑z:Int)+(1:Int)=(↑z_1:Int)∧p.1=p.1∧rE p.f.1∧(∀ (i:Nat),i<p.f.1→rE ((p.f.el i).den)∧True∧True∧True∧True∧True)∧(fl (fun x=>hb (cFs p) (↑x:Int)) z_1).length=(fl (fun x=>hb (cFs p) (↑x:Int)) z).length∧(∀ (i:Nat),i<(fl (fun x=>hb (cFs p) (↑x:Int)) z_1).length→rE (1:Nat)∧(↑((fl (fun x=>hb (cFs p) (↑x:Int)) z).getD i (0:Nat)):Int)=(↑((fl (fun x=>hb (cFs p) (↑x:Int)) z_1).getD i (0:Nat)):Int)∧True)∧True))∧(¬(↑z:Int)<(8:Int)→(fl (fun x=>hb (cFs p) (↑x:Int)) z).length=(wrL p).length∧(0:Nat)+(wrL p).length≤(fl (fun x=>hb (cFs p) (↑x:Int)) z).length∧(∀ (i:Nat),i<(wrL p).length→rE (1:Nat)∧rE (1:Nat)∧(↑((fl (fun x=>hb (cFs p) (↑x:Int)) z).getD (i+(0:Nat)) (0:Nat)):Int)=(↑((wrL p).getD i (0:Nat)):Int)∧True)∧(0:Int)=wrE p∧True)))):=by kernel_rfl
end Go.Proofs.Ytmjbflifegmmnaa

set_option maxRecDepth 100000
namespace Go.Proofs.Ytmjbflifegmmnaa
open Go Go.Lg
attribute [local irreducible] funS bodyH
theorem ff1 (f:Fl):fOf (SV.lst 4 f.n f.el)=f:=rfl
theorem ff2 (p:Pl):pOf (SV.agg [SV.int .i64 p.k,SV.lst 4 p.f.n p.f.el])=p:=rfl
theorem bou_true {p:Pl} {i s:Nat} (hs:s≤1000) (hf:okF p.f) (hi:i<p.f.n) (b:Bool):bouG b p i s:=by
 have hn:=hf.n
 have L:∀ q:Nat→Bool,-2147483648*(p.f.n:Int)≤sm q p.f.lo p.f.n∧sm q p.f.lo p.f.n≤2147483648*(p.f.n:Int):=fun q=>sm_le hf.lo _ (Nat.le_refl _)
 have H:∀ q:Nat→Bool,-2147483648*(p.f.n:Int)≤sm q p.f.hi p.f.n∧sm q p.f.hi p.f.n≤2147483648*(p.f.n:Int):=fun q=>sm_le hf.hi _ (Nat.le_refl _)
 have l1:=L (tkB p.f s)
 have l2:=L (gvB p.f s)
 have h1:=H (tkB p.f s)
 have h2:=H (gvB p.f s)
 have gl:=hf.lo i hi
 have gh:=hf.hi i hi
 have e1:IL p.f s=sm (tkB p.f s) p.f.lo p.f.n:=rfl
 have e2:IH p.f s=sm (tkB p.f s) p.f.hi p.f.n:=rfl
 have e3:OL p.f s=sm (gvB p.f s) p.f.lo p.f.n:=rfl
 have e4:OH p.f s=sm (gvB p.f s) p.f.hi p.f.n:=rfl
 cases b
 ·show bouf p i s
  rw [bouf_vc]
  simp only [rI,rE,tt3,tt4,tt5,tt13,tt14,and_true,true_and,Nat.zero_lt_one,and_self,implies_true,Int.toNat_natCast,ff1]
  exact ⟨rfl,by omega,hf,by omega,by omega,by omega,by omega,rfl⟩
 ·show bout p i s
  rw [bout_vc]
  simp only [rI,rE,tt3,tt4,tt5,tt13,tt14,and_true,true_and,Nat.zero_lt_one,and_self,implies_true,Int.toNat_natCast,ff1]
  exact ⟨rfl,by omega,hf,by omega,by omega,by omega,by omega,rfl⟩
theorem shP_pw {z:Int}:shP z=(pwk z:Int):=by unfold shP pwk; simp
theorem pwk_le {z:Int} (h:z≤8):pwk z≤256:=by
 have:pwk z≤2 ^ 8:=Nat.pow_le_pow_right (by omega) (by omega)
 exact this
theorem seI_true {z:Int} (hz:0≤z∧z≤8):seIG z:=by
 rw [seIG_vc]
 have hp:=pwk_le hz.2
 simp only [rI,rE,tt3,tt4,tt5,tt13,tt14,and_true,true_and,Nat.zero_lt_one,and_self,implies_true,Int.toNat_natCast,Int.one_mul,shP_pw]
 exact ⟨⟨0,by omega,rfl,rfl⟩,fun j hj=>⟨by omega,by omega,fun hl=>⟨by omega,by omega,j+1,by omega,by omega,rfl,by omega⟩,fun hl=>by omega⟩⟩
theorem tig_true {p:Pl} {i:Nat} (hk:0≤p.k∧p.k≤8) (hf:okF p.f) (hi:i<p.f.n) (b:Bool):tigG b p i:=by
 have hp:=pwk_le hk.2
 have q1:=hf.fr i hi
 have q2:=hf.to i hi
 cases b
 ·show tigf p i
  rw [tigf_vc]
  simp only [rI,rE,tt3,tt4,tt5,tt13,tt14,and_true,true_and,Nat.zero_lt_one,and_self,implies_true,Int.toNat_natCast,ff1,ff2,band_rec]
  refine ⟨by omega,by omega,hk,⟨0,rfl,rfl⟩,fun j hj z hz=>?_,fun z hz=>by rw [hz]; rfl⟩
  subst hz
  refine ⟨⟨by omega,q1,q2⟩,fun ht=>⟨rfl,by omega,hf,by omega,false,rfl,z+1,rfl,?_⟩,fun ht=>⟨z+1,rfl,?_⟩⟩
  ·have ht:tkB p.f z i=true:=ht
   simp [tgt,ht]
  ·have ht:tkB p.f z i=false:=by simpa [tkB] using ht
   simp [tgt,ht]
 ·show tigt p i
  rw [tigt_vc]
  simp only [rI,rE,tt3,tt4,tt5,tt13,tt14,and_true,true_and,Nat.zero_lt_one,and_self,implies_true,Int.toNat_natCast,ff1,ff2,band_rec]
  refine ⟨by omega,by omega,hk,⟨0,rfl,rfl⟩,fun j hj z hz=>?_,fun z hz=>by rw [hz]; rfl⟩
  subst hz
  refine ⟨⟨by omega,q1,q2⟩,fun ht=>⟨rfl,by omega,hf,by omega,true,rfl,z+1,rfl,?_⟩,fun ht=>⟨z+1,rfl,?_⟩⟩
  ·have ht:tkB p.f z i=true:=ht
   simp [tgt,ht]
  ·have ht:tkB p.f z i=false:=by simpa [tkB] using ht
   simp [tgt,ht]
theorem fst_spec (P:Nat→Bool):∀ n:Nat,fstN P n≤n∧(∀ s,s<fstN P n→P s=false)∧(fstN P n<n→P (fstN P n)=true)
 | 0=>⟨Nat.le_refl _,fun s hs=>by simp [fstN] at hs,fun h=>by simp [fstN] at h⟩
 | n+1=>by
  obtain ⟨h1,h2,h3⟩:=fst_spec P n
  by_cases e:fstN P n=n
  ·cases hp:P n
   ·have e2:fstN P (n+1)=n+1:=by rw [fstN,if_pos e,hp]; rfl
    rw [e2]
    refine ⟨Nat.le_refl _,fun s hs=>?_,fun h=>by omega⟩
    by_cases es:s=n
    ·subst es; exact hp
    ·exact h2 s (by omega)
   ·have e2:fstN P (n+1)=n:=by rw [fstN,if_pos e,hp]; rfl
    rw [e2]
    exact ⟨by omega,fun s hs=>h2 s (by omega),fun _=>hp⟩
  ·have e2:fstN P (n+1)=fstN P n:=by rw [fstN,if_neg e]
   rw [e2]
   exact ⟨by omega,h2,fun _=>h3 (by omega)⟩
theorem fst_at {P:Nat→Bool} {j n:Nat} (hj:j<n) (h:∀ s,s<j→P s=false) (hp:P j=true):fstN P n=j:=by
 obtain ⟨h1,h2,h3⟩:=fst_spec P n
 have a:fstN P n≤j:=by
  apply Classical.byContradiction
  intro hx
  have:=h2 j (by omega)
  rw [hp] at this; cases this
 have b:j≤fstN P n:=by
  apply Classical.byContradiction
  intro hx
  have:=h3 (by omega)
  rw [h _ (by omega)] at this; cases this
 omega
theorem fst_no {P:Nat→Bool} {n:Nat} (h:∀ s,s<n→P s=false):fstN P n=n:=by
 obtain ⟨h1,h2,h3⟩:=fst_spec P n
 apply Classical.byContradiction
 intro hx
 have:=h3 (by omega)
 rw [h _ (by omega)] at this; cases this
theorem con_true {p:Pl} (hk:0≤p.k∧p.k≤8) (hf:okF p.f):conG p:=by
 have hp:=pwk_le hk.2
 rw [conG_vc]
 simp only [rI,rE,tt3,tt4,tt5,tt13,tt14,and_true,true_and,Nat.zero_lt_one,and_self,implies_true,Int.toNat_natCast,ff1,ff2,band_rec,Bool.false_eq_true]
 refine ⟨hk,⟨0,rfl,fun s hs=>by omega⟩,fun j hj z hz=>?_,fun z hz=>?_⟩
 ·obtain ⟨hz,hb⟩:=hz
  subst hz
  refine ⟨rfl,by omega,hf,fun h=>?_,fun h=>⟨z+1,rfl,fun s hs=>?_⟩⟩
  ·have e:=fst_at hj hb (bad_t.2 h)
   have ex:cEx p=true:=by unfold cEx; rw [decide_eq_true_eq]; omega
   refine ⟨?_,by simp [ex]⟩
   unfold cFs
   rw [ex,e]; rfl
  ·by_cases es:s=z
   ·subst es; exact bad_f.2 (by omega)
   ·exact hb s (by omega)
 ·have e:=fst_no hz.2
  have ex:cEx p=false:=by unfold cEx; rw [decide_eq_false_iff_not]; omega
  refine ⟨?_,by simp [ex]⟩
  unfold cFs
  rw [ex]; rfl
theorem pro_true {p:Pl} {i:Nat} {t:Int} (hk:0≤p.k∧p.k≤8) (hf:okF p.f) (hi:i<p.f.n) (b:Bool):proG b p i t:=by
 have hp:=pwk_le hk.2
 have q1:=hf.fr i hi
 have q2:=hf.to i hi
 have N:∀ {P:Nat→Bool} {j:Nat},(∀ s,s<j→P s=false)→P j=false→∀ s,s<j+1→P s=false:=fun {P j} h h2 s hs=>by
  by_cases es:s=j
  ·subst es; exact h2
  ·exact h s (by omega)
 cases b
 ·show prof p i t
  rw [prof_vc]
  simp only [rI,rE,tt3,tt4,tt5,tt13,tt14,and_true,true_and,Nat.zero_lt_one,and_self,implies_true,Int.toNat_natCast,ff1,ff2,band_rec]
  refine ⟨hk,⟨0,rfl,fun s hs=>by omega⟩,fun j hj z hz=>?_,fun z hz=>?_⟩
  ·obtain ⟨hz,hb⟩:=hz
   subst hz
   refine ⟨by omega,by omega,⟨by omega,q1,q2⟩,fun h=>⟨z+1,rfl,N hb ?_⟩,fun h=>⟨rfl,by omega,hf,by omega,false,rfl,fun h2=>?_,fun h2=>⟨z+1,rfl,N hb ?_⟩⟩⟩
   ·have:tkB p.f z i=false:=by simpa [tkB] using h
    simp [prP,this]
   ·have h:tkB p.f z i=true:=Classical.not_not.1 h
    have e:=fst_at (P:=prP false p.f i t) hj hb (by simp [prP,h,h2])
    unfold prS
    rw [if_pos (by omega),e]
   ·simp [prP,h2]
  ·have e:=fst_no hz.2
   unfold prS
   rw [if_neg (by omega)]; rfl
 ·show prot p i t
  rw [prot_vc]
  simp only [rI,rE,tt3,tt4,tt5,tt13,tt14,and_true,true_and,Nat.zero_lt_one,and_self,implies_true,Int.toNat_natCast,ff1,ff2,band_rec]
  refine ⟨hk,⟨0,rfl,fun s hs=>by omega⟩,fun j hj z hz=>?_,fun z hz=>?_⟩
  ·obtain ⟨hz,hb⟩:=hz
   subst hz
   refine ⟨by omega,by omega,⟨by omega,q1,q2⟩,fun h=>⟨z+1,rfl,N hb ?_⟩,fun h=>⟨rfl,by omega,hf,by omega,true,rfl,fun h2=>?_,fun h2=>⟨z+1,rfl,N hb ?_⟩⟩⟩
   ·have:tkB p.f z i=false:=by simpa [tkB] using h
    simp [prP,this]
   ·have h:tkB p.f z i=true:=Classical.not_not.1 h
    have e:=fst_at (P:=prP true p.f i t) hj hb (by simp [prP,h,h2])
    unfold prS
    rw [if_pos (by omega),e]
   ·simp [prP,h2]
  ·have e:=fst_no hz.2
   unfold prS
   rw [if_neg (by omega)]; rfl
section
variable {p:Nat→Bool}
theorem fl_y {z:Nat} (h:p z=true):fl p (z+1)=fl p z ++ [z]:=by
 unfold fl
 rw [List.range_succ,List.filter_append]
 simp [h]
theorem fl_n {z:Nat} (h:¬ p z=true):fl p (z+1)=fl p z:=by
 unfold fl
 rw [List.range_succ,List.filter_append]
 simp [h]
theorem fl_le (k:Nat):(fl p k).length≤k:=by
 have:=List.length_filter_le p (List.range k)
 rw [List.length_range] at this
 exact this
theorem fl_one {z:Nat} (h:p z=true) (h0:fl p z=[]):(fl p (z+1)).length=1∧∀ i,i<(fl p (z+1)).length→(z:Int)=((fl p (z+1)).getD i 0:Nat):=by
 rw [fl_y h,h0]
 refine ⟨rfl,fun i hi=>?_⟩
 have:i=0:=by simp at hi; omega
 subst this
 rfl
theorem fl_len {z:Nat} (h:p z=true):(fl p (z+1)).length=(fl p z).length+1:=by rw [fl_y h,List.length_append]; rfl
theorem fl_get {z:Nat} (h:p z=true):∀ i,i<(fl p (z+1)).length→(if i<(fl p z).length then ((fl p z).getD i 0:Int) else (z:Int))=((fl p (z+1)).getD i 0:Nat):=by
 intro i hi
 rw [fl_len h] at hi
 rw [fl_y h]
 by_cases e:i<(fl p z).length
 ·rw [if_pos e]
  simp [List.getD,List.getElem?_append_left e]
 ·have:i=(fl p z).length:=by omega
  subst this
  rw [if_neg (Nat.lt_irrefl _)]
  simp [List.getD]
end
theorem isP_true (n k:Int):isPG n k:=by
 rw [isPG_vc]
 simp only [and_true,true_and,Bool.false_eq_true]
 exact ⟨fun h=>⟨fun x=>⟨h,x⟩,fun x=>x.2⟩,fun h=>⟨False.elim,fun x=>h x.1⟩⟩
theorem vGa_true (a b:Int):vGaG a b:=by
 rw [vGaG_vc]
 simp only [and_true,true_and,Bool.false_eq_true,Nat.zero_lt_one]
 exact ⟨fun h=>⟨fun h2=>⟨fun x=>⟨h,h2,x⟩,fun x=>x.2.2⟩,fun h2=>⟨False.elim,fun x=>h2 x.2.1⟩⟩,fun h=>⟨False.elim,fun x=>h x.1⟩⟩
theorem okFl_of {p:Pl} (h:okP p) {i:Nat} (hi:i<p.f.n):okFl p i:=⟨h.fr i hi,h.to i hi,h.ne i hi,h.gas i hi⟩
theorem val_true (p:Pl):valG p:=by
 rw [valG_vc]
 simp only [rI,rE,tt3,tt4,tt5,tt13,tt14,and_true,true_and,Nat.zero_lt_one,and_self,implies_true,Int.toNat_natCast,Bool.false_eq_true,false_iff]
 refine ⟨fun h o=>by have:=o.k; omega,fun h=>⟨fun h o=>by have:=o.k; omega,fun h=>⟨fun h o=>by have:=o.n; omega,fun h=>⟨⟨0,⟨by omega,⟨by omega,by omega,by omega⟩,fun j hj=>by omega⟩,rfl⟩,fun z hz=>?_⟩⟩⟩⟩
 obtain ⟨hz,hk,hj⟩:=hz
 refine ⟨fun hl=>⟨by omega,by omega,fun h o=>h (okFl_of o (by omega)).fr,fun h1=>⟨fun h o=>h (okFl_of o (by omega)).to,fun h2=>⟨fun h o=>(okFl_of o (by omega)).ne h,fun h3=>⟨fun h o=>h (okFl_of o (by omega)).gas,fun h4=>⟨by omega,z+1,⟨by omega,hk,fun j hj'=>?_⟩,by omega,by omega⟩⟩⟩⟩⟩,fun hl=>?_⟩
 ·by_cases e:j=z
  ·subst e
   exact ⟨Classical.not_not.1 h1,Classical.not_not.1 h2,h3,Classical.not_not.1 h4⟩
  ·exact hj j (by omega)
 ·simp only [true_iff]
  exact ⟨by omega,by omega,fun i hi=>(hj i (by omega)).fr,fun i hi=>(hj i (by omega)).to,fun i hi=>(hj i (by omega)).ne,fun i hi=>(hj i (by omega)).gas⟩
theorem fix_true {p:Pl} {i:Nat} {x:Int} (hn:p.f.n≤16) (hi:i<p.f.n):fixG p i x:=by
 rw [fixG_vc]
 simp only [rI,rE,tt3,tt4,tt5,tt13,tt14,and_true,true_and,Nat.zero_lt_one,and_self,implies_true,Int.toNat_natCast,Nat.zero_add,Nat.add_zero,Nat.one_mul,Nat.mul_one]
 refine ⟨by omega,by omega,by omega,by omega,by omega,by omega,by omega,by omega,by omega,fun j hj=>⟨?_,?_⟩⟩ <;> split <;> rfl
end Go.Proofs.Ytmjbflifegmmnaa

set_option maxRecDepth 100000
namespace Go.Proofs.Ytmjbflifegmmnaa
open Go Go.Lg
attribute [local irreducible] funS bodyH
theorem psv (p:Pl):SV.agg [SV.int .i64 p.k,SV.lst 4 p.f.n p.f.el]=p.sv:=rfl
theorem ok_k {p:Pl} (h:okP p):0≤p.k∧p.k≤8:=by have:=h.k; omega
theorem ok_f {p:Pl} (h:okP p):okF p.f:=by
 have hk:=h.k
 refine ⟨by have:=h.n; omega,fun i hi=>?_,fun i hi=>?_,fun i hi=>?_,fun i hi=>?_⟩
 ·have:=h.fr i hi; omega
 ·have:=h.to i hi; omega
 ·have:=h.gas i hi; omega
 ·have:=h.gas i hi; omega
theorem cEx_hof {p:Pl}:cEx p=false↔Hof p:=by
 unfold cEx
 rw [decide_eq_false_iff_not]
 obtain ⟨h1,h2,h3⟩:=fst_spec (bad p.f) (pwk p.k)
 constructor
 ·intro h s hs
  exact h2 s (by omega)
 ·intro h
  have:=fst_no h
  omega
theorem cFs_lt {p:Pl}:cFs p<pwk p.k:=by
 unfold cFs
 cases h:cEx p
 ·exact pwk_pos _
 ·unfold cEx at h
  rw [decide_eq_true_eq] at h
  exact h
theorem prS_lt {b:Bool} {p:Pl} {i:Nat} {t:Int}:prS b p i t<pwk p.k:=by
 unfold prS
 split
 ·assumption
 ·exact pwk_pos _
theorem chE_0 {p:Pl} (h:chE p=0):okP p∧Hof p:=by
 unfold chE at h
 split at h
 ·rename_i hp
  refine ⟨hp,cEx_hof.1 ?_⟩
  cases hc:cEx p
  ·rfl
  ·rw [hc] at h; exact absurd h (by decide)
 ·exact absurd h (by decide)
theorem che_true (p:Pl):cheG p:=by
 rw [cheG_vc]
 simp only [and_true,true_and,Nat.zero_lt_one,and_self,implies_true,Classical.not_not,psv,p_fold,ff1,ff2]
 refine ⟨fun h=>by rw [chE,if_neg h],fun h=>⟨ok_k h,ok_f h,fun hc=>by rw [chE,if_pos h,hc]; rfl,fun hc=>?_⟩⟩
 have:cEx p=false:=by simpa using hc
 rw [chE,if_pos h,this]; rfl
theorem tru_true (p:Pl):truG p:=by
 rw [truG_vc]
 simp only [rI,rE,tt3,tt4,tt5,tt13,tt14,and_true,true_and,Nat.zero_lt_one,and_self,implies_true,Int.toNat_natCast,Nat.zero_add,Nat.add_zero,Nat.one_mul,Nat.mul_one,Classical.not_not,psv,p_fold,if_true]
 refine ⟨fun h=>by rw [okN,if_neg h],fun h=>?_⟩
 obtain ⟨hp,hh⟩:=chE_0 h
 have hn:=hp.n
 have hN:okN p=p.f.n:=by rw [okN,if_pos h]
 refine ⟨by omega,by omega,by omega,by omega,⟨0,⟨by omega,h⟩,rfl,rfl,fun i _=>rfl,fun i _=>by simp⟩,fun z hz=>⟨fun hl=>?_,fun hl=>?_⟩⟩
 ·obtain ⟨hz,_⟩:=hz
  obtain ⟨o1,o2⟩:=truF_ok hp hh z hz
  have en:=(truF_n p z).1
  have en2:=(truF_n p (z+1)).1
  have e2:pOf (SV.agg [SV.int .i64 p.k,SV.lst 4 (truF p z).n (truF p z).el])=⟨p.k,truF p z⟩:=rfl
  rw [e2]
  refine ⟨rfl,ok_k hp,ok_f o1,by rw [en]; omega,false,rfl,by omega,by omega,by omega,by omega,by omega,by omega,by omega,rfl,by rw [en]; omega,by omega,z+1,⟨by omega,h⟩,by omega,by omega,by rw [en,en2],fun i _=>rfl,fun i hi=>?_⟩
  by_cases e:i=z
  ·subst e
   rw [if_pos rfl,if_pos (by omega)]; rfl
  ·rw [if_neg e]
   by_cases l:i<z
   ·rw [if_pos l,if_pos (by omega)]
   ·rw [if_neg l,if_neg (by omega)]
 ·have ez:z=p.f.n:=by omega
  refine ⟨hN.symm,by omega,fun i hi=>?_,h.symm⟩
  rw [if_pos (by omega)]
theorem tgh_true (p:Pl):tghG p:=by
 rw [tghG_vc]
 simp only [rI,rE,tt3,tt4,tt5,tt13,tt14,and_true,true_and,Nat.zero_lt_one,and_self,implies_true,Int.toNat_natCast,Nat.zero_add,Nat.add_zero,Nat.one_mul,Nat.mul_one,Classical.not_not,psv,p_fold,ff2]
 refine ⟨fun h=>by rw [okN,if_neg h],fun h=>?_⟩
 obtain ⟨hp,hh⟩:=chE_0 h
 have hn:=hp.n
 have hN:okN p=p.f.n:=by rw [okN,if_pos h]
 refine ⟨by omega,by omega,by omega,by omega,⟨0,⟨by omega,h⟩,rfl,fun i _=>by simp⟩,fun z hz=>⟨fun hl=>?_,fun hl=>?_⟩⟩
 ·obtain ⟨hz,_⟩:=hz
  refine ⟨ok_k hp,ok_f hp,by omega,false,rfl,ok_k hp,ok_f hp,by omega,true,rfl,by omega,by omega,by omega,by omega,by omega,z+1,⟨by omega,h⟩,by omega,by omega,fun i hi=>?_⟩
  by_cases e:i=z
  ·subst e
   rw [if_pos rfl,if_pos rfl,if_pos (by omega),if_pos (by omega)]; exact ⟨rfl,rfl⟩
  ·rw [if_neg e,if_neg e]
   by_cases l:i<z
   ·rw [if_pos l,if_pos l,if_pos (by omega),if_pos (by omega)]; exact ⟨rfl,rfl⟩
   ·rw [if_neg l,if_neg l,if_neg (by omega),if_neg (by omega)]; exact ⟨rfl,rfl⟩
 ·have ez:z=p.f.n:=by omega
  refine ⟨hN.symm,by omega,fun i hi=>?_,h.symm⟩
  rw [if_pos (by omega),if_pos (by omega)]; exact ⟨rfl,rfl⟩
theorem why_f (p:Pl) (i:Int):whyf p i:=by
 rw [whyf_vc]
 simp only [rI,rE,tt3,tt4,tt5,tt13,tt14,and_true,true_and,Nat.zero_lt_one,and_self,implies_true,Int.toNat_natCast,Nat.zero_add,Nat.add_zero,Nat.one_mul,Nat.mul_one,Classical.not_not,psv,p_fold,ff2]
 have Z:∀ {e:Int},¬ e=0→whE p i false=e→0=(whL p i false).length∧e=whE p i false:=fun {e} h0 h=>⟨by rw [whL,if_neg (by omega)]; rfl,h.symm⟩
 refine ⟨fun h=>Z (by decide) (by rw [whE,if_neg h]),fun hp=>⟨fun h=>Z (by decide) (by rw [whE,if_pos hp,if_pos (.inl h)]),fun h1=>⟨fun h=>Z (by decide) (by rw [whE,if_pos hp,if_pos (.inr h)]),fun h2=>⟨fun h=>Z h (by rw [whE,if_pos hp,if_neg (by omega),if_neg h]),fun h=>?_⟩⟩⟩⟩
 have hE:whE p i false=if tgE false p i.toNat=own false p.f i.toNat then 4 else 0:=by rw [whE,if_pos hp,if_neg (by omega),if_pos h]
 have h8:=pwk_le (ok_k hp).2
 refine ⟨ok_k hp,ok_f hp,by omega,false,rfl,by omega,by omega,fun he=>Z (by decide) (hE.trans (if_pos he)),fun he=>?_⟩
 have hE:whE p i false=0:=hE.trans (if_neg he)
 have hL:whL p i false=plL (prS false p i.toNat (tgE false p i.toNat)):=by rw [whL,if_pos hE]
 have:=prS_lt (b:=false) (p:=p) (i:=i.toNat) (t:=tgE false p i.toNat)
 refine ⟨ok_k hp,ok_f hp,by omega,false,rfl,?_⟩
 refine ⟨⟨0,⟨by omega,rfl⟩,rfl,rfl⟩,fun z hz=>⟨fun hl=>⟨by omega,fun h=>?_,fun h=>⟨by omega,z+1,⟨by omega,by rw [fl_n (p:=fun x=>hb (prS false p i.toNat (tgE false p i.toNat)) (x:Int)) h,hz.2]⟩,by omega,by omega⟩⟩,fun hl=>?_⟩,fun z hz=>⟨fun hl=>⟨by omega,fun h=>?_,fun h=>?_⟩,fun hl=>?_⟩⟩
 ·obtain ⟨o1,o2⟩:=fl_one (p:=fun x=>hb (prS false p i.toNat (tgE false p i.toNat)) (x:Int)) h hz.2
  exact ⟨by omega,by omega,by omega,z+1,by omega,by omega,o1.symm,by omega,o1,o2⟩
 ·have:z=8:=by omega
  subst this
  refine ⟨?_,hE.symm⟩
  rw [hL]
  unfold plL
  rw [hz.2]; rfl
 ·have:=fl_le (p:=fun x=>hb (prS false p i.toNat (tgE false p i.toNat)) (x:Int)) z
  exact ⟨by omega,by omega,by omega,z+1,by omega,by omega,(fl_len (p:=fun x=>hb (prS false p i.toNat (tgE false p i.toNat)) (x:Int)) h).symm,by omega,fl_len (p:=fun x=>hb (prS false p i.toNat (tgE false p i.toNat)) (x:Int)) h,fl_get (p:=fun x=>hb (prS false p i.toNat (tgE false p i.toNat)) (x:Int)) h⟩
 ·exact ⟨by omega,z+1,by omega,by omega,by rw [fl_n (p:=fun x=>hb (prS false p i.toNat (tgE false p i.toNat)) (x:Int)) h],by omega,by rw [fl_n (p:=fun x=>hb (prS false p i.toNat (tgE false p i.toNat)) (x:Int)) h],by rw [fl_n (p:=fun x=>hb (prS false p i.toNat (tgE false p i.toNat)) (x:Int)) h]; exact fun i _=>rfl⟩
 ·have:z=8:=by omega
  subst this
  rw [hL]
  exact ⟨rfl,Nat.le_refl _,fun i _=>rfl,hE.symm⟩
theorem why_t (p:Pl) (i:Int):whyt p i:=by
 rw [whyt_vc]
 simp only [rI,rE,tt3,tt4,tt5,tt13,tt14,and_true,true_and,Nat.zero_lt_one,and_self,implies_true,Int.toNat_natCast,Nat.zero_add,Nat.add_zero,Nat.one_mul,Nat.mul_one,Classical.not_not,psv,p_fold,ff2]
 have Z:∀ {e:Int},¬ e=0→whE p i true=e→0=(whL p i true).length∧e=whE p i true:=fun {e} h0 h=>⟨by rw [whL,if_neg (by omega)]; rfl,h.symm⟩
 refine ⟨fun h=>Z (by decide) (by rw [whE,if_neg h]),fun hp=>⟨fun h=>Z (by decide) (by rw [whE,if_pos hp,if_pos (.inl h)]),fun h1=>⟨fun h=>Z (by decide) (by rw [whE,if_pos hp,if_pos (.inr h)]),fun h2=>⟨fun h=>Z h (by rw [whE,if_pos hp,if_neg (by omega),if_neg h]),fun h=>?_⟩⟩⟩⟩
 have hE:whE p i true=if tgE true p i.toNat=own true p.f i.toNat then 4 else 0:=by rw [whE,if_pos hp,if_neg (by omega),if_pos h]
 have h8:=pwk_le (ok_k hp).2
 refine ⟨ok_k hp,ok_f hp,by omega,true,rfl,by omega,by omega,fun he=>Z (by decide) (hE.trans (if_pos he)),fun he=>?_⟩
 have hE:whE p i true=0:=hE.trans (if_neg he)
 have hL:whL p i true=plL (prS true p i.toNat (tgE true p i.toNat)):=by rw [whL,if_pos hE]
 have:=prS_lt (b:=true) (p:=p) (i:=i.toNat) (t:=tgE true p i.toNat)
 refine ⟨ok_k hp,ok_f hp,by omega,true,rfl,?_⟩
 refine ⟨⟨0,⟨by omega,rfl⟩,rfl,rfl⟩,fun z hz=>⟨fun hl=>⟨by omega,fun h=>?_,fun h=>⟨by omega,z+1,⟨by omega,by rw [fl_n (p:=fun x=>hb (prS true p i.toNat (tgE true p i.toNat)) (x:Int)) h,hz.2]⟩,by omega,by omega⟩⟩,fun hl=>?_⟩,fun z hz=>⟨fun hl=>⟨by omega,fun h=>?_,fun h=>?_⟩,fun hl=>?_⟩⟩
 ·obtain ⟨o1,o2⟩:=fl_one (p:=fun x=>hb (prS true p i.toNat (tgE true p i.toNat)) (x:Int)) h hz.2
  exact ⟨by omega,by omega,by omega,z+1,by omega,by omega,o1.symm,by omega,o1,o2⟩
 ·have:z=8:=by omega
  subst this
  refine ⟨?_,hE.symm⟩
  rw [hL]
  unfold plL
  rw [hz.2]; rfl
 ·have:=fl_le (p:=fun x=>hb (prS true p i.toNat (tgE true p i.toNat)) (x:Int)) z
  exact ⟨by omega,by omega,by omega,z+1,by omega,by omega,(fl_len (p:=fun x=>hb (prS true p i.toNat (tgE true p i.toNat)) (x:Int)) h).symm,by omega,fl_len (p:=fun x=>hb (prS true p i.toNat (tgE true p i.toNat)) (x:Int)) h,fl_get (p:=fun x=>hb (prS true p i.toNat (tgE true p i.toNat)) (x:Int)) h⟩
 ·exact ⟨by omega,z+1,by omega,by omega,by rw [fl_n (p:=fun x=>hb (prS true p i.toNat (tgE true p i.toNat)) (x:Int)) h],by omega,by rw [fl_n (p:=fun x=>hb (prS true p i.toNat (tgE true p i.toNat)) (x:Int)) h],by rw [fl_n (p:=fun x=>hb (prS true p i.toNat (tgE true p i.toNat)) (x:Int)) h]; exact fun i _=>rfl⟩
 ·have:z=8:=by omega
  subst this
  rw [hL]
  exact ⟨rfl,Nat.le_refl _,fun i _=>rfl,hE.symm⟩
theorem wro_true (p:Pl):wroG p:=by
 rw [wroG_vc]
 simp only [rI,rE,tt3,tt4,tt5,tt13,tt14,and_true,true_and,Nat.zero_lt_one,and_self,implies_true,Int.toNat_natCast,Nat.zero_add,Nat.add_zero,Nat.one_mul,Nat.mul_one,Classical.not_not,psv,p_fold,ff2]
 have Z:∀ {e:Int},¬ e=0→wrE p=e→0=(wrL p).length∧e=wrE p:=fun {e} h0 h=>⟨by rw [wrL,if_neg (by omega)]; rfl,h.symm⟩
 refine ⟨fun h=>Z (by decide) (by rw [wrE,if_neg h]),fun hp=>⟨ok_k hp,ok_f hp,fun hc=>?_,fun hc=>?_⟩⟩
 ·have hc:cEx p=false:=by simpa using hc
  exact Z (by decide) (by rw [wrE,if_pos hp,hc]; rfl)
 have hE:wrE p=0:=by rw [wrE,if_pos hp,hc]; rfl
 have hL:wrL p=plL (cFs p):=by rw [wrL,if_pos hE]
 have h8:=pwk_le (ok_k hp).2
 have:=cFs_lt (p:=p)
 refine ⟨⟨0,⟨by omega,rfl⟩,rfl⟩,fun z hz=>⟨fun hl=>⟨by omega,fun h=>?_,fun h=>⟨by omega,z+1,⟨by omega,by rw [fl_n (p:=fun x=>hb (cFs p) (x:Int)) h,hz.2]⟩,by omega,by omega⟩⟩,fun hl=>?_⟩,fun z hz=>⟨fun hl=>⟨by omega,fun h=>?_,fun h=>?_⟩,fun hl=>?_⟩⟩
 ·obtain ⟨o1,o2⟩:=fl_one (p:=fun x=>hb (cFs p) (x:Int)) h hz.2
  exact ⟨by omega,by omega,by omega,z+1,by omega,by omega,o1.symm,by omega,o1,o2⟩
 ·have:z=8:=by omega
  subst this
  refine ⟨?_,hE.symm⟩
  rw [hL]
  unfold plL
  rw [hz.2]; rfl
 ·have:=fl_le (p:=fun x=>hb (cFs p) (x:Int)) z
  exact ⟨by omega,by omega,by omega,z+1,by omega,by omega,(fl_len (p:=fun x=>hb (cFs p) (x:Int)) h).symm,by omega,fl_len (p:=fun x=>hb (cFs p) (x:Int)) h,fl_get (p:=fun x=>hb (cFs p) (x:Int)) h⟩
 ·exact ⟨by omega,z+1,by omega,by omega,by rw [fl_n (p:=fun x=>hb (cFs p) (x:Int)) h],by omega,by rw [fl_n (p:=fun x=>hb (cFs p) (x:Int)) h],by rw [fl_n (p:=fun x=>hb (cFs p) (x:Int)) h]; exact fun i _=>rfl⟩
 ·have:z=8:=by omega
  subst this
  rw [hL]
  exact ⟨rfl,Nat.le_refl _,fun i _=>rfl,hE.symm⟩
end Go.Proofs.Ytmjbflifegmmnaa

set_option maxRecDepth 100000
namespace Go.Proofs.Ytmjbflifegmmnaa
open Go Go.Lg
attribute [local irreducible] funS bodyH
theorem mixed:Try.prog.follows .mixedOrders=true:=by kernel_rfl
theorem okV {cs:CSpec} {cx:CX} {ic:IC} (hcs:SoundS Try.prog cs) (hcx:SoundXH Try.prog noGhost γ0 cx) (hic:SoundIH Try.prog ic) {sp isp g args res} (h:funH Try.prog cs cx ic sp isp g args res) (hp:plainS res):Does Try.prog g true (SV.denL args) res.den :=
 Does.plain (funH_does hcs hcx hic mixed h) hp
theorem nil_cs:SoundS Try.prog (ctrs []):=ctrs_sound (by simp)
theorem nil_ic:SoundIH Try.prog (ictrs []):=ictrs_sound (by simp)
theorem nil_x:SoundXH Try.prog noGhost γ0 noX:=noX_sound
theorem plC_ok {g:FuncId} {C:Pl→List SV→(SV→Prop)→Prop} (hc:callable Try.prog g=true) (h:∀ w r k,C w r k→∃ res,Does Try.prog g true (SV.denL (w.sv :: r)) res.den∧k res):(plC g C).Ok Try.prog:=by
 refine ⟨hc,fun args k hk=>?_⟩
 simp only [plC] at hk
 split at hk
 ·rename_i x r
  obtain ⟨hx,hC⟩:=hk
  obtain ⟨res,h1,h2⟩:=h _ r k hC
  rw [← hx] at h1
  exact ⟨res,h1,h2⟩
 ·exact hk.elim
theorem plC_okF {g:FuncId} {C:Pl→List SV→(SV→Prop)→Prop} (hc:callable Try.prog g=true) (h:∀ w r k,C w r k→∃ res,Does Try.prog g false (SV.denL (w.sv :: r)) res.den∧k res):(plC g C).OkF Try.prog:=by
 refine ⟨hc,fun args k hk=>?_⟩
 simp only [plC] at hk
 split at hk
 ·rename_i x r
  obtain ⟨hx,hC⟩:=hk
  obtain ⟨res,h1,h2⟩:=h _ r k hC
  rw [← hx] at h1
  exact ⟨res,h1,h2⟩
 ·exact hk.elim
theorem toN {s:Int} (h:0≤s):((s.toNat:Nat):Int)=s:=by omega
theorem has_ok:hasC.Ok Try.prog:=by
 refine ⟨by kernel_rfl,fun x k hk=>?_⟩
 simp only [hasC] at hk
 split at hk
 ·rename_i s x
  obtain ⟨⟨h1,h2⟩,hk⟩:=hk
  have hh:=has_true h1 h2
  unfold hasG at hh
  exact ⟨_,okV nil_cs nil_x nil_ic hh trivial,hk⟩
 ·exact hk.elim
theorem csH:SoundS Try.prog (ctrs [hasC]):=ctrs_sound (by intro x hx; simp at hx; subst hx; exact has_ok)
theorem tak_ok:takC.Ok Try.prog:=by
 refine ⟨by kernel_rfl,fun x k hk=>?_⟩
 simp only [takC] at hk
 split at hk
 ·rename_i s a b c d
  obtain ⟨⟨h1,h2,h3⟩,hk⟩:=hk
  have hh:=tak_true (c:=c) (d:=d) h1 h2 h3
  unfold takG at hh
  exact ⟨_,okV csH nil_x nil_ic hh trivial,hk⟩
 ·exact hk.elim
theorem giv_ok:givC.Ok Try.prog:=by
 refine ⟨by kernel_rfl,fun x k hk=>?_⟩
 simp only [givC] at hk
 split at hk
 ·rename_i s a b c d
  obtain ⟨⟨h1,h2,h3⟩,hk⟩:=hk
  have hh:=giv_true (c:=c) (d:=d) h1 h2 h3
  unfold givG at hh
  exact ⟨_,okV csH nil_x nil_ic hh trivial,hk⟩
 ·exact hk.elim
theorem lo_ok:loC.Ok Try.prog:=by
 refine ⟨by kernel_rfl,fun x k hk=>?_⟩
 simp only [loC] at hk
 split at hk
 ·rename_i a b
  have hh:loG a b:=by rw [loG_vc]; simp
  unfold loG at hh
  exact ⟨_,okV nil_cs nil_x nil_ic hh trivial,hk⟩
 ·exact hk.elim
theorem hi_ok:hiC.Ok Try.prog:=by
 refine ⟨by kernel_rfl,fun x k hk=>?_⟩
 simp only [hiC] at hk
 split at hk
 ·rename_i a b
  have hh:hiG a b:=by rw [hiG_vc]; simp
  unfold hiG at hh
  exact ⟨_,okV nil_cs nil_x nil_ic hh trivial,hk⟩
 ·exact hk.elim
theorem max_ok:maxC.Ok Try.prog:=by
 refine ⟨by kernel_rfl,fun x k hk=>?_⟩
 simp only [maxC] at hk
 split at hk
 ·rename_i a b
  have hh:maxG a b:=by rw [maxG_vc]; simp
  unfold maxG at hh
  exact ⟨_,okV nil_cs nil_x nil_ic hh trivial,hk⟩
 ·exact hk.elim
theorem min_ok:minC.Ok Try.prog:=by
 refine ⟨by kernel_rfl,fun x k hk=>?_⟩
 simp only [minC] at hk
 split at hk
 ·rename_i a b
  have hh:minG a b:=by rw [minG_vc]; simp
  unfold minG at hh
  exact ⟨_,okV nil_cs nil_x nil_ic hh trivial,hk⟩
 ·exact hk.elim
theorem lea_ok:leaC.Ok Try.prog:=by
 refine ⟨by kernel_rfl,fun x k hk=>?_⟩
 simp only [leaC] at hk
 split at hk
 ·have hh:leaG:=by rw [leaG_vc]; simp
  unfold leaG at hh
  exact ⟨_,okV nil_cs nil_x nil_ic hh (by simp [plainS,plainS.plainL,endV,fnV]),hk⟩
 ·exact hk.elim
theorem gre_ok:greC.Ok Try.prog:=by
 refine ⟨by kernel_rfl,fun x k hk=>?_⟩
 simp only [greC] at hk
 split at hk
 ·have hh:greG:=by rw [greG_vc]; simp
  unfold greG at hh
  exact ⟨_,okV nil_cs nil_x nil_ic hh (by simp [plainS,plainS.plainL,endV,fnV]),hk⟩
 ·exact hk.elim
theorem csCr:SoundS Try.prog (ctrs [takC,givC]):=ctrs_sound (by
 intro x hx
 simp only [List.mem_cons,List.not_mem_nil,or_false] at hx
 rcases hx with rfl | rfl
 ·exact tak_ok
 ·exact giv_ok)
theorem cro_ok:croC.Ok Try.prog:=by
 refine ⟨by kernel_rfl,fun x k hk=>?_⟩
 simp only [croC] at hk
 split at hk
 ·rename_i s x
  obtain ⟨hx,hs,hf,hk⟩:=hk
  have hh:=cro_true (s:=s.toNat) (by omega) hf
  unfold croG at hh
  rw [toN hs.1,← hx] at hh
  exact ⟨_,okV csCr nil_x nil_ic hh (by simp [plainS,plainS.plainL,crV]),hk⟩
 ·exact hk.elim
theorem csBo:SoundS Try.prog (ctrs [croC,loC,hiC]):=ctrs_sound (by
 intro x hx
 simp only [List.mem_cons,List.not_mem_nil,or_false] at hx
 rcases hx with rfl | rfl | rfl
 ·exact cro_ok
 ·exact lo_ok
 ·exact hi_ok)
theorem bou_ok:bouC.Ok Try.prog:=by
 refine ⟨by kernel_rfl,fun x k hk=>?_⟩
 simp only [bouC] at hk
 split at hk
 ·rename_i e s x i
  obtain ⟨hx,hs,hf,hi,b,he,hk⟩:=hk
  have hh:=bou_true (s:=s.toNat) (i:=i.toNat) (by omega) hf (by omega) b
  unfold bouG at hh
  rw [toN hs.1,toN hi.1,← hx,← he] at hh
  exact ⟨_,okV csBo nil_x nil_ic hh trivial,hk⟩
 ·exact hk.elim
theorem set_ok:setC.OkF Try.prog:=by
 refine ⟨by kernel_rfl,fun x k hk=>?_⟩
 simp only [setC] at hk
 split at hk
 ·rename_i z
  have hh:setG z:=by rw [setG_vc]; simp
  unfold setG at hh
  exact ⟨_,funH_does nil_cs nil_x nil_ic mixed hh,hk⟩
 ·exact hk.elim
theorem seI_ok:seI.Ok Try.prog:=by
 refine ⟨by kernel_rfl,fun fs us k hk=>?_⟩
 simp only [seI] at hk
 split at hk
 ·rename_i z
  obtain ⟨hz,hk⟩:=hk
  refine ⟨_,_,_,?_,?_,hk⟩
  ·have hh:=seI_true hz
   unfold seIG at hh
   exact itH_ok nil_cs (fun Γ γ _=>noX_sound) nil_ic mixed hh
  ·intro j hj; rfl
 ·exact hk.elim
theorem seIC:SoundIH Try.prog (ictrs [seI]):=ictrs_sound (by intro x hx; simp at hx; subst hx; exact seI_ok)
theorem setS {l:List Ctr} (h:SoundS Try.prog (ctrs l)):SoundS Try.prog (ctrsF [setC] (ctrs l)):=ctrsF_sound h (by intro x hx; simp at hx; subst hx; exact set_ok)
theorem cs34_ok:SoundS Try.prog cs34:=setS (ctrs_sound (by
 intro x hx
 simp only [List.mem_cons,List.not_mem_nil,or_false] at hx
 rcases hx with rfl | rfl | rfl | rfl | rfl | rfl
 ·exact tak_ok
 ·exact bou_ok
 ·exact lo_ok
 ·exact hi_ok
 ·exact max_ok
 ·exact min_ok))
theorem tig_ok:tigC.Ok Try.prog:=by
 refine ⟨by kernel_rfl,fun x k hk=>?_⟩
 simp only [tigC] at hk
 split at hk
 ·rename_i e x i
  obtain ⟨hx,hz,hf,hi,b,he,hk⟩:=hk
  have hh:=tig_true (i:=i.toNat) hz hf (by omega) b
  unfold tigG at hh
  rw [toN hi.1,← hx,← he] at hh
  exact ⟨_,okV cs34_ok nil_x seIC hh trivial,hk⟩
 ·exact hk.elim
theorem cs46_ok:SoundS Try.prog cs46:=setS (ctrs_sound (by intro x hx; simp at hx; subst hx; exact cro_ok))
theorem con_ok:conC.Ok Try.prog:=plC_ok (by kernel_rfl) fun w r k hk=>by
 split at hk
 ·obtain ⟨h1,h2,hk⟩:=hk
  have hh:=con_true h1 h2
  unfold conG at hh
  exact ⟨_,okV cs46_ok nil_x seIC hh (by simp [plainS,plainS.plainL,dB]),hk⟩
 ·exact hk.elim
theorem cs39_ok:SoundS Try.prog cs39:=setS (ctrs_sound (by
 intro x hx
 simp only [List.mem_cons,List.not_mem_nil,or_false] at hx
 rcases hx with rfl | rfl
 ·exact tak_ok
 ·exact bou_ok))
theorem pro_ok:proC.Ok Try.prog:=by
 refine ⟨by kernel_rfl,fun x k hk=>?_⟩
 simp only [proC] at hk
 split at hk
 ·rename_i e x i t
  obtain ⟨hx,hz,hf,hi,b,he,hk⟩:=hk
  have hh:=pro_true (i:=i.toNat) (t:=t) hz hf (by omega) b
  unfold proG at hh
  rw [toN hi.1,← hx,← he] at hh
  exact ⟨_,okV cs39_ok nil_x seIC hh trivial,hk⟩
 ·exact hk.elim
theorem isP_ok:isPC.Ok Try.prog:=by
 refine ⟨by kernel_rfl,fun x k hk=>?_⟩
 simp only [isPC] at hk
 split at hk
 ·rename_i n z
  have hh:=isP_true n z
  unfold isPG at hh
  exact ⟨_,okV nil_cs nil_x nil_ic hh trivial,hk⟩
 ·exact hk.elim
theorem vGa_ok:vGaC.Ok Try.prog:=by
 refine ⟨by kernel_rfl,fun x k hk=>?_⟩
 simp only [vGaC] at hk
 split at hk
 ·rename_i a b
  have hh:=vGa_true a b
  unfold vGaG at hh
  exact ⟨_,okV nil_cs nil_x nil_ic hh trivial,hk⟩
 ·exact hk.elim
theorem csVa:SoundS Try.prog (ctrs [isPC,vGaC]):=ctrs_sound (by
 intro x hx
 simp only [List.mem_cons,List.not_mem_nil,or_false] at hx
 rcases hx with rfl | rfl
 ·exact isP_ok
 ·exact vGa_ok)
theorem val_ok:(valC gvalid).Ok Try.prog:=plC_ok (by kernel_rfl) fun w r k hk=>by
 split at hk
 ·have hh:=val_true w
  unfold valG at hh
  exact ⟨_,okV csVa nil_x nil_ic hh trivial,hk⟩
 ·exact hk.elim
theorem fix_ok:fixC.OkF Try.prog:=plC_okF (by kernel_rfl) fun w r k hk=>by
 split at hk
 ·rename_i i x
  obtain ⟨hi,hk⟩:=hk
  have hh:=fix_true (p:=w) (i:=i.toNat) (x:=x) hi.1 (by omega)
  unfold fixG at hh
  rw [toN hi.2.1] at hh
  exact ⟨_,funH_does nil_cs nil_x nil_ic mixed hh,hk⟩
 ·exact hk.elim
theorem csCk:SoundS Try.prog (ctrs [valC gvalid,conC]):=ctrs_sound (by
 intro x hx
 simp only [List.mem_cons,List.not_mem_nil,or_false] at hx
 rcases hx with rfl | rfl
 ·exact val_ok
 ·exact con_ok)
theorem che_ok:cheC.Ok Try.prog:=plC_ok (by kernel_rfl) fun w r k hk=>by
 split at hk
 ·have hh:=che_true w
  unfold cheG at hh
  exact ⟨_,okV csCk nil_x nil_ic hh trivial,hk⟩
 ·exact hk.elim
theorem csTr_ok:SoundS Try.prog csTr:=ctrsF_sound (ctrs_sound (by
 intro x hx
 simp only [List.mem_cons,List.not_mem_nil,or_false] at hx
 rcases hx with rfl | rfl | rfl | rfl
 ·exact che_ok
 ·exact lea_ok
 ·exact gre_ok
 ·exact tig_ok)) (by intro x hx; simp at hx; subst hx; exact fix_ok)
theorem tru_ok:truC.Ok Try.prog:=plC_ok (by kernel_rfl) fun w r k hk=>by
 split at hk
 ·have hh:=tru_true w
  unfold truG at hh
  exact ⟨_,funN_does csTr_ok nil_x nil_ic mixed hh (by simp [flatS,flatSL,liN,SV.cells,scS]),hk⟩
 ·exact hk.elim
theorem tgh_ok:tghC.Ok Try.prog:=plC_ok (by kernel_rfl) fun w r k hk=>by
 split at hk
 ·have hh:=tgh_true w
  unfold tghG at hh
  exact ⟨_,funN_does csTr_ok nil_x nil_ic mixed hh (by simp [flatS,flatSL,spN,SV.cells,scS]),hk⟩
 ·exact hk.elim
theorem csWh_ok:SoundS Try.prog csWh:=ctrs_sound (by
 intro x hx
 simp only [List.mem_cons,List.not_mem_nil,or_false] at hx
 rcases hx with rfl | rfl | rfl | rfl | rfl | rfl | rfl | rfl
 ·exact val_ok
 ·exact che_ok
 ·exact lea_ok
 ·exact gre_ok
 ·exact tig_ok
 ·exact pro_ok
 ·exact lo_ok
 ·exact hi_ok)
theorem why_does (p:Pl) (i:Int) (b:Bool):Does Try.prog gWhy true (SV.denL [p.sv,i6 i,.bool b]) (SV.tup [lstI (whL p i b),i6 (whE p i b)]).den:=by
 cases b
 ·have hh:=why_f p i
  unfold whyf whyG at hh
  exact funN_does csWh_ok (inl_sound (ys:=none) csH noX_sound trivial nil_ic mixed) nil_ic mixed hh (by simp [flatS,flatSL,lstI,SV.cells,scS])
 ·have hh:=why_t p i
  unfold whyt whyG at hh
  exact funN_does csWh_ok (inl_sound (ys:=none) csH noX_sound trivial nil_ic mixed) nil_ic mixed hh (by simp [flatS,flatSL,lstI,SV.cells,scS])
theorem why_ok:whyC.Ok Try.prog:=plC_ok (by kernel_rfl) fun w r k hk=>by
 split at hk
 ·rename_i i q iq
  obtain ⟨b,hq,hk⟩:=hk
  refine ⟨_,?_,hk⟩
  have e:(SV.dec q iq).den=(SV.bool b).den:=by
   simp only [SV.den]
   congr 2
   cases b <;> simp_all
  have e2:SV.denL [w.sv,.int .i64 i,.dec q iq]=SV.denL [w.sv,i6 i,.bool b]:=by simp only [SV.denL,e]
  rw [e2]
  exact why_does w i b
 ·rename_i i b
  exact ⟨_,why_does w i b,hk⟩
 ·exact hk.elim
theorem wro_ok:wroC.Ok Try.prog:=plC_ok (by kernel_rfl) fun w r k hk=>by
 split at hk
 ·have hh:=wro_true w
  unfold wroG at hh
  exact ⟨_,funN_does csCk (inl_sound (ys:=none) csH noX_sound trivial nil_ic mixed) nil_ic mixed hh (by simp [flatS,flatSL,lstI,SV.cells,scS]),hk⟩
 ·exact hk.elim
end Go.Proofs.Ytmjbflifegmmnaa
