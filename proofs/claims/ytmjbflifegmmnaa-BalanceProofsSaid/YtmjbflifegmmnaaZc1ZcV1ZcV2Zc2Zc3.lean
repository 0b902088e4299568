import Derived.Test.YtmjbflifegmmnaaYb1YbV1Yb2Yb3YbV3YbV4Yb4Yb5
set_option linter.unusedVariables false
set_option linter.unusedSimpArgs false
set_option maxRecDepth 100000
namespace Go.Proofs.Ytmjbflifegmmnaa
open Go Go.Lg
attribute [local irreducible] funS bodyH
structure rhI (x:Int) (i:Nat):Prop where
 a:(i:Int)≤x
def rhS (s:Nat) (i:Nat):Nat:=s / 2 ^ i
noncomputable def rhaG (s x:Int):Prop:=funH Try.prog (ctrs []) noX (ictrs []) (oneL 0 (natH (rhI x) (fun i=>x.toNat - i) 0 (fun i=>mkF 16 [(0,i6 (rhS s.toNat i:Nat)),(1,i6 x),(5,i6 i)]) (fun _=>mkX []) fun _=>none)) noL 55 [i6 s,i6 x] (dB (hb s.toNat x))
def rhaC:Ctr:=⟨55,fun args k=>match args with
 | [.int .i64 s,.int .i64 x]=>((0≤s∧s≤1000)∧0≤x∧x<64)∧k (dB (hb s.toNat x))
 | _=>False⟩
noncomputable def rinG (s a b c d:Int):Prop:=funH Try.prog (ctrs [rhaC]) noX (ictrs []) noL noL 40 [flV a b c d,i6 s] (dB (hb s.toNat b && !hb s.toNat a))
noncomputable def rouG (s a b c d:Int):Prop:=funH Try.prog (ctrs [rhaC]) noX (ictrs []) noL noL 54 [flV a b c d,i6 s] (dB (hb s.toNat a && !hb s.toNat b))
def rinC:Ctr:=⟨40,fun args k=>match args with
 | [.agg [.int .i64 a,.int .i64 b,.int .i64 c,.int .i64 d],.int .i64 s]=>((0≤s∧s≤1000)∧(0≤a∧a<64)∧(0≤b∧b<64))∧k (dB (hb s.toNat b && !hb s.toNat a))
 | _=>False⟩
def rouC:Ctr:=⟨54,fun args k=>match args with
 | [.agg [.int .i64 a,.int .i64 b,.int .i64 c,.int .i64 d],.int .i64 s]=>((0≤s∧s≤1000)∧(0≤a∧a<64)∧(0≤b∧b<64))∧k (dB (hb s.toNat a && !hb s.toNat b))
 | _=>False⟩
def pw2 (i:Nat):Nat:=2 ^ i
structure stI (p:Pl) (i:Nat):Prop where
 a:(i:Int)≤p.k
noncomputable def stG (p:Pl):Prop:=funH Try.prog (ctrs []) noX (ictrs []) (oneL 0 (natH (stI p) (fun i=>p.k.toNat - i) 1 (fun i=>mkF 14 [(1,.ptr 0 0 0),(3,i6 (pw2 i:Nat)),(4,i6 i)]) (fun _=>mkX [vr 2 p.sv]) fun _=>none)) noL 38 [p.sv] (i6 (pwk p.k:Nat))
noncomputable def stC:Ctr:=plC 38 fun p r k=>match r with
 | []=>(0≤p.k∧p.k≤8)∧k (i6 (pwk p.k:Nat))
 | _=>False
def tkX (f:Fl) (s:Nat) (b:Int) (j:Nat):Bool:=tkB f s j && !decide ((j:Int)=b)
def eL (f:Fl) (s:Nat) (b:Int) (i:Nat):Int:=sm (gvB f s) f.lo i - sm (tkX f s b) f.hi i
def eH (f:Fl) (s:Nat) (b:Int) (i:Nat):Int:=sm (gvB f s) f.hi i - sm (tkX f s b) f.lo i
structure enI (p:Pl) (i:Nat):Prop where
 a:i≤p.f.n
noncomputable def rnG (p:Pl) (s:Nat) (b:Int):Prop:=funH Try.prog (ctrs [rinC,rouC]) noX (ictrs []) (oneL 0 (natH (enI p) (fun i=>p.f.n - i) 3 (fun i=>mkF 60 [(1,i6 s),(2,i6 b),(3,.ptr 0 0 0),(6,.ptr 1 0 0),(7,.ptr 2 0 0),(8,i6 i)]) (fun i=>mkX [vr 2 p.sv,vr 2 (.agg [i6 0,i6 0]),vr 2 (.agg [i6 (eL p.f s b i),i6 (eH p.f s b i)])]) fun _=>none)) noL 39 [p.sv,i6 s,i6 b] (.agg [i6 (eL p.f s b p.f.n),i6 (eH p.f s b p.f.n)])
noncomputable def rnC:Ctr:=plC 39 fun p r k=>match r with
 | [.int .i64 s,.int .i64 b]=>((0≤s∧s≤1000)∧okP p)∧k (.agg [i6 (eL p.f s.toNat b p.f.n),i6 (eH p.f s.toNat b p.f.n)])
 | _=>False
noncomputable def rlG (s:Nat):Prop:=funH Try.prog (ctrs [rhaC]) noX (ictrs []) (oneL 0 (filH 17 3 (fun z=>z≤8∧fl (fun x=>hb s (x:Int)) z=[]) (fun z=>z≤8) (fun z=>8 - z) 0
 (fun z=>mkF 17 [(0,i6 s),(3,nilV),(4,i6 z)]) (fun z=>mkF 17 [(0,i6 s),(3,.sl 0 0 (fl (fun x=>hb s (x:Int)) z).length),(4,i6 z)])
 (fun _=>mkX []) (fun z=>mkX [rw' 1 (fl (fun x=>hb s (x:Int)) z).length fun k=>i6 ((fl (fun x=>hb s (x:Int)) z).getD k 0:Nat)]))) noL 41 [i6 s] (lstI (plL s))
def rlC:Ctr:=⟨41,fun args k=>match args with
 | [.int .i64 s]=>(0≤s∧s≤1000)∧k (lstI (plL s.toNat))
 | _=>False⟩
structure rwI (p:Pl) (s:Nat):Prop where
 a:s≤pwk p.k
 ok:okP p
 h:¬ Hof p
 f:∀ t,t<s→bad p.f t=false
noncomputable def rwG (p:Pl):Prop:=funH Try.prog (ctrsF [rtC,rlC] (ctrs [stC,rnC])) noX (ictrs []) (oneL 0 (natH (rwI p) (fun s=>pwk p.k - s) 1 (fun s=>mkF 30 [(1,.ptr 0 0 0),(6,i6 s)]) (fun _=>mkX [vr 2 p.sv]) fun _=>none)) noL 20 [p.sv] (.tup [lstI (wrL p),i6 (wrE p)])
noncomputable def rwC:Ctr:=plC 20 fun p r k=>match r with
 | []=>lenB p∧k (.tup [lstI (wrL p),i6 (wrE p)])
 | _=>False
structure ryI (b:Bool) (p:Pl) (i:Int) (s:Nat):Prop where
 a:s≤pwk p.k
 n:0≤i∧i<p.f.n
 ok:okP p
 h:Hof p
 o:¬ tgE b p i.toNat=own b p.f i.toNat
 f:∀ t,t<s→prP b p.f i.toNat (tgE b p i.toNat) t=false
noncomputable def ryG (b:Bool) (p:Pl) (i:Int):Prop:=funH Try.prog (ctrsF [rgC,rlC] (ctrs [valC hPlant,inC,stC,rnC,rinC])) noX (ictrs []) (oneL 0 (natH (ryI b p i) (fun s=>pwk p.k - s) 2 (fun s=>mkF 108 [(1,i6 i),(2,.bool b),(3,.ptr 0 0 0),(8,spN (okN p) (tgE false p) (tgE true p)),(11,i6 s)]) (fun _=>mkX [vr 2 p.sv,vr 2 (.agg [i6 (p.f.lo i.toNat),i6 (p.f.hi i.toNat)])]) fun _=>none)) noL 18 [p.sv,i6 i,.bool b] (.tup [lstI (whL p i b),i6 (whE p i b)])
noncomputable def ryf (p:Pl) (i:Int):Prop:=ryG false p i
noncomputable def ryt (p:Pl) (i:Int):Prop:=ryG true p i
noncomputable def ryC:Ctr:=plC 18 fun p r k=>match r with
 | [.int .i64 i,.bool b]=>lenB p∧k (.tup [lstI (whL p i b),i6 (whE p i b)])
 | _=>False
noncomputable def bpG (b:Bool) (p:Pl) (i:Int):Prop:=funH Try.prog (ctrsF [ryC,rwC] (ctrs [lgC,awaC,whyC,wroC,itsC])) noX (ictrs []) noL noL 4 [p.sv,i6 i,.bool b] (.bool true)
noncomputable def bpf (p:Pl) (i:Int):Prop:=bpG false p i
noncomputable def bpt (p:Pl) (i:Int):Prop:=bpG true p i
end Go.Proofs.Ytmjbflifegmmnaa

set_option maxRecDepth 100000
namespace Go.Proofs.Ytmjbflifegmmnaa
open Go Go.Lg
theorem rhaG_vc (s:Int) (x:Int):rhaG s x =
((∃ (z:Nat),rhI x z∧s=(↑(rhS s.toNat z):Int)∧x=x∧(0:Int)=(↑z:Int)∧True) ∧
 ∀ (z:Nat),
  rhI x z →
   ((↑z:Int)<x →
     ((2:Int)=(0:Int)→False) ∧
      ((-9223372036854775808:Int)≤(↑(rhS s.toNat z):Int).tdiv (2:Int) ∧
        (↑(rhS s.toNat z):Int).tdiv (2:Int)≤(9223372036854775807:Int)) ∧
       ((-9223372036854775808:Int)≤(↑z:Int)+(1:Int) ∧
         (↑z:Int)+(1:Int)≤(9223372036854775807:Int)) ∧
        ∃ (z_1:Nat),
         rhI x z_1 ∧
          x.toNat - z_1<x.toNat - z ∧
           (↑(rhS s.toNat z):Int).tdiv (2:Int)=(↑(rhS s.toNat z_1):Int) ∧
            x=x∧(↑z:Int)+(1:Int)=(↑z_1:Int)∧True) ∧
    (¬(↑z:Int)<x →
     ((2:Int)=(0:Int)→False) ∧
      ((↑(rhS s.toNat z):Int).tmod (2:Int)=(1:Int)↔hb s.toNat x=true)∧True)):=by kernel_rfl
theorem rinG_vc (s:Int) (a:Int) (b:Int) (c:Int) (d:Int):rinG s a b c d =
((0:Nat)<(1:Nat) ∧
 (((0:Int)≤s∧s≤(1000:Int))∧(0:Int)≤a∧a<(64:Int)) ∧
  (¬hb s.toNat a=true →
    (0:Nat)<(1:Nat) ∧
     (((0:Int)≤s∧s≤(1000:Int))∧(0:Int)≤b∧b<(64:Int)) ∧
      (hb s.toNat b=true↔Bool.rec false (!hb s.toNat a) (hb s.toNat b)=true)∧True) ∧
   (¬¬hb s.toNat a=true→(false=true↔Bool.rec false (!hb s.toNat a) (hb s.toNat b)=true)∧True)):=by kernel_rfl
theorem rouG_vc (s:Int) (a:Int) (b:Int) (c:Int) (d:Int):rouG s a b c d =
((0:Nat)<(1:Nat) ∧
 (((0:Int)≤s∧s≤(1000:Int))∧(0:Int)≤a∧a<(64:Int)) ∧
  (hb s.toNat a=true →
    (0:Nat)<(1:Nat) ∧
     (((0:Int)≤s∧s≤(1000:Int))∧(0:Int)≤b∧b<(64:Int)) ∧
      (¬hb s.toNat b=true↔Bool.rec false (!hb s.toNat b) (hb s.toNat a)=true)∧True) ∧
   (¬hb s.toNat a=true→(false=true↔Bool.rec false (!hb s.toNat b) (hb s.toNat a)=true)∧True)):=by kernel_rfl
theorem stG_vc (p:Pl):stG p =
((∃ (z:Nat),stI p z∧rE (0:Nat)∧rE (0:Nat)∧(1:Int)=(↑(pw2 z):Int)∧(0:Int)=(↑z:Int)∧p.1=p.1∧rE p.f.1∧(∀ (i:Nat),i<p.f.1→rE ((p.f.el i).den)∧True∧True∧True∧True∧True)∧True)∧∀ (z:Nat),stI p z→(0:Nat)<(1:Nat)∧((↑z:Int)<p.1→rI ((2:Int)*(↑(pw2 z):Int))∧rI ((↑z:Int)+(1:Int))∧∃ (z_1:Nat),stI p z_1∧p.1.toNat - z_1<p.1.toNat - z∧rE (0:Nat)∧rE (0:Nat)∧(2:Int)*(↑(pw2 z):Int)=(↑(pw2 z_1):Int)∧(↑z:Int)+(1:Int)=(↑z_1:Int)∧p.1=p.1∧rE p.f.1∧(∀ (i:Nat),i<p.f.1→rE ((p.f.el i).den)∧True∧True∧True∧True∧True)∧True)∧(¬(↑z:Int)<p.1→(↑(pw2 z):Int)=(↑(pwk p.1):Int)∧True)):=by kernel_rfl
theorem rnG_vc (p:Pl) (s:Nat) (b:Int):rnG p s b =
((∃ (z:Nat),enI p z∧rE (↑s:Int)∧b=b∧rE (0:Nat)∧rE (0:Nat)∧rE (0:Nat)∧rE (0:Nat)∧rE (0:Nat)∧rE (0:Nat)∧(0:Int)=(↑z:Int)∧p.1=p.1∧rE p.f.1∧(∀ (i:Nat),i<p.f.1→rE ((p.f.el i).den)∧True∧True∧True∧True∧True)∧rE (0:Int)∧rE (0:Int)∧(0:Int)=eL p.f s b z∧(0:Int)=eH p.f s b z∧True)∧∀ (z:Nat),enI p z→(0:Nat)<(1:Nat)∧((↑z:Int)<(↑p.f.1:Int)→(0:Nat)<(1:Nat)∧(0:Int)≤(↑z:Int)∧(↑z:Int)<(↑p.f.1:Int)∧(0:Nat)<(1:Nat)∧(((0:Int)≤(↑s:Int)∧(↑s:Int)≤(1000:Int))∧((0:Int)≤p.f.2 (↑z:Int).toNat∧p.f.2 (↑z:Int).toNat<(64:Int))∧(0:Int)≤p.f.3 (↑z:Int).toNat∧p.f.3 (↑z:Int).toNat<(64:Int))∧(Bool.rec false (!hb (↑s:Int).toNat (p.f.to (↑z:Int).toNat)) (hb (↑s:Int).toNat (p.f.fr (↑z:Int).toNat))=true→(0:Nat)<(1:Nat) ∧
(0:Nat)<(1:Nat)∧rI (eL p.f s b z+p.f.4 (↑z:Int).toNat)∧(0:Nat)<(1:Nat)∧(0:Nat)<(1:Nat)∧rI (eH p.f s b z+p.f.5 (↑z:Int).toNat)∧(0:Nat)<(1:Nat)∧(((0:Int)≤(↑s:Int)∧(↑s:Int)≤(1000:Int))∧((0:Int)≤p.f.2 (↑z:Int).toNat∧p.f.2 (↑z:Int).toNat<(64:Int))∧(0:Int)≤p.f.3 (↑z:Int).toNat∧p.f.3 (↑z:Int).toNat<(64:Int))∧(Bool.rec false (!hb (↑s:Int).toNat (p.f.fr (↑z:Int).toNat)) (hb (↑s:Int).toNat (p.f.to (↑z:Int).toNat))=true→(¬(↑z:Int)=b→(0:Nat)<(1:Nat)∧(0:Nat)<(1:Nat)∧rI (eL p.f s b z+p.f.4 (↑z:Int).toNat - p.f.5 (↑z:Int).toNat)∧(0:Nat)<(1:Nat)∧(0:Nat)<(1:Nat)∧rI (eH p.f s b z+p.f.5 (↑z:Int).toNat - p.f.4 (↑z:Int).toNat)∧rI ((↑z:Int)+(1:Int))∧∃ (z_1:Nat),enI p z_1∧p.f.1 - z_1<p.f.1 - z∧rE (↑s:Int)∧b=b∧rE (0:Nat)∧rE (0
: Nat)∧rE (0:Nat)∧rE (0:Nat)∧rE (0:Nat)∧rE (0:Nat)∧(↑z:Int)+(1:Int)=(↑z_1:Int)∧p.1=p.1∧rE p.f.1∧(∀ (i:Nat),i<p.f.1→rE ((p.f.el i).den)∧True∧True∧True∧True∧True)∧rE (0:Int)∧rE (0:Int)∧eL p.f s b z+p.f.4 (↑z:Int).toNat - p.f.5 (↑z:Int).toNat=eL p.f s b z_1∧eH p.f s b z+p.f.5 (↑z:Int).toNat - p.f.4 (↑z:Int).toNat=eH p.f s b z_1∧True)∧(¬¬(↑z:Int)=b→rI ((↑z:Int)+(1:Int))∧∃ (z_1:Nat),enI p z_1∧p.f.1 - z_1<p.f.1 - z∧rE (↑s:Int)∧b=b∧rE (0:Nat)∧rE (0:Nat)∧rE (0:Nat)∧rE (0:Nat)∧rE (0:Nat)∧rE (0:Nat)∧(↑z:Int)+(1:Int)=(↑z_1:Int)∧p.1=p.1∧rE p.f.1∧(∀ (i:Nat),i<p.f.1→rE ((p.f.el i).den)∧True∧True∧True∧True∧True)∧rE (0:Int)∧rE (0:Int)∧eL p.f s b z+p.f.4 (↑z:Int).toNat=eL p.f s b z_1∧eH p.f s b z+p.f.5 (↑z :
Int).toNat=eH p.f s b z_1∧True))∧(¬Bool.rec false (!hb (↑s:Int).toNat (p.f.fr (↑z:Int).toNat)) (hb (↑s:Int).toNat (p.f.to (↑z:Int).toNat))=true→rI ((↑z:Int)+(1:Int))∧∃ (z_1:Nat),enI p z_1∧p.f.1 - z_1<p.f.1 - z∧rE (↑s:Int)∧b=b∧rE (0:Nat)∧rE (0:Nat)∧rE (0:Nat)∧rE (0:Nat)∧rE (0:Nat)∧rE (0:Nat)∧(↑z:Int)+(1:Int)=(↑z_1:Int)∧p.1=p.1∧rE p.f.1∧(∀ (i:Nat),i<p.f.1→rE ((p.f.el i).den)∧True∧True∧True∧True∧True)∧rE (0:Int)∧rE (0:Int)∧eL p.f s b z+p.f.4 (↑z:Int).toNat=eL p.f s b z_1∧eH p.f s b z+p.f.5 (↑z:Int).toNat=eH p.f s b z_1∧True))∧(¬Bool.rec false (!hb (↑s:Int).toNat (p.f.to (↑z:Int).toNat)) (hb (↑s:Int).toNat (p.f.fr (↑z:Int).toNat))=true→(0:Nat)<(1:Nat)∧(((0:Int)≤(↑s:Int)∧(↑s:Int)≤(1000:Int))∧((0:Int)≤p.f.2 (↑z:Int).toNat ∧
p.f.2 (↑z:Int).toNat<(64:Int))∧(0:Int)≤p.f.3 (↑z:Int).toNat∧p.f.3 (↑z:Int).toNat<(64:Int))∧(Bool.rec false (!hb (↑s:Int).toNat (p.f.fr (↑z:Int).toNat)) (hb (↑s:Int).toNat (p.f.to (↑z:Int).toNat))=true→(¬(↑z:Int)=b→(0:Nat)<(1:Nat)∧(0:Nat)<(1:Nat)∧rI (eL p.f s b z - p.f.5 (↑z:Int).toNat)∧(0:Nat)<(1:Nat)∧(0:Nat)<(1:Nat)∧rI (eH p.f s b z - p.f.4 (↑z:Int).toNat)∧rI ((↑z:Int)+(1:Int))∧∃ (z_1:Nat),enI p z_1∧p.f.1 - z_1<p.f.1 - z∧rE (↑s:Int)∧b=b∧rE (0:Nat)∧rE (0:Nat)∧rE (0:Nat)∧rE (0:Nat)∧rE (0:Nat)∧rE (0:Nat)∧(↑z:Int)+(1:Int)=(↑z_1:Int)∧p.1=p.1∧rE p.f.1∧(∀ (i:Nat),i<p.f.1→rE ((p.f.el i).den)∧True∧True∧True∧True∧True)∧rE (0:Int)∧rE (0:Int)∧eL p.f s b z - p.f.5 (↑z:Int).toNat=eL p.f s b z_1∧eH p.f s b z - p.f.4 (↑z :
Int).toNat=eH p.f s b z_1∧True)∧(¬¬(↑z:Int)=b→rI ((↑z:Int)+(1:Int))∧∃ (z_1:Nat),enI p z_1∧p.f.1 - z_1<p.f.1 - z∧rE (↑s:Int)∧b=b∧rE (0:Nat)∧rE (0:Nat)∧rE (0:Nat)∧rE (0:Nat)∧rE (0:Nat)∧rE (0:Nat)∧(↑z:Int)+(1:Int)=(↑z_1:Int)∧p.1=p.1∧rE p.f.1∧(∀ (i:Nat),i<p.f.1→rE ((p.f.el i).den)∧True∧True∧True∧True∧True)∧rE (0:Int)∧rE (0:Int)∧eL p.f s b z=eL p.f s b z_1∧eH p.f s b z=eH p.f s b z_1∧True))∧(¬Bool.rec false (!hb (↑s:Int).toNat (p.f.fr (↑z:Int).toNat)) (hb (↑s:Int).toNat (p.f.to (↑z:Int).toNat))=true→rI ((↑z:Int)+(1:Int))∧∃ (z_1:Nat),enI p z_1∧p.f.1 - z_1<p.f.1 - z∧rE (↑s:Int)∧b=b∧rE (0:Nat)∧rE (0:Nat)∧rE (0:Nat)∧rE (0:Nat)∧rE (0:Nat)∧rE (0:Nat)∧(↑z:Int)+(1:Int)=(↑z_1:Int)∧p.1=p.1∧rE p.f.1∧(∀ (i :
Nat),i<p.f.1→rE ((p.f.el i).den)∧True∧True∧True∧True∧True)∧rE (0:Int)∧rE (0:Int)∧eL p.f s b z=eL p.f s b z_1∧eH p.f s b z=eH p.f s b z_1∧True)))∧(¬(↑z:Int)<(↑p.f.1:Int)→(0:Nat)<(1:Nat)∧(0:Nat)<(1:Nat)∧eL p.f s b z=eL p.f s b p.f.1∧eH p.f s b z=eH p.f s b p.f.1∧True)):=by kernel_rfl
theorem rlG_vc (s:Nat):rlG s =
((∃ (z:Nat),(z≤(8:Nat)∧fl (fun x=>hb s (↑x:Int)) z=[])∧rE (↑s:Int)∧rE (Value.slice none (0:Nat) (0:Nat))∧(0:Int)=(↑z:Int)∧True)∧(∀ (z:Nat),z≤(8:Nat)∧fl (fun x=>hb s (↑x:Int)) z=[]→((↑z:Int)<(8:Int)→(((0:Int)≤(↑s:Int)∧(↑s:Int)≤(1000:Int))∧(0:Int)≤(↑z:Int)∧(↑z:Int)<(64:Int))∧(hb (↑s:Int).toNat (↑z:Int)=true→True∧(∀ (i:Nat),i<(1:Nat)→rE true)∧(1:Nat)*(8:Nat)≤(140737488355328:Nat)∧(1:Nat)≤(4611686018427387904:Nat)∧rI ((↑z:Int)+(1:Int))∧∃ (z_1:Nat),z_1≤(8:Nat)∧(8:Nat) - z_1<(8:Nat) - z∧rE (↑s:Int)∧rE (0:Nat)∧(1:Nat)=(fl (fun x=>hb s (↑x:Int)) z_1).length∧(↑z:Int)+(1:Int)=(↑z_1:Int)∧(fl (fun x=>hb s (↑x:Int)) z_1).length=(1:Nat)∧(∀ (i:Nat),i<(fl (fun x=>hb s (↑x:Int)) z_1).length→rE (1
: Nat)∧(↑z:Int)=(↑((fl (fun x=>hb s (↑x:Int)) z_1).getD i (0:Nat)):Int)∧True)∧True)∧(¬hb (↑s:Int).toNat (↑z:Int)=true→rI ((↑z:Int)+(1:Int))∧∃ (z_1:Nat),(z_1≤(8:Nat)∧fl (fun x=>hb s (↑x:Int)) z_1=[])∧(8:Nat) - z_1<(8:Nat) - z∧rE (↑s:Int)∧rE (Value.slice none (0:Nat) (0:Nat))∧(↑z:Int)+(1:Int)=(↑z_1:Int)∧True))∧(¬(↑z:Int)<(8:Int)→(0:Nat)=(plL s).length∧True))∧∀ (z:Nat),z≤(8:Nat)→((↑z:Int)<(8:Int)→(((0:Int)≤(↑s:Int)∧(↑s:Int)≤(1000:Int))∧(0:Int)≤(↑z:Int)∧(↑z:Int)<(64:Int))∧(hb (↑s:Int).toNat (↑z:Int)=true→True∧(∀ (i:Nat),i<(1:Nat)→rE true)∧rE (0:Nat)∧rE ((fl (fun x=>hb s (↑x:Int)) z).length)∧(∀ (i:Nat),rE true)∧((fl (fun x=>hb s (↑x:Int)) z).length+(1:Nat))*(8:Nat)≤(140737488355328:Nat)∧(fl
(fun x=>hb s (↑x:Int)) z).length+(1:Nat)≤(4611686018427387904:Nat)∧rI ((↑z:Int)+(1:Int))∧∃ (z_1:Nat),z_1≤(8:Nat)∧(8:Nat) - z_1<(8:Nat) - z∧rE (↑s:Int)∧rE (0:Nat)∧(fl (fun x=>hb s (↑x:Int)) z).length+(1:Nat)=(fl (fun x=>hb s (↑x:Int)) z_1).length∧(↑z:Int)+(1:Int)=(↑z_1:Int)∧(fl (fun x=>hb s (↑x:Int)) z_1).length=(fl (fun x=>hb s (↑x:Int)) z).length+(1:Nat)∧(∀ (i:Nat),i<(fl (fun x=>hb s (↑x:Int)) z_1).length→rE (1:Nat)∧(if i<(fl (fun x=>hb s (↑x:Int)) z).length then (↑((fl (fun x=>hb s (↑x:Int)) z).getD i (0:Nat)):Int) else (↑z:Int))=(↑((fl (fun x=>hb s (↑x:Int)) z_1).getD i (0:Nat)):Int)∧True)∧True)∧(¬hb (↑s:Int).toNat (↑z:Int)=true→rI ((↑z:Int)+(1:Int))∧∃ (z_1:Nat),z_1≤(8:Nat)∧(8:Nat) - z_1<(8:Nat) - z∧rE (↑s:Int) ∧
rE (0:Nat)∧(fl (fun x=>hb s (↑x:Int)) z).length=(fl (fun x=>hb s (↑x:Int)) z_1).length∧(↑z:Int)+(1:Int)=(↑z_1:Int)∧(fl (fun x=>hb s (↑x:Int)) z_1).length=(fl (fun x=>hb s (↑x:Int)) z).length∧(∀ (i:Nat),i<(fl (fun x=>hb s (↑x:Int)) z_1).length→rE (1:Nat)∧(↑((fl (fun x=>hb s (↑x:Int)) z).getD i (0:Nat)):Int)=(↑((fl (fun x=>hb s (↑x:Int)) z_1).getD i (0:Nat)):Int)∧True)∧True))∧(¬(↑z:Int)<(8:Int)→(fl (fun x=>hb s (↑x:Int)) z).length=(plL s).length∧(0:Nat)+(plL s).length≤(fl (fun x=>hb s (↑x:Int)) z).length∧(∀ (i:Nat),i<(plL s).length→rE (1:Nat)∧rE (1:Nat)∧(↑((fl (fun x=>hb s (↑x:Int)) z).getD (i+(0:Nat)) (0:Nat)):Int)=(↑((plL s).getD i (0:Nat)):Int)∧True)∧True)):=by kernel_rfl
theorem rwG_vc (p:Pl):rwG p =
((0:Nat)<(1:Nat)∧(∀ (i:Nat),i<p.f.1→True∧True∧True∧True∧True)∧SV.agg [SV.int IntKind.i64 p.k,SV.lst (4:Nat) p.f.n p.f.el]=(pOf (SV.agg [SV.int IntKind.i64 p.k,SV.lst (4:Nat) p.f.n p.f.el])).sv∧lenB (pOf (SV.agg [SV.int IntKind.i64 p.k,SV.lst (4:Nat) p.f.n p.f.el]))∧(chE (pOf (SV.agg [SV.int IntKind.i64 p.k,SV.lst (4:Nat) p.f.n p.f.el]))=(1:Int)→(0:Nat)=(wrL p).length∧chE (pOf (SV.agg [SV.int IntKind.i64 p.k,SV.lst (4:Nat) p.f.n p.f.el]))=wrE p∧True)∧(¬chE (pOf (SV.agg [SV.int IntKind.i64 p.k,SV.lst (4:Nat) p.f.n p.f.el]))=(1:Int)→(chE (pOf (SV.agg [SV.int IntKind.i64 p.k,SV.lst (4:Nat) p.f.n p.f.el]))=(0:Int)→(0:Nat)=(wrL p).length∧(4:Int)=wrE p∧True)∧(¬chE (pOf (SV.agg [SV.int IntKind.i64 p.k,SV.lst (4:Nat) p.f.n p.f.el]))=(0:Int)→(∃ (z:Nat),rwI p z∧rE (0:Nat)∧rE (0:Nat) ∧
(0:Int)=(↑z:Int)∧p.1=p.1∧rE p.f.1∧(∀ (i:Nat),i<p.f.1→rE ((p.f.el i).den)∧True∧True∧True∧True∧True)∧True)∧∀ (z:Nat),rwI p z→(0:Nat)<(1:Nat)∧(∀ (i:Nat),i<p.f.1→True∧True∧True∧True∧True)∧SV.agg [SV.int IntKind.i64 p.k,SV.lst (4:Nat) p.f.n p.f.el]=(pOf (SV.agg [SV.int IntKind.i64 p.k,SV.lst (4:Nat) p.f.n p.f.el])).sv∧((0:Int)≤p.1∧p.1≤(8:Int))∧((↑z:Int)<(↑(pwk p.1):Int)→(0:Nat)<(1:Nat)∧(∀ (i:Nat),i<p.f.1→True∧True∧True∧True∧True)∧SV.agg [SV.int IntKind.i64 p.k,SV.lst (4:Nat) p.f.n p.f.el]=(pOf (SV.agg [SV.int IntKind.i64 p.k,SV.lst (4:Nat) p.f.n p.f.el])).sv∧(((0:Int)≤(↑z:Int)∧(↑z:Int)≤(1000:Int))∧okP (pOf (SV.agg [SV.int IntKind.i64 p.k,SV.lst (4:Nat) p.f.n p.f.el])))∧(eH (pOf (SV.agg [SV.int IntKind.i64 p.k,SV.lst (4:Nat) p.f.n
p.f.el])).f (↑z:Int).toNat (-1:Int) p.f.1<(0:Int)→((0:Int)≤(↑z:Int)∧(↑z:Int)≤(1000:Int))∧(plL (↑z:Int).toNat).length=(wrL p).length∧(∀ (i:Nat),i<(wrL p).length→(i6 (↑((plL (↑z:Int).toNat).getD i (0:Nat)):Int)).den=(i6 (↑((wrL p).getD i (0:Nat)):Int)).den∧True)∧(0:Int)=wrE p∧True)∧(¬eH (pOf (SV.agg [SV.int IntKind.i64 p.k,SV.lst (4:Nat) p.f.n p.f.el])).f (↑z:Int).toNat (-1:Int) p.f.1<(0:Int)→rI ((↑z:Int)+(1:Int))∧∃ (z_1:Nat),rwI p z_1∧pwk p.1 - z_1<pwk p.1 - z∧rE (0:Nat)∧rE (0:Nat)∧(↑z:Int)+(1:Int)=(↑z_1:Int)∧p.1=p.1∧rE p.f.1∧(∀ (i:Nat),i<p.f.1→rE ((p.f.el i).den)∧True∧True∧True∧True∧True)∧True))∧(¬(↑z:Int)<(↑(pwk p.1):Int)→(0:Nat)=(wrL p).length∧(4:Int)=wrE p∧True)))):=by kernel_rfl
end Go.Proofs.Ytmjbflifegmmnaa

set_option maxRecDepth 100000
namespace Go.Proofs.Ytmjbflifegmmnaa
open Go Go.Lg
theorem ryf_vc (p:Pl) (i:Int):ryf p i =
((0:Nat)<(1:Nat)∧(∀ (i:Nat),i<p.f.1→True∧True∧True∧True∧True)∧SV.agg [SV.int IntKind.i64 p.k,SV.lst (4:Nat) p.f.n p.f.el]=(pOf (SV.agg [SV.int IntKind.i64 p.k,SV.lst (4:Nat) p.f.n p.f.el])).sv∧(¬okP (pOf (SV.agg [SV.int IntKind.i64 p.k,SV.lst (4:Nat) p.f.n p.f.el]))→(0:Nat)=(whL p i false).length∧(1:Int)=whE p i false∧True)∧(¬¬okP (pOf (SV.agg [SV.int IntKind.i64 p.k,SV.lst (4:Nat) p.f.n p.f.el]))→(0:Nat)<(1:Nat)∧rI ((↑p.f.1:Int) - (1:Int))∧(¬((0:Int)≤i∧i≤(↑p.f.1:Int) - (1:Int))→(0:Nat)=(whL p i false).length∧(2:Int)=whE p i false∧True)∧(¬¬((0:Int)≤i∧i≤(↑p.f.1:Int) - (1:Int))→(0:Nat)<(1:Nat)∧(∀ (i:Nat),i<p.f.1→True∧True∧True∧True∧True)∧SV.agg [SV.int IntKind.i64 p.k,SV.lst (4:Nat) p.f.n p.f.el]=(pOf (SV.agg [SV.int IntKind.i64 p.k,SV.lst (4 :
Nat) p.f.n p.f.el])).sv∧lenB (pOf (SV.agg [SV.int IntKind.i64 p.k,SV.lst (4:Nat) p.f.n p.f.el]))∧(¬chE (pOf (SV.agg [SV.int IntKind.i64 p.k,SV.lst (4:Nat) p.f.n p.f.el]))=(0:Int)→(0:Nat)=(whL p i false).length∧chE (pOf (SV.agg [SV.int IntKind.i64 p.k,SV.lst (4:Nat) p.f.n p.f.el]))=whE p i false∧True)∧(¬¬chE (pOf (SV.agg [SV.int IntKind.i64 p.k,SV.lst (4:Nat) p.f.n p.f.el]))=(0:Int)→(0:Nat)<(1:Nat)∧(0:Int)≤i∧i<(↑p.f.1:Int)∧(0:Int)≤i∧i<(↑(okN (pOf (SV.agg [SV.int IntKind.i64 p.k,SV.lst (4:Nat) p.f.n p.f.el]))):Int)∧(0:Nat)<(1:Nat)∧(tgE false (pOf (SV.agg [SV.int IntKind.i64 p.k,SV.lst (4:Nat) p.f.n p.f.el])) i.toNat=p.f.4 i.toNat→(0:Nat)=(whL p i false).length∧(4:Int)=whE p i false∧True)∧(¬tgE false (pOf (SV.agg [SV.int IntKind.i64 p.k,SV.lst (4:Nat) p.f.n p.f.el])) i.toNat=p.f.4
i.toNat→(∃ (z:Nat),ryI false p i z∧i=i∧rE false∧rE (0:Nat)∧rE (0:Nat)∧okN (pOf (SV.agg [SV.int IntKind.i64 p.k,SV.lst (4:Nat) p.f.n p.f.el]))=okN p∧(∀ (i:Nat),i<okN p→(SV.agg [i6 (tgE false (pOf (SV.agg [SV.int IntKind.i64 p.k,SV.lst (4:Nat) p.f.n p.f.el])) i),i6 (tgE true (pOf (SV.agg [SV.int IntKind.i64 p.k,SV.lst (4:Nat) p.f.n p.f.el])) i)]).den=(SV.agg [i6 (tgE false p i),i6 (tgE true p i)]).den∧True∧True∧True)∧(0:Int)=(↑z:Int)∧p.1=p.1∧rE p.f.1∧(∀ (i:Nat),i<p.f.1→rE ((p.f.el i).den)∧True∧True∧True∧True∧True)∧rE (p.f.4 i.toNat)∧rE (p.f.5 i.toNat)∧True)∧∀ (z:Nat),ryI false p i z→(0:Nat)<(1:Nat)∧(∀ (i:Nat),i<p.f.1→True∧True∧True∧True∧True)∧SV.agg [SV.int IntKind.i64 p.k,SV.lst (4:Nat) p.f.n p.f.el]=(pOf (SV.agg [SV.int IntKind.i64 p.k,SV.lst (4:Nat) p.f.n
p.f.el])).sv∧((0:Int)≤p.1∧p.1≤(8:Int))∧((↑z:Int)<(↑(pwk p.1):Int)→(0:Nat)<(1:Nat)∧(∀ (i:Nat),i<p.f.1→True∧True∧True∧True∧True)∧SV.agg [SV.int IntKind.i64 p.k,SV.lst (4:Nat) p.f.n p.f.el]=(pOf (SV.agg [SV.int IntKind.i64 p.k,SV.lst (4:Nat) p.f.n p.f.el])).sv∧(((0:Int)≤(↑z:Int)∧(↑z:Int)≤(1000:Int))∧okP (pOf (SV.agg [SV.int IntKind.i64 p.k,SV.lst (4:Nat) p.f.n p.f.el])))∧(0:Nat)<(1:Nat)∧(0:Int)≤i∧i<(↑p.f.1:Int)∧(((0:Int)≤(↑z:Int)∧(↑z:Int)≤(1000:Int))∧((0:Int)≤p.f.2 i.toNat∧p.f.2 i.toNat<(64:Int))∧(0:Int)≤p.f.3 i.toNat∧p.f.3 i.toNat<(64:Int))∧(Bool.rec false (!hb (↑z:Int).toNat (p.f.fr i.toNat)) (hb (↑z:Int).toNat (p.f.to i.toNat))=true→(0:Nat)<(1:Nat)∧(0:Int)≤i∧i<(↑(okN p):Int)∧(eL (pOf (SV.agg [SV.int IntKind.i64 p.k,SV.lst
(4:Nat) p.f.n p.f.el])).f (↑z:Int).toNat i p.f.1=tgE false p i.toNat→((0:Int)≤(↑z:Int)∧(↑z:Int)≤(1000:Int))∧(plL (↑z:Int).toNat).length=(whL p i false).length∧(∀ (i_1:Nat),i_1<(whL p i false).length→(i6 (↑((plL (↑z:Int).toNat).getD i_1 (0:Nat)):Int)).den=(i6 (↑((whL p i false).getD i_1 (0:Nat)):Int)).den∧True)∧(0:Int)=whE p i false∧True)∧(¬eL (pOf (SV.agg [SV.int IntKind.i64 p.k,SV.lst (4:Nat) p.f.n p.f.el])).f (↑z:Int).toNat i p.f.1=tgE false p i.toNat→rI ((↑z:Int)+(1:Int))∧∃ (z_1:Nat),ryI false p i z_1∧pwk p.1 - z_1<pwk p.1 - z∧i=i∧rE false∧rE (0:Nat)∧rE (0:Nat)∧rE (okN p)∧(∀ (i:Nat),i<okN p→rE ((SV.agg [i6 (tgE false p i),i6 (tgE true p i)]).den)∧True∧True∧True)∧(↑z:Int)+(1:Int)=(↑z_1:Int)∧p.1=p.1∧rE p.f.1∧(∀ (i:Nat),i<p.f.1→rE ((p.f.el
i).den)∧True∧True∧True∧True∧True)∧rE (p.f.4 i.toNat)∧rE (p.f.5 i.toNat)∧True))∧(¬Bool.rec false (!hb (↑z:Int).toNat (p.f.fr i.toNat)) (hb (↑z:Int).toNat (p.f.to i.toNat))=true→rI ((↑z:Int)+(1:Int))∧∃ (z_1:Nat),ryI false p i z_1∧pwk p.1 - z_1<pwk p.1 - z∧i=i∧rE false∧rE (0:Nat)∧rE (0:Nat)∧rE (okN p)∧(∀ (i:Nat),i<okN p→rE ((SV.agg [i6 (tgE false p i),i6 (tgE true p i)]).den)∧True∧True∧True)∧(↑z:Int)+(1:Int)=(↑z_1:Int)∧p.1=p.1∧rE p.f.1∧(∀ (i:Nat),i<p.f.1→rE ((p.f.el i).den)∧True∧True∧True∧True∧True)∧rE (p.f.4 i.toNat)∧rE (p.f.5 i.toNat)∧True))∧(¬(↑z:Int)<(↑(pwk p.1):Int)→(0:Nat)=(whL p i false).length∧(4:Int)=whE p i false∧True)))))):=by kernel_rfl
theorem ryt_vc (p:Pl) (i:Int):ryt p i =
((0:Nat)<(1:Nat)∧(∀ (i:Nat),i<p.f.1→True∧True∧True∧True∧True)∧SV.agg [SV.int IntKind.i64 p.k,SV.lst (4:Nat) p.f.n p.f.el]=(pOf (SV.agg [SV.int IntKind.i64 p.k,SV.lst (4:Nat) p.f.n p.f.el])).sv∧(¬okP (pOf (SV.agg [SV.int IntKind.i64 p.k,SV.lst (4:Nat) p.f.n p.f.el]))→(0:Nat)=(whL p i true).length∧(1:Int)=whE p i true∧True)∧(¬¬okP (pOf (SV.agg [SV.int IntKind.i64 p.k,SV.lst (4:Nat) p.f.n p.f.el]))→(0:Nat)<(1:Nat)∧rI ((↑p.f.1:Int) - (1:Int))∧(¬((0:Int)≤i∧i≤(↑p.f.1:Int) - (1:Int))→(0:Nat)=(whL p i true).length∧(2:Int)=whE p i true∧True)∧(¬¬((0:Int)≤i∧i≤(↑p.f.1:Int) - (1:Int))→(0:Nat)<(1:Nat)∧(∀ (i:Nat),i<p.f.1→True∧True∧True∧True∧True)∧SV.agg [SV.int IntKind.i64 p.k,SV.lst (4:Nat) p.f.n p.f.el]=(pOf (SV.agg [SV.int IntKind.i64 p.k,SV.lst (4:Nat)
p.f.n p.f.el])).sv∧lenB (pOf (SV.agg [SV.int IntKind.i64 p.k,SV.lst (4:Nat) p.f.n p.f.el]))∧(¬chE (pOf (SV.agg [SV.int IntKind.i64 p.k,SV.lst (4:Nat) p.f.n p.f.el]))=(0:Int)→(0:Nat)=(whL p i true).length∧chE (pOf (SV.agg [SV.int IntKind.i64 p.k,SV.lst (4:Nat) p.f.n p.f.el]))=whE p i true∧True)∧(¬¬chE (pOf (SV.agg [SV.int IntKind.i64 p.k,SV.lst (4:Nat) p.f.n p.f.el]))=(0:Int)→(0:Nat)<(1:Nat)∧(0:Int)≤i∧i<(↑p.f.1:Int)∧(0:Int)≤i∧i<(↑(okN (pOf (SV.agg [SV.int IntKind.i64 p.k,SV.lst (4:Nat) p.f.n p.f.el]))):Int)∧(0:Nat)<(1:Nat)∧(tgE true (pOf (SV.agg [SV.int IntKind.i64 p.k,SV.lst (4:Nat) p.f.n p.f.el])) i.toNat=p.f.5 i.toNat→(0:Nat)=(whL p i true).length∧(4:Int)=whE p i true∧True)∧(¬tgE true (pOf (SV.agg [SV.int IntKind.i64 p.k,SV.lst (4:Nat) p.f.n p.f.el])) i.toNat=p.f.5 i.toNat→(∃
(z:Nat),ryI true p i z∧i=i∧rE true∧rE (0:Nat)∧rE (0:Nat)∧okN (pOf (SV.agg [SV.int IntKind.i64 p.k,SV.lst (4:Nat) p.f.n p.f.el]))=okN p∧(∀ (i:Nat),i<okN p→(SV.agg [i6 (tgE false (pOf (SV.agg [SV.int IntKind.i64 p.k,SV.lst (4:Nat) p.f.n p.f.el])) i),i6 (tgE true (pOf (SV.agg [SV.int IntKind.i64 p.k,SV.lst (4:Nat) p.f.n p.f.el])) i)]).den=(SV.agg [i6 (tgE false p i),i6 (tgE true p i)]).den∧True∧True∧True)∧(0:Int)=(↑z:Int)∧p.1=p.1∧rE p.f.1∧(∀ (i:Nat),i<p.f.1→rE ((p.f.el i).den)∧True∧True∧True∧True∧True)∧rE (p.f.4 i.toNat)∧rE (p.f.5 i.toNat)∧True)∧∀ (z:Nat),ryI true p i z→(0:Nat)<(1:Nat)∧(∀ (i:Nat),i<p.f.1→True∧True∧True∧True∧True)∧SV.agg [SV.int IntKind.i64 p.k,SV.lst (4:Nat) p.f.n p.f.el]=(pOf (SV.agg [SV.int IntKind.i64 p.k,SV.lst (4:Nat) p.f.n p.f.el])).sv∧((0
: Int)≤p.1∧p.1≤(8:Int))∧((↑z:Int)<(↑(pwk p.1):Int)→(0:Nat)<(1:Nat)∧(∀ (i:Nat),i<p.f.1→True∧True∧True∧True∧True)∧SV.agg [SV.int IntKind.i64 p.k,SV.lst (4:Nat) p.f.n p.f.el]=(pOf (SV.agg [SV.int IntKind.i64 p.k,SV.lst (4:Nat) p.f.n p.f.el])).sv∧(((0:Int)≤(↑z:Int)∧(↑z:Int)≤(1000:Int))∧okP (pOf (SV.agg [SV.int IntKind.i64 p.k,SV.lst (4:Nat) p.f.n p.f.el])))∧(0:Nat)<(1:Nat)∧(0:Int)≤i∧i<(↑p.f.1:Int)∧(((0:Int)≤(↑z:Int)∧(↑z:Int)≤(1000:Int))∧((0:Int)≤p.f.2 i.toNat∧p.f.2 i.toNat<(64:Int))∧(0:Int)≤p.f.3 i.toNat∧p.f.3 i.toNat<(64:Int))∧(Bool.rec false (!hb (↑z:Int).toNat (p.f.fr i.toNat)) (hb (↑z:Int).toNat (p.f.to i.toNat))=true→(0:Nat)<(1:Nat)∧(0:Int)≤i∧i<(↑(okN p):Int)∧(eH (pOf (SV.agg [SV.int IntKind.i64 p.k,SV.lst (4:Nat) p.f.n
p.f.el])).f (↑z:Int).toNat i p.f.1=tgE true p i.toNat→((0:Int)≤(↑z:Int)∧(↑z:Int)≤(1000:Int))∧(plL (↑z:Int).toNat).length=(whL p i true).length∧(∀ (i_1:Nat),i_1<(whL p i true).length→(i6 (↑((plL (↑z:Int).toNat).getD i_1 (0:Nat)):Int)).den=(i6 (↑((whL p i true).getD i_1 (0:Nat)):Int)).den∧True)∧(0:Int)=whE p i true∧True)∧(¬eH (pOf (SV.agg [SV.int IntKind.i64 p.k,SV.lst (4:Nat) p.f.n p.f.el])).f (↑z:Int).toNat i p.f.1=tgE true p i.toNat→rI ((↑z:Int)+(1:Int))∧∃ (z_1:Nat),ryI true p i z_1∧pwk p.1 - z_1<pwk p.1 - z∧i=i∧rE true∧rE (0:Nat)∧rE (0:Nat)∧rE (okN p)∧(∀ (i:Nat),i<okN p→rE ((SV.agg [i6 (tgE false p i),i6 (tgE true p i)]).den)∧True∧True∧True)∧(↑z:Int)+(1:Int)=(↑z_1:Int)∧p.1=p.1∧rE p.f.1∧(∀ (i:Nat),i<p.f.1→rE ((p.f.el i).den)∧True∧True∧True
∧ True∧True)∧rE (p.f.4 i.toNat)∧rE (p.f.5 i.toNat)∧True))∧(¬Bool.rec false (!hb (↑z:Int).toNat (p.f.fr i.toNat)) (hb (↑z:Int).toNat (p.f.to i.toNat))=true→rI ((↑z:Int)+(1:Int))∧∃ (z_1:Nat),ryI true p i z_1∧pwk p.1 - z_1<pwk p.1 - z∧i=i∧rE true∧rE (0:Nat)∧rE (0:Nat)∧rE (okN p)∧(∀ (i:Nat),i<okN p→rE ((SV.agg [i6 (tgE false p i),i6 (tgE true p i)]).den)∧True∧True∧True)∧(↑z:Int)+(1:Int)=(↑z_1:Int)∧p.1=p.1∧rE p.f.1∧(∀ (i:Nat),i<p.f.1→rE ((p.f.el i).den)∧True∧True∧True∧True∧True)∧rE (p.f.4 i.toNat)∧rE (p.f.5 i.toNat)∧True))∧(¬(↑z:Int)<(↑(pwk p.1):Int)→(0:Nat)=(whL p i true).length∧(4:Int)=whE p i true∧True)))))):=by kernel_rfl
theorem bpf_vc (p:Pl) (i:Int):bpf p i =
((0:Nat)<(1:Nat)∧(∀ (i:Nat),i<p.f.1→True∧True∧True∧True∧True)∧SV.agg [SV.int IntKind.i64 p.k,SV.lst (4:Nat) p.f.n p.f.el]=(pOf (SV.agg [SV.int IntKind.i64 p.k,SV.lst (4:Nat) p.f.n p.f.el])).sv∧((1:Int)≤(8000:Int)∧(8000:Int)≤(100000:Int))∧(lgP (pOf (SV.agg [SV.int IntKind.i64 p.k,SV.lst (4:Nat) p.f.n p.f.el])) (8:Int) (8000:Int)→rE true∧True)∧(¬lgP (pOf (SV.agg [SV.int IntKind.i64 p.k,SV.lst (4:Nat) p.f.n p.f.el])) (8:Int) (8000:Int)→(0:Nat)<(1:Nat)∧(∀ (i:Nat),i<p.f.1→True∧True∧True∧True∧True)∧SV.agg [SV.int IntKind.i64 p.k,SV.lst (4:Nat) p.f.n p.f.el]=(pOf (SV.agg [SV.int IntKind.i64 p.k,SV.lst (4:Nat) p.f.n p.f.el])).sv∧(0:Nat)<(1:Nat)∧(∀ (i:Nat),i<p.f.1→True∧True∧True∧True∧True)∧SV.agg [SV.int IntKind.i64 p.k,SV.lst (4:Nat) p.f.n p.f.el]=(pOf (SV.agg
[SV.int IntKind.i64 p.k,SV.lst (4:Nat) p.f.n p.f.el])).sv∧lenB (pOf (SV.agg [SV.int IntKind.i64 p.k,SV.lst (4:Nat) p.f.n p.f.el]))∧(0:Nat)<(1:Nat)∧(∀ (i:Nat),i<p.f.1→True∧True∧True∧True∧True)∧SV.agg [SV.int IntKind.i64 p.k,SV.lst (4:Nat) p.f.n p.f.el]=(pOf (SV.agg [SV.int IntKind.i64 p.k,SV.lst (4:Nat) p.f.n p.f.el])).sv∧(0:Nat)<(1:Nat)∧(∀ (i:Nat),i<p.f.1→True∧True∧True∧True∧True)∧SV.agg [SV.int IntKind.i64 p.k,SV.lst (4:Nat) p.f.n p.f.el]=(pOf (SV.agg [SV.int IntKind.i64 p.k,SV.lst (4:Nat) p.f.n p.f.el])).sv∧lenB (pOf (SV.agg [SV.int IntKind.i64 p.k,SV.lst (4:Nat) p.f.n p.f.el]))∧(∀ (i_1:Nat),i_1<(whL (pOf (SV.agg [SV.int IntKind.i64 p.k,SV.lst (4:Nat) p.f.n p.f.el])) i false).length→True)∧(∀ (i_1:Nat),i_1<(whL (pOf (SV.agg [SV.int IntKind.i64 p.k,SV.lst (4:Nat) p.f.n p.f.el])) i
false).length→True)∧((SV.lst (1:Nat) (whL (pOf (SV.agg [SV.int IntKind.i64 p.k,SV.lst (4:Nat) p.f.n p.f.el])) i false).length fun k=>i6 (↑((whL (pOf (SV.agg [SV.int IntKind.i64 p.k,SV.lst (4:Nat) p.f.n p.f.el])) i false).getD k (0:Nat)):Int))=liN (whL (pOf (SV.agg [SV.int IntKind.i64 p.k,SV.lst (4:Nat) p.f.n p.f.el])) i false).length fun i_1=>prI (i6 (↑((whL (pOf (SV.agg [SV.int IntKind.i64 p.k,SV.lst (4:Nat) p.f.n p.f.el])) i false).getD i_1 (0:Nat)):Int)))∧((SV.lst (1:Nat) (whL (pOf (SV.agg [SV.int IntKind.i64 p.k,SV.lst (4:Nat) p.f.n p.f.el])) i false).length fun k=>i6 (↑((whL (pOf (SV.agg [SV.int IntKind.i64 p.k,SV.lst (4:Nat) p.f.n p.f.el])) i false).getD k (0:Nat)):Int))=liN (whL (pOf (SV.agg [SV.int IntKind.i64 p.k,SV.lst (4:Nat) p.f.n p.f.el])) i false).length fun i_1=>prI (i6 (↑((whL (pOf (SV.agg [SV.int IntKind.i64 p.k,
SV.lst (4:Nat) p.f.n p.f.el])) i false).getD i_1 (0:Nat)):Int)))∧(whL (pOf (SV.agg [SV.int IntKind.i64 p.k,SV.lst (4:Nat) p.f.n p.f.el])) i false).length≤(100000:Nat)∧((rE ((whL (pOf (SV.agg [SV.int IntKind.i64 p.k,SV.lst (4:Nat) p.f.n p.f.el])) i false).length)∧∀ (i_1:Nat),i_1<(whL (pOf (SV.agg [SV.int IntKind.i64 p.k,SV.lst (4:Nat) p.f.n p.f.el])) i false).length→rE (↑((whL (pOf (SV.agg [SV.int IntKind.i64 p.k,SV.lst (4:Nat) p.f.n p.f.el])) i false).getD i_1 (0:Nat)):Int))→(rE (whE (pOf (SV.agg [SV.int IntKind.i64 p.k,SV.lst (4:Nat) p.f.n p.f.el])) i false)→(∀ (i:Nat),i<(wrL (pOf (SV.agg [SV.int IntKind.i64 p.k,SV.lst (4:Nat) p.f.n p.f.el]))).length→True)∧(∀ (i:Nat),i<(wrL (pOf (SV.agg [SV.int IntKind.i64 p.k,SV.lst (4:Nat) p.f.n p.f.el]))).length→True)∧((SV.lst (1:Nat) (wrL (pOf (SV.agg [SV.int IntKind.i64 p.k,
SV.lst (4:Nat) p.f.n p.f.el]))).length fun k=>i6 (↑((wrL (pOf (SV.agg [SV.int IntKind.i64 p.k,SV.lst (4:Nat) p.f.n p.f.el]))).getD k (0:Nat)):Int))=liN (wrL (pOf (SV.agg [SV.int IntKind.i64 p.k,SV.lst (4:Nat) p.f.n p.f.el]))).length fun i=>prI (i6 (↑((wrL (pOf (SV.agg [SV.int IntKind.i64 p.k,SV.lst (4:Nat) p.f.n p.f.el]))).getD i (0:Nat)):Int)))∧((SV.lst (1:Nat) (wrL (pOf (SV.agg [SV.int IntKind.i64 p.k,SV.lst (4:Nat) p.f.n p.f.el]))).length fun k=>i6 (↑((wrL (pOf (SV.agg [SV.int IntKind.i64 p.k,SV.lst (4:Nat) p.f.n p.f.el]))).getD k (0:Nat)):Int))=liN (wrL (pOf (SV.agg [SV.int IntKind.i64 p.k,SV.lst (4:Nat) p.f.n p.f.el]))).length fun i=>prI (i6 (↑((wrL (pOf (SV.agg [SV.int IntKind.i64 p.k,SV.lst (4:Nat) p.f.n p.f.el]))).getD i (0:Nat)):Int)))∧(wrL (pOf (SV.agg [SV.int IntKind.i64 p.k,SV.lst (4:Nat) p.f.n p.f.el]))).length ≤
(100000:Nat)∧((rE ((wrL (pOf (SV.agg [SV.int IntKind.i64 p.k,SV.lst (4:Nat) p.f.n p.f.el]))).length)∧∀ (i:Nat),i<(wrL (pOf (SV.agg [SV.int IntKind.i64 p.k,SV.lst (4:Nat) p.f.n p.f.el]))).length→rE (↑((wrL (pOf (SV.agg [SV.int IntKind.i64 p.k,SV.lst (4:Nat) p.f.n p.f.el]))).getD i (0:Nat)):Int))→(rE (wrE (pOf (SV.agg [SV.int IntKind.i64 p.k,SV.lst (4:Nat) p.f.n p.f.el])))→rE true∧True)∧(¬wrE (pOf (SV.agg [SV.int IntKind.i64 p.k,SV.lst (4:Nat) p.f.n p.f.el]))=wrE (pOf (SV.agg [SV.int IntKind.i64 p.k,SV.lst (4:Nat) p.f.n p.f.el]))→false=true∧True))∧(¬(rE ((wrL (pOf (SV.agg [SV.int IntKind.i64 p.k,SV.lst (4:Nat) p.f.n p.f.el]))).length)∧∀ (i:Nat),i<(wrL (pOf (SV.agg [SV.int IntKind.i64 p.k,SV.lst (4:Nat) p.f.n p.f.el]))).length→rE (↑((wrL (pOf (SV.agg [SV.int IntKind.i64 p.k,SV.lst (4:Nat) p.f.n p.f.el]))).getD i (0 :
Nat)):Int))→false=true∧True))∧(¬whE (pOf (SV.agg [SV.int IntKind.i64 p.k,SV.lst (4:Nat) p.f.n p.f.el])) i false=whE (pOf (SV.agg [SV.int IntKind.i64 p.k,SV.lst (4:Nat) p.f.n p.f.el])) i false→false=true∧True))∧(¬(rE ((whL (pOf (SV.agg [SV.int IntKind.i64 p.k,SV.lst (4:Nat) p.f.n p.f.el])) i false).length)∧∀ (i_1:Nat),i_1<(whL (pOf (SV.agg [SV.int IntKind.i64 p.k,SV.lst (4:Nat) p.f.n p.f.el])) i false).length→rE (↑((whL (pOf (SV.agg [SV.int IntKind.i64 p.k,SV.lst (4:Nat) p.f.n p.f.el])) i false).getD i_1 (0:Nat)):Int))→false=true∧True))):=by kernel_rfl
theorem bpt_vc (p:Pl) (i:Int):bpt p i =
((0:Nat)<(1:Nat)∧(∀ (i:Nat),i<p.f.1→True∧True∧True∧True∧True)∧SV.agg [SV.int IntKind.i64 p.k,SV.lst (4:Nat) p.f.n p.f.el]=(pOf (SV.agg [SV.int IntKind.i64 p.k,SV.lst (4:Nat) p.f.n p.f.el])).sv∧((1:Int)≤(8000:Int)∧(8000:Int)≤(100000:Int))∧(lgP (pOf (SV.agg [SV.int IntKind.i64 p.k,SV.lst (4:Nat) p.f.n p.f.el])) (8:Int) (8000:Int)→rE true∧True)∧(¬lgP (pOf (SV.agg [SV.int IntKind.i64 p.k,SV.lst (4:Nat) p.f.n p.f.el])) (8:Int) (8000:Int)→(0:Nat)<(1:Nat)∧(∀ (i:Nat),i<p.f.1→True∧True∧True∧True∧True)∧SV.agg [SV.int IntKind.i64 p.k,SV.lst (4:Nat) p.f.n p.f.el]=(pOf (SV.agg [SV.int IntKind.i64 p.k,SV.lst (4:Nat) p.f.n p.f.el])).sv∧(0:Nat)<(1:Nat)∧(∀ (i:Nat),i<p.f.1→True∧True∧True∧True∧True)∧SV.agg [SV.int IntKind.i64 p.k,SV.lst (4:Nat) p.f.n p.f.el]=(pOf (SV.agg
[SV.int IntKind.i64 p.k,SV.lst (4:Nat) p.f.n p.f.el])).sv∧lenB (pOf (SV.agg [SV.int IntKind.i64 p.k,SV.lst (4:Nat) p.f.n p.f.el]))∧(0:Nat)<(1:Nat)∧(∀ (i:Nat),i<p.f.1→True∧True∧True∧True∧True)∧SV.agg [SV.int IntKind.i64 p.k,SV.lst (4:Nat) p.f.n p.f.el]=(pOf (SV.agg [SV.int IntKind.i64 p.k,SV.lst (4:Nat) p.f.n p.f.el])).sv∧(0:Nat)<(1:Nat)∧(∀ (i:Nat),i<p.f.1→True∧True∧True∧True∧True)∧SV.agg [SV.int IntKind.i64 p.k,SV.lst (4:Nat) p.f.n p.f.el]=(pOf (SV.agg [SV.int IntKind.i64 p.k,SV.lst (4:Nat) p.f.n p.f.el])).sv∧lenB (pOf (SV.agg [SV.int IntKind.i64 p.k,SV.lst (4:Nat) p.f.n p.f.el]))∧(∀ (i_1:Nat),i_1<(whL (pOf (SV.agg [SV.int IntKind.i64 p.k,SV.lst (4:Nat) p.f.n p.f.el])) i true).length→True)∧(∀ (i_1:Nat),i_1<(whL (pOf (SV.agg [SV.int IntKind.i64 p.k,SV.lst (4:Nat) p.f.n p.f.el])) i
true).length→True)∧((SV.lst (1:Nat) (whL (pOf (SV.agg [SV.int IntKind.i64 p.k,SV.lst (4:Nat) p.f.n p.f.el])) i true).length fun k=>i6 (↑((whL (pOf (SV.agg [SV.int IntKind.i64 p.k,SV.lst (4:Nat) p.f.n p.f.el])) i true).getD k (0:Nat)):Int))=liN (whL (pOf (SV.agg [SV.int IntKind.i64 p.k,SV.lst (4:Nat) p.f.n p.f.el])) i true).length fun i_1=>prI (i6 (↑((whL (pOf (SV.agg [SV.int IntKind.i64 p.k,SV.lst (4:Nat) p.f.n p.f.el])) i true).getD i_1 (0:Nat)):Int)))∧((SV.lst (1:Nat) (whL (pOf (SV.agg [SV.int IntKind.i64 p.k,SV.lst (4:Nat) p.f.n p.f.el])) i true).length fun k=>i6 (↑((whL (pOf (SV.agg [SV.int IntKind.i64 p.k,SV.lst (4:Nat) p.f.n p.f.el])) i true).getD k (0:Nat)):Int))=liN (whL (pOf (SV.agg [SV.int IntKind.i64 p.k,SV.lst (4:Nat) p.f.n p.f.el])) i true).length fun i_1=>prI (i6 (↑((whL (pOf (SV.agg [SV.int IntKind.i64 p.k,SV.lst (4
: Nat) p.f.n p.f.el])) i true).getD i_1 (0:Nat)):Int)))∧(whL (pOf (SV.agg [SV.int IntKind.i64 p.k,SV.lst (4:Nat) p.f.n p.f.el])) i true).length≤(100000:Nat)∧((rE ((whL (pOf (SV.agg [SV.int IntKind.i64 p.k,SV.lst (4:Nat) p.f.n p.f.el])) i true).length)∧∀ (i_1:Nat),i_1<(whL (pOf (SV.agg [SV.int IntKind.i64 p.k,SV.lst (4:Nat) p.f.n p.f.el])) i true).length→rE (↑((whL (pOf (SV.agg [SV.int IntKind.i64 p.k,SV.lst (4:Nat) p.f.n p.f.el])) i true).getD i_1 (0:Nat)):Int))→(rE (whE (pOf (SV.agg [SV.int IntKind.i64 p.k,SV.lst (4:Nat) p.f.n p.f.el])) i true)→(∀ (i:Nat),i<(wrL (pOf (SV.agg [SV.int IntKind.i64 p.k,SV.lst (4:Nat) p.f.n p.f.el]))).length→True)∧(∀ (i:Nat),i<(wrL (pOf (SV.agg [SV.int IntKind.i64 p.k,SV.lst (4:Nat) p.f.n p.f.el]))).length→True)∧((SV.lst (1:Nat) (wrL (pOf (SV.agg [SV.int IntKind.i64 p.k,SV.lst (4:Nat)
p.f.n p.f.el]))).length fun k=>i6 (↑((wrL (pOf (SV.agg [SV.int IntKind.i64 p.k,SV.lst (4:Nat) p.f.n p.f.el]))).getD k (0:Nat)):Int))=liN (wrL (pOf (SV.agg [SV.int IntKind.i64 p.k,SV.lst (4:Nat) p.f.n p.f.el]))).length fun i=>prI (i6 (↑((wrL (pOf (SV.agg [SV.int IntKind.i64 p.k,SV.lst (4:Nat) p.f.n p.f.el]))).getD i (0:Nat)):Int)))∧((SV.lst (1:Nat) (wrL (pOf (SV.agg [SV.int IntKind.i64 p.k,SV.lst (4:Nat) p.f.n p.f.el]))).length fun k=>i6 (↑((wrL (pOf (SV.agg [SV.int IntKind.i64 p.k,SV.lst (4:Nat) p.f.n p.f.el]))).getD k (0:Nat)):Int))=liN (wrL (pOf (SV.agg [SV.int IntKind.i64 p.k,SV.lst (4:Nat) p.f.n p.f.el]))).length fun i=>prI (i6 (↑((wrL (pOf (SV.agg [SV.int IntKind.i64 p.k,SV.lst (4:Nat) p.f.n p.f.el]))).getD i (0:Nat)):Int)))∧(wrL (pOf (SV.agg [SV.int IntKind.i64 p.k,SV.lst (4:Nat) p.f.n p.f.el]))).length≤(100000:Nat) ∧
((rE ((wrL (pOf (SV.agg [SV.int IntKind.i64 p.k,SV.lst (4:Nat) p.f.n p.f.el]))).length)∧∀ (i:Nat),i<(wrL (pOf (SV.agg [SV.int IntKind.i64 p.k,SV.lst (4:Nat) p.f.n p.f.el]))).length→rE (↑((wrL (pOf (SV.agg [SV.int IntKind.i64 p.k,SV.lst (4:Nat) p.f.n p.f.el]))).getD i (0:Nat)):Int))→(rE (wrE (pOf (SV.agg [SV.int IntKind.i64 p.k,SV.lst (4:Nat) p.f.n p.f.el])))→rE true∧True)∧(¬wrE (pOf (SV.agg [SV.int IntKind.i64 p.k,SV.lst (4:Nat) p.f.n p.f.el]))=wrE (pOf (SV.agg [SV.int IntKind.i64 p.k,SV.lst (4:Nat) p.f.n p.f.el]))→false=true∧True))∧(¬(rE ((wrL (pOf (SV.agg [SV.int IntKind.i64 p.k,SV.lst (4:Nat) p.f.n p.f.el]))).length)∧∀ (i:Nat),i<(wrL (pOf (SV.agg [SV.int IntKind.i64 p.k,SV.lst (4:Nat) p.f.n p.f.el]))).length→rE (↑((wrL (pOf (SV.agg [SV.int IntKind.i64 p.k,SV.lst (4:Nat) p.f.n p.f.el]))).getD i (0:Nat)):Int)) →
false=true∧True))∧(¬whE (pOf (SV.agg [SV.int IntKind.i64 p.k,SV.lst (4:Nat) p.f.n p.f.el])) i true=whE (pOf (SV.agg [SV.int IntKind.i64 p.k,SV.lst (4:Nat) p.f.n p.f.el])) i true→false=true∧True))∧(¬(rE ((whL (pOf (SV.agg [SV.int IntKind.i64 p.k,SV.lst (4:Nat) p.f.n p.f.el])) i true).length)∧∀ (i_1:Nat),i_1<(whL (pOf (SV.agg [SV.int IntKind.i64 p.k,SV.lst (4:Nat) p.f.n p.f.el])) i true).length→rE (↑((whL (pOf (SV.agg [SV.int IntKind.i64 p.k,SV.lst (4:Nat) p.f.n p.f.el])) i true).getD i_1 (0:Nat)):Int))→false=true∧True))):=by kernel_rfl
end Go.Proofs.Ytmjbflifegmmnaa

set_option maxRecDepth 100000
namespace Go.Proofs.Ytmjbflifegmmnaa
open Go Go.Lg
attribute [local irreducible] funS bodyH
theorem rh_div (s z:Nat):(rhS s z:Int).tdiv 2=(rhS s (z+1):Nat):=by
 unfold rhS
 rw [Int.tdiv_eq_ediv_of_nonneg (Int.natCast_nonneg _),Nat.pow_succ,← Nat.div_div_eq_div_mul]
 omega
theorem rh_bit {s:Nat} {x:Int}:(rhS s x.toNat:Int).tmod 2=1↔hb s x=true:=by
 unfold hb rhS
 rw [Int.tmod_eq_emod_of_nonneg (Int.natCast_nonneg _),Nat.testBit_eq_decide_div_mod_eq,decide_eq_true_eq]
 omega
theorem rha_true {s x:Int} (hs:0≤s∧s≤1000) (hx:0≤x∧x<64):rhaG s x:=by
 rw [rhaG_vc]
 simp only [rI,rE,tt3,tt4,tt5,tt13,tt14,and_true,true_and,Nat.zero_lt_one,and_self,implies_true,Int.toNat_natCast,Nat.zero_add,Nat.add_zero,Nat.one_mul,Nat.mul_one,Classical.not_not,iff_self,Bool.false_eq_true,imp_false,and_imp,true_implies,forall_const,p_f3,p_s3,p_f4,prI_i,not_true,false_implies,band_rec]
 have le:∀ z,rhS s.toNat z≤1000:=fun z=>Nat.le_trans (Nat.div_le_self _ _) (by omega)
 refine ⟨⟨0,⟨by omega⟩,by unfold rhS; omega,rfl⟩,fun z hz=>⟨fun hl=>⟨by omega,?_,by omega,z+1,⟨by omega⟩,by omega,rh_div _ _,by omega⟩,fun hl=>⟨by omega,?_⟩⟩⟩
 ·rw [rh_div]; have:=le (z+1); omega
 ·have:=hz.a
  obtain rfl:z=x.toNat:=by omega
  exact rh_bit
theorem rin_true {s a b c d:Int} (hs:0≤s∧s≤1000) (ha:0≤a∧a<64) (hb':0≤b∧b<64):rinG s a b c d:=by
 rw [rinG_vc]
 simp only [rI,rE,tt3,tt4,tt5,tt13,tt14,and_true,true_and,Nat.zero_lt_one,and_self,implies_true,Int.toNat_natCast,Nat.zero_add,Nat.add_zero,Nat.one_mul,Nat.mul_one,Classical.not_not,iff_self,Bool.false_eq_true,imp_false,and_imp,true_implies,forall_const,p_f3,p_s3,p_f4,prI_i,not_true,false_implies,band_rec]
 refine ⟨⟨hs,ha⟩,fun h=>⟨⟨hs,hb'⟩,?_⟩,fun h=>?_⟩
 ·have:hb s.toNat a=false:=by simpa using h
  rw [this]; simp
 ·rw [h]; simp
theorem rou_true {s a b c d:Int} (hs:0≤s∧s≤1000) (ha:0≤a∧a<64) (hb':0≤b∧b<64):rouG s a b c d:=by
 rw [rouG_vc]
 simp only [rI,rE,tt3,tt4,tt5,tt13,tt14,and_true,true_and,Nat.zero_lt_one,and_self,implies_true,Int.toNat_natCast,Nat.zero_add,Nat.add_zero,Nat.one_mul,Nat.mul_one,Classical.not_not,iff_self,Bool.false_eq_true,imp_false,and_imp,true_implies,forall_const,p_f3,p_s3,p_f4,prI_i,not_true,false_implies,band_rec]
 refine ⟨⟨hs,ha⟩,fun h=>⟨⟨hs,hb'⟩,?_⟩,fun h=>?_⟩
 ·rw [h]; simp
 ·have:hb s.toNat a=false:=by simpa using h
  rw [this]; simp
theorem st_true {p:Pl} (hk:0≤p.k∧p.k≤8):stG p:=by
 rw [stG_vc]
 simp only [rI,rE,tt3,tt4,tt5,tt13,tt14,and_true,true_and,Nat.zero_lt_one,and_self,implies_true,Int.toNat_natCast,Nat.zero_add,Nat.add_zero,Nat.one_mul,Nat.mul_one,Classical.not_not,iff_self,Bool.false_eq_true,imp_false,and_imp,true_implies,forall_const,p_f3,p_s3,p_f4,prI_i,not_true,false_implies,band_rec]
 have e:∀ z,2*(pw2 z:Int)=(pw2 (z+1):Nat):=fun z=>by unfold pw2; rw [Nat.pow_succ]; omega
 refine ⟨⟨0,⟨by omega⟩,rfl,rfl⟩,fun z hz=>⟨fun hl=>⟨?_,by omega,z+1,⟨by omega⟩,by omega,e z,by omega⟩,fun hl=>?_⟩⟩
 ·rw [e]
  have h:pw2 (z+1)≤2 ^ 8:=Nat.pow_le_pow_right (by omega) (by omega)
  have h2:(2:Nat) ^ 8=256:=by decide
  omega
 ·have:=hz.a
  obtain rfl:z=p.k.toNat:=by omega
  rfl
theorem rn_true {p:Pl} {s:Nat} {b:Int} (hs:s≤1000) (hp:okP p):rnG p s b:=by
 rw [rnG_vc]
 simp only [rI,rE,tt3,tt4,tt5,tt13,tt14,and_true,true_and,Nat.zero_lt_one,and_self,implies_true,Int.toNat_natCast,Nat.zero_add,Nat.add_zero,Nat.one_mul,Nat.mul_one,Classical.not_not,iff_self,Bool.false_eq_true,imp_false,and_imp,true_implies,forall_const,p_f3,p_s3,p_f4,prI_i,not_true,false_implies,band_rec]
 have hn:=hp.n
 have hk:=hp.k
 have bl:∀ i,i<p.f.n→-2147483648≤p.f.lo i∧p.f.lo i≤2147483648:=fun i hi=>by have:=hp.gas i hi; omega
 have bh:∀ i,i<p.f.n→-2147483648≤p.f.hi i∧p.f.hi i≤2147483648:=fun i hi=>by have:=hp.gas i hi; omega
 refine ⟨⟨0,⟨by omega⟩,rfl,rfl,rfl⟩,fun z hz=>⟨fun hl=>?_,fun hl=>?_⟩⟩
 ·have hz':z<p.f.n:=by omega
  have fr:=hp.fr z hz'
  have to:=hp.to z hz'
  have c1:=sm_le (p:=gvB p.f s) bl z hz.a
  have c2:=sm_le (p:=gvB p.f s) bh z hz.a
  have c3:=sm_le (p:=tkX p.f s b) bl z hz.a
  have c4:=sm_le (p:=tkX p.f s b) bh z hz.a
  have l1:=bl z hz'
  have l2:=bh z hz'
  simp only [eL,eH]
  refine ⟨by omega,by omega,⟨by omega,by omega,by omega⟩,fun hg=>⟨by omega,by omega,by omega,fun ht=>absurd hg (tk_gv (f:=p.f) (i:=z) ht),fun ht=>?_⟩,fun hg=>⟨by omega,fun ht=>⟨fun hb'=>⟨by omega,by omega,by omega,z+1,⟨hz'⟩,by omega,by omega,?_⟩,fun hb'=>⟨by omega,z+1,⟨hz'⟩,by omega,by omega,?_⟩⟩,fun ht=>⟨by omega,z+1,⟨hz'⟩,by omega,by omega,?_⟩⟩⟩
  ·have hx:¬ tkX p.f s b z=true:=fun h=>by
    unfold tkX at h; rw [Bool.and_eq_true] at h; exact ht h.1
   have hg:gvB p.f s z=true:=hg
   refine ⟨by omega,z+1,⟨hz'⟩,by omega,by omega,?_⟩
   rw [sm_y hg,sm_y hg,sm_n hx,sm_n hx]
   exact ⟨by omega,by omega⟩
  ·have hx:tkX p.f s b z=true:=by
    have ht:tkB p.f s z=true:=ht
    unfold tkX; rw [ht,decide_eq_false hb']; rfl
   have hg:¬ gvB p.f s z=true:=hg
   rw [sm_n hg,sm_n hg,sm_y hx,sm_y hx]
   exact ⟨by omega,by omega⟩
  ·have hx:¬ tkX p.f s b z=true:=fun h=>by
    unfold tkX at h; rw [decide_eq_true hb',Bool.and_eq_true] at h; exact Bool.false_ne_true h.2
   have hg:¬ gvB p.f s z=true:=hg
   rw [sm_n hg,sm_n hg,sm_n hx,sm_n hx]
   exact ⟨rfl,rfl⟩
  ·have hx:¬ tkX p.f s b z=true:=fun h=>by
    unfold tkX at h; rw [Bool.and_eq_true] at h; exact ht h.1
   have hg:¬ gvB p.f s z=true:=hg
   rw [sm_n hg,sm_n hg,sm_n hx,sm_n hx]
   exact ⟨rfl,rfl⟩
 ·have:=hz.a
  obtain rfl:z=p.f.n:=by omega
  exact ⟨rfl,rfl⟩
theorem rl_true {s:Nat} (hs:s≤1000):rlG s:=by
 rw [rlG_vc]
 simp only [rI,rE,tt3,tt4,tt5,tt13,tt14,and_true,true_and,Nat.zero_lt_one,and_self,implies_true,Int.toNat_natCast,Nat.zero_add,Nat.add_zero,Nat.one_mul,Nat.mul_one,Classical.not_not,iff_self,Bool.false_eq_true,imp_false,and_imp,true_implies,forall_const,p_f3,p_s3,p_f4,prI_i,not_true,false_implies,band_rec]
 refine ⟨⟨0,⟨by omega,rfl⟩,rfl⟩,fun z hz hf=>⟨fun hl=>⟨⟨by omega,by omega⟩,fun h=>?_,fun h=>⟨by omega,z+1,⟨by omega,by rw [fl_n (p:=fun x=>hb s (x:Int)) (by simpa using h),hf]⟩,by omega,by omega⟩⟩,fun hl=>?_⟩,fun z hz=>⟨fun hl=>⟨⟨by omega,by omega⟩,fun h=>?_,fun h=>?_⟩,fun hl=>?_⟩⟩
 ·obtain ⟨o1,o2⟩:=fl_one (p:=fun x=>hb s (x:Int)) h hf
  exact ⟨by omega,by omega,by omega,z+1,by omega,by omega,o1.symm,by omega,o1,o2⟩
 ·have:z=8:=by omega
  subst this
  unfold plL
  rw [hf]; rfl
 ·have:=fl_le (p:=fun x=>hb s (x:Int)) z
  exact ⟨by omega,by omega,by omega,z+1,by omega,by omega,(fl_len (p:=fun x=>hb s (x:Int)) h).symm,by omega,fl_len (p:=fun x=>hb s (x:Int)) h,fl_get (p:=fun x=>hb s (x:Int)) h⟩
 ·exact ⟨by omega,z+1,by omega,by omega,by rw [fl_n (p:=fun x=>hb s (x:Int)) (by simpa using h)],by omega,by rw [fl_n (p:=fun x=>hb s (x:Int)) (by simpa using h)],by rw [fl_n (p:=fun x=>hb s (x:Int)) (by simpa using h)]; exact fun i _=>rfl⟩
 ·have:z=8:=by omega
  subst this
  exact ⟨rfl,Nat.le_refl _,fun i _=>rfl⟩
end Go.Proofs.Ytmjbflifegmmnaa

set_option maxRecDepth 100000
namespace Go.Proofs.Ytmjbflifegmmnaa
open Go Go.Lg
attribute [local irreducible] funS bodyH
theorem rha_ok:rhaC.Ok Try.prog:=by
 refine ⟨by kernel_rfl,fun x k hk=>?_⟩
 simp only [rhaC] at hk
 split at hk
 ·obtain ⟨⟨h1,h2⟩,hk⟩:=hk
  have hh:=rha_true h1 h2
  unfold rhaG at hh
  exact ⟨_,okV nil_cs nil_x nil_ic hh trivial,hk⟩
 ·exact hk.elim
theorem rha_cs:SoundS Try.prog (ctrs [rhaC]):=ctrs_sound (by intro y hy; simp at hy; subst hy; exact rha_ok)
theorem rin_ok':rinC.Ok Try.prog:=by
 refine ⟨by kernel_rfl,fun x k hk=>?_⟩
 simp only [rinC] at hk
 split at hk
 ·rename_i a b c d s
  obtain ⟨⟨h1,h2,h3⟩,hk⟩:=hk
  have hh:=rin_true (c:=c) (d:=d) h1 h2 h3
  unfold rinG at hh
  exact ⟨_,okV rha_cs nil_x nil_ic hh trivial,hk⟩
 ·exact hk.elim
theorem rou_ok:rouC.Ok Try.prog:=by
 refine ⟨by kernel_rfl,fun x k hk=>?_⟩
 simp only [rouC] at hk
 split at hk
 ·rename_i a b c d s
  obtain ⟨⟨h1,h2,h3⟩,hk⟩:=hk
  have hh:=rou_true (c:=c) (d:=d) h1 h2 h3
  unfold rouG at hh
  exact ⟨_,okV rha_cs nil_x nil_ic hh trivial,hk⟩
 ·exact hk.elim
theorem st_ok:stC.Ok Try.prog:=plC_ok (by kernel_rfl) fun w r k hk=>by
 split at hk
 ·obtain ⟨h1,hk⟩:=hk
  have hh:=st_true h1
  unfold stG at hh
  exact ⟨_,okV nil_cs nil_x nil_ic hh trivial,hk⟩
 ·exact hk.elim
theorem rn_ok:rnC.Ok Try.prog:=plC_ok (by kernel_rfl) fun w r k hk=>by
 split at hk
 ·rename_i s b
  obtain ⟨⟨h1,h2⟩,hk⟩:=hk
  have hh:=rn_true (s:=s.toNat) (b:=b) (by omega) h2
  unfold rnG at hh
  rw [toN h1.1] at hh
  exact ⟨_,okV (ctrs_sound (by
   intro x hx
   simp only [List.mem_cons,List.not_mem_nil,or_false] at hx
   rcases hx with rfl | rfl
   ·exact rin_ok'
   ·exact rou_ok)) nil_x nil_ic hh ⟨trivial,trivial,trivial⟩,hk⟩
 ·exact hk.elim
theorem rl_ok:rlC.OkF Try.prog:=by
 refine ⟨by kernel_rfl,fun x k hk=>?_⟩
 simp only [rlC] at hk
 split at hk
 ·rename_i s
  obtain ⟨hs,hk⟩:=hk
  have hh:=rl_true (s:=s.toNat) (by omega)
  unfold rlG at hh
  rw [toN hs.1] at hh
  exact ⟨_,funH_does rha_cs nil_x nil_ic mixed hh,hk⟩
 ·exact hk.elim
theorem wr_no {p:Pl} (h:¬ wrE p=0):wrL p=[]:=by unfold wrL; rw [if_neg h]
theorem wh_no {p:Pl} {i:Int} {b:Bool} (h:¬ whE p i b=0):whL p i b=[]:=by unfold whL; rw [if_neg h]
theorem tkx_m1 (f:Fl) (s:Nat) (g:Nat→Int) (n:Nat):sm (tkX f s (-1)) g n=sm (tkB f s) g n:=sm_congr fun i hi=>⟨by
 unfold tkX
 rw [decide_eq_false (by omega:¬ (i:Int)=-1),Bool.not_false,Bool.and_true],fun _=>rfl⟩
theorem tkx_i {f:Fl} {s n:Nat} {i:Int} (g:Nat→Int) (ht:tkB f s i.toNat=true) (h0:0≤i) (hi:i.toNat<n):sm (tkX f s i) g n=sm (tkB f s) g n - g i.toNat:=by
 have e:sm (tkX f s i) g n=sm (fun j=>!decide ((j:Int)=i) && tkB f s j) g n:=sm_congr fun j hj=>⟨Bool.and_comm _ _,fun _=>rfl⟩
 rw [e,sm_but,if_pos ⟨⟨h0,by omega⟩,ht⟩]
theorem en_f {p:Pl} {s:Nat} {i:Int} (ht:tkB p.f s i.toNat=true) (h0:0≤i) (hi:i.toNat<p.f.n):eL p.f s i p.f.n=bnd false p.f i.toNat s:=by
 unfold eL bnd OL IH
 rw [tkx_i _ ht h0 hi,cond_false]
theorem en_t {p:Pl} {s:Nat} {i:Int} (ht:tkB p.f s i.toNat=true) (h0:0≤i) (hi:i.toNat<p.f.n):eH p.f s i p.f.n=bnd true p.f i.toNat s:=by
 unfold eH bnd OH IL
 rw [tkx_i _ ht h0 hi,cond_true]
theorem rw_true {p:Pl} (hl:lenB p):rwG p:=by
 rw [rwG_vc]
 simp only [rI,rE,tt3,tt4,tt5,tt13,tt14,and_true,true_and,Nat.zero_lt_one,and_self,implies_true,Int.toNat_natCast,Nat.zero_add,Nat.add_zero,Nat.one_mul,Nat.mul_one,Classical.not_not,iff_self,Bool.false_eq_true,imp_false,and_imp,true_implies,forall_const,p_f3,p_s3,p_f4,prI_i,not_true,false_implies,band_rec]
 have c1:okP p→¬ chE p=1:=fun hp=>by rw [chE,if_pos hp]; cases cEx p <;> decide
 refine ⟨hl,fun h=>?_,fun h=>⟨fun h0=>?_,fun h0=>?_⟩⟩
 ·have hp:¬ okP p:=fun hp=>c1 hp h
  have e:wrE p=1:=by rw [wrE,if_neg hp]
  exact ⟨by rw [wr_no (by omega)]; rfl,by omega⟩
 ·obtain ⟨hp,hH⟩:=chE_0 h0
  have e:wrE p=4:=by rw [wrE,if_pos hp,cEx_hof.2 hH]; rfl
  exact ⟨by rw [wr_no (by omega)]; rfl,by omega⟩
 ·have hp:okP p:=Classical.byContradiction fun hp=>h (by rw [chE,if_neg hp])
  have hH:¬ Hof p:=fun hH=>h0 (chE_ok hp hH).1
  have hk:=hp.k
  have hc:cEx p=true:=by
   cases e:cEx p
   ·exact absurd (cEx_hof.1 e) hH
   ·rfl
  have e:wrE p=0:=by rw [wrE,if_pos hp,hc]; rfl
  have pw:=pwk_le hk.2
  have eb:∀ z:Nat,eH p.f z (-1) p.f.n<0↔bad p.f z=true:=fun z=>by
   rw [bad_t]
   unfold eH OH IL
   rw [tkx_m1]
   omega
  refine ⟨⟨0,⟨by omega,hp,hH,fun t ht=>by omega⟩,rfl⟩,fun z hz=>⟨by omega,fun hlt=>⟨⟨by omega,hp⟩,fun hb=>?_,fun hb=>?_⟩,fun hge=>?_⟩⟩
  ·have ef:=fst_at (P:=bad p.f) (n:=pwk p.k) (by omega) hz.f ((eb z).1 hb)
   have eF:cFs p=z:=by unfold cFs; rw [hc,ef]; rfl
   have eW:wrL p=plL z:=by unfold wrL; rw [if_pos e,eF]
   rw [eW]
   exact ⟨by omega,rfl,fun j hj=>rfl,e.symm⟩
  ·refine ⟨by omega,z+1,⟨by omega,hp,hH,fun t ht=>?_⟩,by omega,by omega⟩
   by_cases et:t=z
   ·subst et; exact Bool.eq_false_iff.2 fun h=>hb ((eb t).2 h)
   ·exact hz.f t (by omega)
  ·exact absurd (fun s hs=>hz.f s (by have:=hz.a; omega)) hH
theorem ryf_true {p:Pl} {i:Int} (hl:lenB p):ryf p i:=by
 rw [ryf_vc]
 simp only [rI,rE,tt3,tt4,tt5,tt13,tt14,and_true,true_and,Nat.zero_lt_one,and_self,implies_true,Int.toNat_natCast,Nat.zero_add,Nat.add_zero,Nat.one_mul,Nat.mul_one,Classical.not_not,iff_self,Bool.false_eq_true,imp_false,and_imp,true_implies,forall_const,p_f3,p_s3,p_f4,prI_i,not_true,false_implies,band_rec]
 refine ⟨fun hp=>?_,fun hp=>?_⟩
 ·have e:whE p i false=1:=by rw [whE,if_neg hp]
  exact ⟨by rw [wh_no (by omega)]; rfl,e.symm⟩
 have hn:=hp.n
 have hk:=hp.k
 refine ⟨by omega,fun hi=>?_,fun hi0 hi1=>⟨hl,fun hc=>?_,fun hc=>?_⟩⟩
 ·have e:whE p i false=2:=by rw [whE,if_pos hp,if_pos (by omega)]
  exact ⟨by rw [wh_no (by omega)]; rfl,e.symm⟩
 ·have e:whE p i false=chE p:=by rw [whE,if_pos hp,if_neg (by omega),if_neg hc]
  exact ⟨by rw [wh_no (by omega)]; rfl,e.symm⟩
 have hH:=(chE_0 hc).2
 have eN:okN p=p.f.n:=(chE_ok hp hH).2
 have hit:i.toNat<p.f.n:=by omega
 refine ⟨hi0,by omega,hi0,by rw [eN]; omega,fun ho=>?_,fun ho=>⟨⟨0,⟨by omega,⟨hi0,by omega⟩,hp,hH,ho,fun t ht=>by omega⟩,rfl⟩,fun z hz=>⟨by omega,fun hlt=>?_,fun hge=>?_⟩⟩⟩
 ·have e:whE p i false=4:=by rw [whE,if_pos hp,if_neg (by omega),if_pos hc,if_pos (show tgE false p i.toNat=own false p.f i.toNat from ho)]
  exact ⟨by rw [wh_no (by omega)]; rfl,e.symm⟩
 ·have pw:=pwk_le hk.2
  have fr:=hp.fr _ hit
  have to:=hp.to _ hit
  refine ⟨⟨by omega,hp⟩,hi0,by omega,⟨by omega,by omega,by omega⟩,fun ht=>⟨hi0,by rw [eN]; omega,fun he=>?_,fun he=>?_⟩,fun ht=>?_⟩
  ·have ht:tkB p.f z i.toNat=true:=ht
   have hP:prP false p.f i.toNat (tgE false p i.toNat) z=true:=by
    unfold prP
    rw [ht,decide_eq_true ((en_f ht hi0 hit).symm.trans he)]; rfl
   have e:whE p i false=0:=by rw [whE,if_pos hp,if_neg (by omega),if_pos hc,if_neg (show ¬ tgE false p i.toNat=own false p.f i.toNat from ho)]
   have ef:=fst_at (P:=prP false p.f i.toNat (tgE false p i.toNat)) (n:=pwk p.k) (by omega) hz.f hP
   have eS:prS false p i.toNat (tgE false p i.toNat)=z:=by unfold prS; rw [ef,if_pos (by omega)]
   have eL':whL p i false=plL z:=by unfold whL; rw [if_pos e,eS]
   rw [eL']
   exact ⟨by omega,rfl,fun j hj=>rfl,e.symm⟩
  ·refine ⟨by omega,z+1,⟨by omega,hz.n,hp,hH,ho,fun t ht'=>?_⟩,by omega,by omega⟩
   by_cases et:t=z
   ·subst et
    have ht:tkB p.f t i.toNat=true:=ht
    unfold prP
    rw [decide_eq_false fun h=>he ((en_f ht hi0 hit).trans h),Bool.and_false]
   ·exact hz.f t (by omega)
  ·refine ⟨by omega,z+1,⟨by omega,hz.n,hp,hH,ho,fun t ht'=>?_⟩,by omega,by omega⟩
   by_cases et:t=z
   ·subst et
    have ht:tkB p.f t i.toNat=false:=Bool.eq_false_iff.2 ht
    unfold prP
    rw [ht]; rfl
   ·exact hz.f t (by omega)
 ·obtain ⟨s1,s2,s3⟩:=pr_set ho
  have:=hz.f _ (by have:=hz.a; omega:prS false p i.toNat (tgE false p i.toNat)<z)
  unfold prP at this
  rw [s2,decide_eq_true s3] at this
  exact absurd this (by decide)

theorem ryt_true {p:Pl} {i:Int} (hl:lenB p):ryt p i:=by
 rw [ryt_vc]
 simp only [rI,rE,tt3,tt4,tt5,tt13,tt14,and_true,true_and,Nat.zero_lt_one,and_self,implies_true,Int.toNat_natCast,Nat.zero_add,Nat.add_zero,Nat.one_mul,Nat.mul_one,Classical.not_not,iff_self,Bool.false_eq_true,imp_false,and_imp,true_implies,forall_const,p_f3,p_s3,p_f4,prI_i,not_true,false_implies,band_rec]
 refine ⟨fun hp=>?_,fun hp=>?_⟩
 ·have e:whE p i true=1:=by rw [whE,if_neg hp]
  exact ⟨by rw [wh_no (by omega)]; rfl,e.symm⟩
 have hn:=hp.n
 have hk:=hp.k
 refine ⟨by omega,fun hi=>?_,fun hi0 hi1=>⟨hl,fun hc=>?_,fun hc=>?_⟩⟩
 ·have e:whE p i true=2:=by rw [whE,if_pos hp,if_pos (by omega)]
  exact ⟨by rw [wh_no (by omega)]; rfl,e.symm⟩
 ·have e:whE p i true=chE p:=by rw [whE,if_pos hp,if_neg (by omega),if_neg hc]
  exact ⟨by rw [wh_no (by omega)]; rfl,e.symm⟩
 have hH:=(chE_0 hc).2
 have eN:okN p=p.f.n:=(chE_ok hp hH).2
 have hit:i.toNat<p.f.n:=by omega
 refine ⟨hi0,by omega,hi0,by rw [eN]; omega,fun ho=>?_,fun ho=>⟨⟨0,⟨by omega,⟨hi0,by omega⟩,hp,hH,ho,fun t ht=>by omega⟩,rfl⟩,fun z hz=>⟨by omega,fun hlt=>?_,fun hge=>?_⟩⟩⟩
 ·have e:whE p i true=4:=by rw [whE,if_pos hp,if_neg (by omega),if_pos hc,if_pos (show tgE true p i.toNat=own true p.f i.toNat from ho)]
  exact ⟨by rw [wh_no (by omega)]; rfl,e.symm⟩
 ·have pw:=pwk_le hk.2
  have fr:=hp.fr _ hit
  have to:=hp.to _ hit
  refine ⟨⟨by omega,hp⟩,hi0,by omega,⟨by omega,by omega,by omega⟩,fun ht=>⟨hi0,by rw [eN]; omega,fun he=>?_,fun he=>?_⟩,fun ht=>?_⟩
  ·have ht:tkB p.f z i.toNat=true:=ht
   have hP:prP true p.f i.toNat (tgE true p i.toNat) z=true:=by
    unfold prP
    rw [ht,decide_eq_true ((en_t ht hi0 hit).symm.trans he)]; rfl
   have e:whE p i true=0:=by rw [whE,if_pos hp,if_neg (by omega),if_pos hc,if_neg (show ¬ tgE true p i.toNat=own true p.f i.toNat from ho)]
   have ef:=fst_at (P:=prP true p.f i.toNat (tgE true p i.toNat)) (n:=pwk p.k) (by omega) hz.f hP
   have eS:prS true p i.toNat (tgE true p i.toNat)=z:=by unfold prS; rw [ef,if_pos (by omega)]
   have eL':whL p i true=plL z:=by unfold whL; rw [if_pos e,eS]
   rw [eL']
   exact ⟨by omega,rfl,fun j hj=>rfl,e.symm⟩
  ·refine ⟨by omega,z+1,⟨by omega,hz.n,hp,hH,ho,fun t ht'=>?_⟩,by omega,by omega⟩
   by_cases et:t=z
   ·subst et
    have ht:tkB p.f t i.toNat=true:=ht
    unfold prP
    rw [decide_eq_false fun h=>he ((en_t ht hi0 hit).trans h),Bool.and_false]
   ·exact hz.f t (by omega)
  ·refine ⟨by omega,z+1,⟨by omega,hz.n,hp,hH,ho,fun t ht'=>?_⟩,by omega,by omega⟩
   by_cases et:t=z
   ·subst et
    have ht:tkB p.f t i.toNat=false:=Bool.eq_false_iff.2 ht
    unfold prP
    rw [ht]; rfl
   ·exact hz.f t (by omega)
 ·obtain ⟨s1,s2,s3⟩:=pr_set ho
  have:=hz.f _ (by have:=hz.a; omega:prS true p i.toNat (tgE true p i.toNat)<z)
  unfold prP at this
  rw [s2,decide_eq_true s3] at this
  exact absurd this (by decide)

theorem rw_ok':rwC.OkF Try.prog:=plC_okF (by kernel_rfl) fun w r k hk=>by
 split at hk
 ·obtain ⟨hl,hk⟩:=hk
  have hh:=rw_true hl
  unfold rwG at hh
  exact ⟨_,funH_does (ctrsF_sound (ctrs_sound (by
   intro x hx
   simp only [List.mem_cons,List.not_mem_nil,or_false] at hx
   rcases hx with rfl | rfl
   ·exact st_ok
   ·exact rn_ok)) (by
   intro x hx
   simp only [List.mem_cons,List.not_mem_nil,or_false] at hx
   rcases hx with rfl | rfl
   ·exact rt_ok
   ·exact rl_ok)) nil_x nil_ic mixed hh,hk⟩
 ·exact hk.elim
theorem ry_cs:SoundS Try.prog (ctrsF [rgC,rlC] (ctrs [valC hPlant,inC,stC,rnC,rinC])):=ctrsF_sound (ctrs_sound (by
 intro x hx
 simp only [List.mem_cons,List.not_mem_nil,or_false] at hx
 rcases hx with rfl | rfl | rfl | rfl | rfl
 ·exact rPl_ok
 ·exact in_ok
 ·exact st_ok
 ·exact rn_ok
 ·exact rin_ok')) (by
 intro x hx
 simp only [List.mem_cons,List.not_mem_nil,or_false] at hx
 rcases hx with rfl | rfl
 ·exact rg_ok
 ·exact rl_ok)
theorem ry_ok:ryC.OkF Try.prog:=plC_okF (by kernel_rfl) fun w r k hk=>by
 split at hk
 ·rename_i i b
  obtain ⟨hl,hk⟩:=hk
  refine ⟨_,?_,hk⟩
  cases b
  ·have hh:=ryf_true (i:=i) hl
   unfold ryf ryG at hh
   exact funH_does ry_cs nil_x nil_ic mixed hh
  ·have hh:=ryt_true (i:=i) hl
   unfold ryt ryG at hh
   exact funH_does ry_cs nil_x nil_ic mixed hh
 ·exact hk.elim
theorem pl8 (s:Nat):(plL s).length≤100000:=Nat.le_trans (fl_le 8) (by omega)
theorem wh8 (p:Pl) (i:Int) (b:Bool):(whL p i b).length≤100000:=by
 unfold whL
 split
 ·exact pl8 _
 ·exact Nat.zero_le _
theorem wr8 (p:Pl):(wrL p).length≤100000:=by
 unfold wrL
 split
 ·exact pl8 _
 ·exact Nat.zero_le _
theorem bpf_true (p:Pl) (i:Int):bpf p i:=by
 rw [bpf_vc]
 simp only [rI,rE,tt3,tt4,tt5,tt13,tt14,and_true,true_and,Nat.zero_lt_one,and_self,implies_true,Int.toNat_natCast,Nat.zero_add,Nat.add_zero,Nat.one_mul,Nat.mul_one,Classical.not_not,iff_self,Bool.false_eq_true,imp_false,and_imp,true_implies,forall_const,p_f3,p_s3,p_f4,prI_i,not_true,false_implies,band_rec]
 refine ⟨by omega,fun h=>?_⟩
 have hl:=len_ok (by omega) h
 exact ⟨hl,hl,rfl,rfl,wh8 _ _ _,⟨⟨rfl,rfl,wr8 _,fun h=>h⟩,fun h=>h⟩,fun h=>h⟩
theorem bpt_true (p:Pl) (i:Int):bpt p i:=by
 rw [bpt_vc]
 simp only [rI,rE,tt3,tt4,tt5,tt13,tt14,and_true,true_and,Nat.zero_lt_one,and_self,implies_true,Int.toNat_natCast,Nat.zero_add,Nat.add_zero,Nat.one_mul,Nat.mul_one,Classical.not_not,iff_self,Bool.false_eq_true,imp_false,and_imp,true_implies,forall_const,p_f3,p_s3,p_f4,prI_i,not_true,false_implies,band_rec]
 refine ⟨by omega,fun h=>?_⟩
 have hl:=len_ok (by omega) h
 exact ⟨hl,hl,rfl,rfl,wh8 _ _ _,⟨⟨rfl,rfl,wr8 _,fun h=>h⟩,fun h=>h⟩,fun h=>h⟩
theorem bp_cs:SoundS Try.prog (ctrsF [ryC,rwC] (ctrs [lgC,awaC,whyC,wroC,itsC])):=ctrsF_sound (ctrs_sound (by
 intro x hx
 simp only [List.mem_cons,List.not_mem_nil,or_false] at hx
 rcases hx with rfl | rfl | rfl | rfl | rfl
 ·exact lg_ok
 ·exact awa_ok
 ·exact why_ok
 ·exact wro_ok
 ·exact its_ok)) (by
 intro x hx
 simp only [List.mem_cons,List.not_mem_nil,or_false] at hx
 rcases hx with rfl | rfl
 ·exact ry_ok
 ·exact rw_ok')
end Go.Proofs.Ytmjbflifegmmnaa
