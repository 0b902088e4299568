import Derived.Test.YtfobgmecnlehaaaEcEcVEd
set_option linter.unusedVariables false
set_option linter.unusedSimpArgs false
namespace Go.Proofs.Ytfobgmecnlehaaa
open Go Go.Lg
attribute [local irreducible] bodyH funS
def pmV (a:Act) (n:Nat) (f:Nat→Yr):SV:=.clo (.func 51) [] [.ipt a.cells,.ipt [yrL n f]]
noncomputable def pmG (a:Act) (n:Nat) (f:Nat→Yr):Prop:=funH Try.prog (ctrs []) noX (ictrs []) noL noL 37 [a.sv,yrL n f] (pmV a n f)
noncomputable def pmC:Ctr:=⟨37,fun args k=>match args with
 | [.agg [.int .i64 a,.int .i64 b,.int .i64 c,.int .i64 d,.int .i64 e,.int .i64 f],.lst 3 n h]=>SV.lst 3 n h=yrL n (yrF h)∧k (pmV ⟨a,b,c,d,e,f⟩ n (yrF h))
 | _=>False⟩
noncomputable def itC:ICtr:=⟨51,fun fs us k=>match fs,us with
 | [],[.ipt [.int .i64 a,.int .i64 b,.int .i64 c,.int .i64 d,.int .i64 e,.int .i64 f],.ipt [.lst 3 n h]]=>SV.lst 3 n h=yrL n (yrF h)∧okA ⟨a,b,c,d,e,f⟩∧okYs n (yrF h)∧n≤16∧k n 2 fun j=>[i6 j,(pyJ ⟨a,b,c,d,e,f⟩ (yrF h) j).sv]
 | _,_=>False⟩
noncomputable def csP:CSpec:=ctrsF [pmC] (ctrs [erC 36,afC])
noncomputable def ruN (a:Act) (n:Nat) (f:Nat→Yr):Nat:=if erA a n f=0 then n else 0
def pyL (n:Nat) (g:Nat→Pay):SV:=.lst 6 n fun i=>(g i).sv
noncomputable def ruR (a:Act) (n:Nat) (f:Nat→Yr):SV:=.tup [pyL (ruN a n f) (pyJ a f),i6 (erA a n f)]
def slV:SV→Option Nat
 | .sl r _ _=>some r
 | _=>none
noncomputable def msV (i:Nat) (X:XS):Ms:=match X.row i with
 | some R=>[slV (R.f 0)]
 | none=>[none]
noncomputable def ruI (a:Act) (n:Nat) (f:Nat→Yr):ISpecR:={ τ:=Unit,rdt:=fun _ _ k=>k (),rdtOK:=fun _ _ _ h=>⟨(),h⟩,s:=fun _=>{ σ:=Nat,inv:=fun j z=>z=j,nr:=2,ms:=fun _ X=>msV 1 X,t:=mkF 26 [(7,.ptr 1 0 0)],X:=fun j=>mkX [vr 6 a.sv,vr 1 (.sl 2 0 j),rw' 6 j fun i=>(pyJ a f i).sv],rd:=fun _ _ k=>∃ z,k z,rdOK:=fun _ _ _ h=>h } }
noncomputable def ruG (a:Act) (n:Nat) (f:Nat→Yr):Prop:=funN Try.prog csP noX (ictrs [itC]) noL (oneL 0 (ruI a n f)) 16 [a.sv,yrL n f] (ruR a n f)
noncomputable def ruC (g:FuncId):Ctr:=⟨g,fun args k=>match args with
 | [.agg [.int .i64 a,.int .i64 b,.int .i64 c,.int .i64 d,.int .i64 e,.int .i64 f],.lst 3 n h]=>SV.lst 3 n h=yrL n (yrF h)∧n<1000∧k (ruR ⟨a,b,c,d,e,f⟩ n (yrF h))
 | _=>False⟩
noncomputable def mtJ (p q:Nat→Pay):Nat→Nat
 | 0=>0
 | k+1=>if mtJ p q k<k then mtJ p q k else @ite _ (p k=q k) (Classical.propDecidable _) (k+1) k
end Go.Proofs.Ytfobgmecnlehaaa

set_option maxRecDepth 100000
namespace Go.Proofs.Ytfobgmecnlehaaa
open Go Go.Lg
theorem pmG_vc (a:Ytfobgmecnlehaaa.Act) (n:Nat) (f:Nat→Yr):pmG a n f =
((0:Nat)<(1:Nat) ∧
 a.1=a.1 ∧
  a.2=a.2 ∧
   a.3=a.3 ∧
    a.4=a.4 ∧
     a.5=a.5 ∧
      a.6=a.6 ∧
       (0:Nat)<(1:Nat) ∧
        n=n∧(∀ (i:Nat),i<n→(f i).sv.den=(f i).sv.den∧True∧True∧True∧True)∧True):=by kernel_rfl
theorem ruG_vc (a:Ytfobgmecnlehaaa.Act) (n:Nat) (f:Nat→Yr):ruG a n f =
((0:Nat)<(1:Nat)∧(∀ (i:Nat),i<n→True∧True∧True∧True)∧(SV.lst (3:Nat) n fun i=>(f i).sv)=yrL n (yrF fun i=>(f i).sv)∧n<(1000:Nat)∧(¬erA (Ytfobgmecnlehaaa.Act.mk a.pr a.dv a.st a.gn a.mo a.ba) n (yrF fun i=>(f i).sv)=(0:Int)→(0:Nat)=ruN a n f∧erA (Ytfobgmecnlehaaa.Act.mk a.pr a.dv a.st a.gn a.mo a.ba) n (yrF fun i=>(f i).sv)=erA a n f∧True)∧(¬¬erA (Ytfobgmecnlehaaa.Act.mk a.pr a.dv a.st a.gn a.mo a.ba) n (yrF fun i=>(f i).sv)=(0:Int)→(0:Nat)<(1:Nat)∧(∀ (i:Nat),i<n→True∧True∧True∧True)∧(SV.lst (3:Nat) n fun i=>(f i).sv)=yrL n (yrF fun i=>(f i).sv)∧(∀ (i:Nat),i<n→True∧True∧True∧True)∧(SV.lst (3:Nat) n fun i=>(yrF (fun i=>(f i).sv) i).sv)=yrL n (yrF fun i=>(yrF (fun i=>(f i).sv) i).sv)∧okA (Ytfobgmecnlehaaa.Act.mk a.pr a.dv a.st a.gn a.mo a.ba)∧okYs n (yrF fun i
=> (yrF (fun i=>(f i).sv) i).sv)∧n≤(16:Nat)∧((True∧True∧True∧True∧True∧True∧True)∧((∀ (i:Nat),i<n→True∧True∧True∧True)∧True)∧∃ (z:Nat),z=(0:Nat)∧rE (0:Nat)∧rE (0:Nat)∧rE (Fn.func (51:FuncId))∧SV.denL (Ytfobgmecnlehaaa.Act.mk a.pr a.dv a.st a.gn a.mo a.ba).cells=SV.denL [SV.int IntKind.i64 a.pr,SV.int IntKind.i64 a.dv,SV.int IntKind.i64 a.st,SV.int IntKind.i64 a.gn,SV.int IntKind.i64 a.mo,SV.int IntKind.i64 a.ba]∧(True∧True∧True∧True∧True∧True∧True)∧SV.denL [yrL n (yrF fun i=>(f i).sv)]=SV.denL [SV.lst (3:Nat) n fun i=>(yrF (fun i=>(f i).sv) i).sv]∧((∀ (i:Nat),i<n→True∧True∧True∧True)∧True)∧a.1=a.1∧a.2=a.2∧a.3=a.3∧a.4=a.4∧a.5=a.5∧a.6=a.6∧rE (0:Nat)∧(0:Nat)=z∧z=(0:Nat)∧True)∧(∀ (j:Nat),j<n→∀ (z:Nat),z=j→(0:Nat)<(1 :
Nat)∧(0:Nat)<(1:Nat)∧True∧(∀ (i:Nat),i<(1:Nat)→rE true)∧rE (0:Nat)∧z=z∧(∀ (i:Nat),rE true)∧(z+(1:Nat))*(48:Nat)≤(140737488355328:Nat)∧z+(1:Nat)≤(4611686018427387904:Nat)∧∃ (z_1:Nat),z_1=j.succ∧a.1=a.1∧a.2=a.2∧a.3=a.3∧a.4=a.4∧a.5=a.5∧a.6=a.6∧rE (0:Nat)∧z+(1:Nat)=z_1∧z_1=z+(1:Nat)∧(∀ (i:Nat),i<z_1→rE (6:Nat)∧(if i<z then rtA a (f i).1 else rtA (Ytfobgmecnlehaaa.Act.mk a.pr a.dv a.st a.gn a.mo a.ba) (f j).1)=rtA a (f i).1∧(if i<z then duA a (f i) else duA (Ytfobgmecnlehaaa.Act.mk a.pr a.dv a.st a.gn a.mo a.ba) (yrF (fun i=>(yrF (fun i=>(f i).sv) i).sv) j))=duA a (f i)∧(if i<z then pdA a (stJ a f i) (f i) else pdA (Ytfobgmecnlehaaa.Act.mk a.pr a.dv a.st a.gn a.mo a.ba) (stJ (Ytfobgmecnlehaaa.Act.mk a.pr a.dv a.st a.gn a.mo a.ba) (yrF fun i=>(yrF (fun
i=>(f i).sv) i).sv) j) (yrF (fun i=>(yrF (fun i=>(f i).sv) i).sv) j))=pdA a (stJ a f i) (f i)∧(if i<z then arS a (stJ a f i) (f i) else arS (Ytfobgmecnlehaaa.Act.mk a.pr a.dv a.st a.gn a.mo a.ba) (stJ (Ytfobgmecnlehaaa.Act.mk a.pr a.dv a.st a.gn a.mo a.ba) (yrF fun i=>(yrF (fun i=>(f i).sv) i).sv) j) (yrF (fun i=>(yrF (fun i=>(f i).sv) i).sv) j))=arS a (stJ a f i) (f i)∧(if i<z then nB a (stJ a f i) (f i) else nB (Ytfobgmecnlehaaa.Act.mk a.pr a.dv a.st a.gn a.mo a.ba) (stJ (Ytfobgmecnlehaaa.Act.mk a.pr a.dv a.st a.gn a.mo a.ba) (yrF fun i=>(yrF (fun i=>(f i).sv) i).sv) j) (yrF (fun i=>(yrF (fun i=>(f i).sv) i).sv) j))=nB a (stJ a f i) (f i)∧(if i<z then (stJ a f i).1+(f i).3 - pdA a (stJ a f i) (f i) - nB a (stJ a f i) (f i) else (stJ (Ytfobgmecnlehaaa.Act.mk a.pr a.dv a.st a.gn a.mo a.ba) (yrF fun i=>(yrF (fun i=>(f i).sv) i).sv) j).1+(f
j).3 - pdA (Ytfobgmecnlehaaa.Act.mk a.pr a.dv a.st a.gn a.mo a.ba) (stJ (Ytfobgmecnlehaaa.Act.mk a.pr a.dv a.st a.gn a.mo a.ba) (yrF fun i=>(yrF (fun i=>(f i).sv) i).sv) j) (yrF (fun i=>(yrF (fun i=>(f i).sv) i).sv) j) - nB (Ytfobgmecnlehaaa.Act.mk a.pr a.dv a.st a.gn a.mo a.ba) (stJ (Ytfobgmecnlehaaa.Act.mk a.pr a.dv a.st a.gn a.mo a.ba) (yrF fun i=>(yrF (fun i=>(f i).sv) i).sv) j) (yrF (fun i=>(yrF (fun i=>(f i).sv) i).sv) j))=(stJ a f i).1+(f i).3 - pdA a (stJ a f i) (f i) - nB a (stJ a f i) (f i)∧True)∧True)∧∀ (z:Nat),z=n→(0:Nat)<(1:Nat)∧z=ruN a n f∧(0:Nat)+ruN a n f≤z∧(∀ (i:Nat),i<ruN a n f→rE (6:Nat)∧rE (6:Nat)∧rtA a (f (i+(0:Nat))).1=rtA a (f i).1∧duA a (f (i+(0:Nat)))=duA a (f i)∧pdA a (stJ a f (i+(0:Nat))) (f (i+(0:Nat)))=pdA a (stJ a f i) (f i)∧arS a (stJ a f (i+(0:Nat))) (f (i
+ (0:Nat)))=arS a (stJ a f i) (f i)∧nB a (stJ a f (i+(0:Nat))) (f (i+(0:Nat)))=nB a (stJ a f i) (f i)∧(stJ a f (i+(0:Nat))).1+(f (i+(0:Nat))).3 - pdA a (stJ a f (i+(0:Nat))) (f (i+(0:Nat))) - nB a (stJ a f (i+(0:Nat))) (f (i+(0:Nat)))=(stJ a f i).1+(f i).3 - pdA a (stJ a f i) (f i) - nB a (stJ a f i) (f i)∧True)∧(0:Int)=erA a n f∧True)):=by kernel_rfl
end Go.Proofs.Ytfobgmecnlehaaa

namespace Go.Proofs.Ytfobgmecnlehaaa
open Go Go.Lg
attribute [local irreducible] bodyH funS
def zP:Pay:=⟨0,0,0,0,0,0⟩
def p3 (a:Act) (s:Lg) (y:Yr):SV:=.agg [i6 (rtA a y.pr),i6 (duA a y),i6 (pdA a s y),i6 0,i6 0,i6 0]
end Go.Proofs.Ytfobgmecnlehaaa

set_option maxRecDepth 100000
namespace Go.Proofs.Ytfobgmecnlehaaa
open Go Go.Lg
end Go.Proofs.Ytfobgmecnlehaaa

set_option maxRecDepth 100000
namespace Go.Proofs.Ytfobgmecnlehaaa
open Go Go.Lg
attribute [local irreducible] funS bodyH
theorem pm_true (a:Act) (n:Nat) (f:Nat→Yr):pmG a n f:=by
 rw [pmG_vc]
 simp only [and_true,true_and,implies_true,Nat.zero_lt_one]
theorem pm_ok:pmC.OkF Try.prog:=by
 refine ⟨by kernel_rfl,fun x k hk=>?_⟩
 simp only [pmC] at hk
 split at hk
 ·rename_i a b c d e f n h
  obtain ⟨hf,hk⟩:=hk
  have hh:=pm_true ⟨a,b,c,d,e,f⟩ n (yrF h)
  unfold pmG at hh
  rw [← hf] at hh
  exact ⟨_,funH_does nilS_cs nilS_x nilS_ic mixed hh,hk⟩
 ·exact hk.elim
theorem csP_sound:SoundS Try.prog csP:=ctrsF_sound (two_cs fa_ok af_ok) (by intro x hx; simp at hx; subst hx; exact pm_ok)
theorem csI_sound:SoundS Try.prog csI:=three_cs du_ok kp_ok su_ok
theorem inl0 {Γ:Ghost} {γ:GS→Γ.S} {g:FuncId} {sp isp} {cx:CX} (h:SoundXH Try.prog Γ γ cx):SoundXH Try.prog Γ γ (inl Try.prog csI none (ictrs []) g sp isp cx):=inl_sound (ys:=none) csI_sound h trivial nilS_ic mixed
theorem it_ic:SoundIH Try.prog (ictrs [itC]):=ictrs_sound (by
 intro x hx
 simp at hx
 subst hx
 refine ⟨by kernel_rfl,fun fs us k hk=>?_⟩
 simp only [itC] at hk
 split at hk
 ·rename_i a b c d e f n h
  obtain ⟨hf,h1,h2,h3,hk⟩:=hk
  have key:=it_true h1 h2 h3
  unfold itG at key
  rw [← hf] at key
  have:=itH_ok csI_sound (fun Γ γ _=>inl0 (inl0 (inl0 noX_sound))) nilS_ic mixed key
  exact ⟨_,2,_,this,fun j hj=>rfl,hk⟩
 ·exact hk.elim)
end Go.Proofs.Ytfobgmecnlehaaa
