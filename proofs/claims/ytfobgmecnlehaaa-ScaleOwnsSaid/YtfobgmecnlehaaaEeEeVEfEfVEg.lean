import Derived.Test.YtfobgmecnlehaaaEcEcVEd
set_option linter.unusedVariables false
set_option linter.unusedSimpArgs false
namespace Go.Proofs.Ytfobgmecnlehaaa
open Go Go.Lg
attribute [local irreducible] bodyH funS
def pmV (a:Act) (n:Nat) (f:Nat→Yr):SV:=.clo (.func 51) [] [.ipt a.cells,.ipt [yrL n f]]
noncomputable def pmG (a:Act) (n:Nat) (f:Nat→Yr):Prop:=funH Try.prog (ctrs []) noX (ictrs []) noL noL 37 [a.sv,yrL n f] (pmV a n f)
noncomputable def pmC:Ctr:=⟨37,fun args k=>match args with
 | [.agg [.int .i64 a,.int .i64 b,.int .i64 c,.int .i64 d,.int .i64 e,.int .i64 f],.lst 3 n h]=>SV.lst 3 n h=yrL n (yrF h)∧k (pmV ⟨a,b,c,d,e,f⟩ n (yrF h))
 | _=>False⟩
noncomputable def itC:ICtr:=⟨51,fun fs us k=>match fs,us with
 | [],[.ipt [.int .i64 a,.int .i64 b,.int .i64 c,.int .i64 d,.int .i64 e,.int .i64 f],.ipt [.lst 3 n h]]=>SV.lst 3 n h=yrL n (yrF h)∧okA ⟨a,b,c,d,e,f⟩∧okYs n (yrF h)∧n≤16∧k n 2 fun j=>[i6 j,(pyJ ⟨a,b,c,d,e,f⟩ (yrF h) j).sv]
 | _,_=>False⟩
noncomputable def csP:CSpec:=ctrsF [pmC] (ctrs [erC 36,afC])
noncomputable def ruN (a:Act) (n:Nat) (f:Nat→Yr):Nat:=if erA a n f=0 then n else 0
def pyL (n:Nat) (g:Nat→Pay):SV:=.lst 6 n fun i=>(g i).sv
def slV:SV→Option Nat
 | .sl r _ _=>some r
 | _=>none
noncomputable def msV (i:Nat) (X:XS):Ms:=match X.row i with
 | some R=>[slV (R.f 0)]
 | none=>[none]
noncomputable def mtJ (p q:Nat→Pay):Nat→Nat
 | 0=>0
 | k+1=>if mtJ p q k<k then mtJ p q k else @ite _ (p k=q k) (Classical.propDecidable _) (k+1) k
end Go.Proofs.Ytfobgmecnlehaaa

set_option maxRecDepth 100000
namespace Go.Proofs.Ytfobgmecnlehaaa
open Go Go.Lg
theorem pmG_vc (a:Ytfobgmecnlehaaa.Act) (n:Nat) (f:Nat→Yr):pmG a n f =
((0:Nat)<(1:Nat) ∧
 a.1=a.1 ∧
  a.2=a.2 ∧
   a.3=a.3 ∧
    a.4=a.4 ∧
     a.5=a.5 ∧
      a.6=a.6 ∧
       (0:Nat)<(1:Nat) ∧
        n=n∧(∀ (i:Nat),i<n→(f i).sv.den=(f i).sv.den∧True∧True∧True∧True)∧True):=by kernel_rfl
end Go.Proofs.Ytfobgmecnlehaaa

namespace Go.Proofs.Ytfobgmecnlehaaa
open Go Go.Lg
attribute [local irreducible] bodyH funS
def zP:Pay:=⟨0,0,0,0,0,0⟩
def p3 (a:Act) (s:Lg) (y:Yr):SV:=.agg [i6 (rtA a y.pr),i6 (duA a y),i6 (pdA a s y),i6 0,i6 0,i6 0]
end Go.Proofs.Ytfobgmecnlehaaa

set_option maxRecDepth 100000
namespace Go.Proofs.Ytfobgmecnlehaaa
open Go Go.Lg
end Go.Proofs.Ytfobgmecnlehaaa

set_option maxRecDepth 100000
namespace Go.Proofs.Ytfobgmecnlehaaa
open Go Go.Lg
attribute [local irreducible] funS bodyH
theorem pm_true (a:Act) (n:Nat) (f:Nat→Yr):pmG a n f:=by
 rw [pmG_vc]
 simp only [and_true,true_and,implies_true,Nat.zero_lt_one]
theorem pm_ok:pmC.OkF Try.prog:=by
 refine ⟨by kernel_rfl,fun x k hk=>?_⟩
 simp only [pmC] at hk
 split at hk
 ·rename_i a b c d e f n h
  obtain ⟨hf,hk⟩:=hk
  have hh:=pm_true ⟨a,b,c,d,e,f⟩ n (yrF h)
  unfold pmG at hh
  rw [← hf] at hh
  exact ⟨_,funH_does nilS_cs nilS_x nilS_ic mixed hh,hk⟩
 ·exact hk.elim
theorem csP_sound:SoundS Try.prog csP:=ctrsF_sound (two_cs fa_ok af_ok) (by intro x hx; simp at hx; subst hx; exact pm_ok)
theorem csI_sound:SoundS Try.prog csI:=three_cs du_ok kp_ok su_ok
theorem inl0 {Γ:Ghost} {γ:GS→Γ.S} {g:FuncId} {sp isp} {cx:CX} (h:SoundXH Try.prog Γ γ cx):SoundXH Try.prog Γ γ (inl Try.prog csI none (ictrs []) g sp isp cx):=inl_sound (ys:=none) csI_sound h trivial nilS_ic mixed
theorem it_ic:SoundIH Try.prog (ictrs [itC]):=ictrs_sound (by
 intro x hx
 simp at hx
 subst hx
 refine ⟨by kernel_rfl,fun fs us k hk=>?_⟩
 simp only [itC] at hk
 split at hk
 ·rename_i a b c d e f n h
  obtain ⟨hf,h1,h2,h3,hk⟩:=hk
  have key:=it_true h1 h2 h3
  unfold itG at key
  rw [← hf] at key
  have:=itH_ok csI_sound (fun Γ γ _=>inl0 (inl0 (inl0 noX_sound))) nilS_ic mixed key
  exact ⟨_,2,_,this,fun j hj=>rfl,hk⟩
 ·exact hk.elim)
end Go.Proofs.Ytfobgmecnlehaaa
