import Derived.Test.YtfobgmecnlehaaaEeEeVEfEfVEg
set_option linter.unusedVariables false
set_option linter.unusedSimpArgs false
set_option maxRecDepth 100000
namespace Go.Proofs.Ytfobgmecnlehaaa
open Go Go.Lg
attribute [local irreducible] funS bodyH
theorem yrF2 (f:Nat→Yr):(yrF fun i=>(yrF (fun i=>(f i).sv) i).sv)=f:=rfl
theorem yrF1 (f:Nat→Yr) (i:Nat):yrF (fun i=>(f i).sv) i=f i:=rfl
theorem app_eq {α:Type} {z i:Nat} {f:Nat→α} {x:α} (hi:i<z+1) (hx:x=f z):(if i<z then f i else x)=f i:=by
 by_cases h:i<z
 ·rw [if_pos h]
 ·have:i=z:=by omega
  subst this; rw [if_neg h,hx]
theorem ruN0 {a:Act} {n:Nat} {f:Nat→Yr} (h:erA a n f=0):ruN a n f=n:=by unfold ruN; rw [if_pos h]
theorem ruN1 {a:Act} {n:Nat} {f:Nat→Yr} (h:erA a n f≠0):ruN a n f=0:=by unfold ruN; rw [if_neg h]
theorem ru_true (a:Act) (n:Nat) (f:Nat→Yr) (hn:n<1000):ruG a n f:=by
 rw [ruG_vc]
 simp only [rI,rE,and_true,true_and,Nat.zero_lt_one,and_self,implies_true,a_fold,yrF_fold,yrF2,yrF1,Classical.not_not,Nat.add_zero,Nat.zero_add]
 refine ⟨rfl,hn,fun h=>(ruN1 h).symm,fun h=>⟨rfl,rfl,?_⟩⟩
 obtain ⟨h1,h2,h3⟩:=erA_0 h
 rw [ruN0 h]
 refine ⟨h1,h3,h2,⟨0,rfl,rfl,rfl,rfl,rfl⟩,fun j hj z hz=>?_,fun z hz=>⟨hz,by omega,h.symm⟩⟩
 subst hz
 refine ⟨by omega,by omega,z+1,rfl,rfl,rfl,fun i hi=>⟨app_eq (f:=fun i=>rtA a (f i).pr) hi rfl,app_eq (f:=fun i=>duA a (f i)) hi rfl,app_eq (f:=fun i=>pdA a (stJ a f i) (f i)) hi rfl,app_eq (f:=fun i=>arS a (stJ a f i) (f i)) hi rfl,app_eq (f:=fun i=>nB a (stJ a f i) (f i)) hi rfl,app_eq (f:=fun i=>(stJ a f i).ba+(f i).pf - pdA a (stJ a f i) (f i) - nB a (stJ a f i) (f i)) hi rfl⟩⟩
theorem ruR_flat (a:Act) (n:Nat) (f:Nat→Yr):flatS (ruR a n f):=by simp [ruR,pyL,Pay.sv,flatS,flatSL,i6,SV.cells,scS]
theorem ruX_ok {g:FuncId} (hc:callable Try.prog g=true) (h:∀ (a:Act) (n:Nat) (f:Nat→Yr),n<1000→Does Try.prog g true (SV.denL [a.sv,yrL n f]) (ruR a n f).den):(ruC g).Ok Try.prog:=by
 refine ⟨hc,fun x k hk=>?_⟩
 simp only [ruC] at hk
 split at hk
 ·rename_i a b c d e f n h0
  obtain ⟨hf,hn,hk⟩:=hk
  have hh:=h ⟨a,b,c,d,e,f⟩ n (yrF h0) hn
  rw [← hf] at hh
  exact ⟨_,hh,hk⟩
 ·exact hk.elim
theorem ru_ok:(ruC 16).Ok Try.prog:=ruX_ok (by kernel_rfl) fun a n f hn=>newD csP_sound nilS_x it_ic (ru_true a n f hn) (ruR_flat a n f)
end Go.Proofs.Ytfobgmecnlehaaa

namespace Go.Proofs.Ytfobgmecnlehaaa
open Go Go.Lg
attribute [local irreducible] bodyH funS
theorem nil_relS {S:Nat} {c:Nat→Nat→Option Value} {I:Nat→Prop} {N:Nat} {β:Nat→Option Lg.Loc} {v:Value} (h:Rel c I N β (.sc (.slice none 0 0)) v):Rel c I N β (.isl S []) v:=by
 cases h with
 | sc _=>exact .islz S none
theorem nil_does {S:Nat} {g:FuncId} {fr:Bool} {pre post:List AV} {res:AV} (h:Does Try.prog g fr (pre ++ .isl S [] :: post) res):Does Try.prog g fr (pre ++ .sc (.slice none 0 0) :: post) res:=by
 intro w I vals hI hr
 refine h w I vals hI ?_
 clear h
 generalize vals.toList=l at hr
 induction pre generalizing l with
 | nil =>
  obtain ⟨v,r,e,h1,h2⟩:=hr.cons
  rw [e]
  exact RelL.mk (nil_relS h1) h2
 | cons x pre ih =>
  obtain ⟨v,r,e,h1,h2⟩:=hr.cons
  rw [e]
  exact RelL.mk h1 (ih _ h2)
theorem nil_st {g:FuncId} {fr:Bool} {pre post:List AV} {b:Int} {res:AV} (h:Does Try.prog g fr (pre ++ .agg [.sc (.int .i64 b),.isl 1 []] :: post) res):Does Try.prog g fr (pre ++ .agg [.sc (.int .i64 b),.sc (.slice none 0 0)] :: post) res:=by
 intro w I vals hI hr
 refine h w I vals hI ?_
 clear h
 generalize vals.toList=l at hr
 induction pre generalizing l with
 | nil =>
  obtain ⟨v,r,e,h1,h2⟩:=hr.cons
  rw [e]
  refine RelL.mk ?_ h2
  cases h1 with
  | agg _ vs hn hv =>
   refine .agg _ vs hn fun j hj=>?_
   match j,hj with
   | 0,_=>exact hv 0 (by simp)
   | 1,_ =>
    have h4:=hv 1 (by simp)
    show Rel _ _ _ _ (AV.isl 1 []) (vs.getD 1 undef)
    have h4:Rel (cellf w) I 0 noβ (AV.sc (.slice none 0 0)) (vs.getD 1 undef):=h4
    generalize vs.getD 1 undef=u at h4
    cases h4 with
    | sc _=>exact .islz 1 none
 | cons x pre ih =>
  obtain ⟨v,r,e,h1,h2⟩:=hr.cons
  rw [e]
  exact RelL.mk h1 (ih _ h2)
noncomputable def yeM:Ctr:=⟨39,fun args k=>match args with
 | [A,.agg [.int .i64 b,.val (.slice none 0 0)],Y]=>yeC.c [A,.agg [.int .i64 b,.lst 1 0 fun _=>i6 0],Y] k
 | args=>yeC.c args k⟩
theorem yeM_ok:yeM.Ok Try.prog:=by
 refine ⟨by kernel_rfl,fun args k hk=>?_⟩
 simp only [yeM] at hk
 split at hk
 ·rename_i A b Y
  obtain ⟨res,d,h⟩:=ye_ok.2 _ k hk
  exact ⟨res,nil_st (pre:=[A.den]) (post:=[Y.den]) d,h⟩
 ·exact ye_ok.2 _ k hk
noncomputable def suM:Ctr:=⟨40,fun args k=>match args with
 | [.val (.slice none 0 0)]=>(suC 40).c [.lst 1 0 fun _=>i6 0] k
 | args=>(suC 40).c args k⟩
theorem suM_ok:suM.Ok Try.prog:=by
 refine ⟨by kernel_rfl,fun args k hk=>?_⟩
 simp only [suM] at hk
 split at hk
 ·obtain ⟨res,d,h⟩:=sq_ok.2 _ k hk
  exact ⟨res,nil_does (S:=1) (pre:=[]) (post:=[]) d,h⟩
 ·exact sq_ok.2 _ k hk
def baJ (a:Act) (f:Nat→Yr) (k:Nat):Int:=(stJ a f (k+1)).ba
def nnJ (a:Act) (f:Nat→Yr) (k:Nat):Nat:=(stJ a f (k+1)).n
def arJ (a:Act) (f:Nat→Yr) (k:Nat):Nat→Int:=arF (stJ a f (k+1))
def rsV (a:Act) (f:Nat→Yr):Nat→SV
 | 0=>.agg [i6 0,.val (.slice none 0 0)]
 | k+1=>stV (baJ a f k) (nnJ a f k) (arJ a f k)
noncomputable def rdS (r:Nat) (t:FS) (X:XS) (k:Nat→Prop):Prop:=match X.row r with
 | some R=>(match R.f 0 with
  | .agg [_,.val _]=>k 0
  | _=>∃ z,k (z+1))
 | none=>False
theorem rdS_ok (r:Nat) (t:FS) (X:XS) (k:Nat→Prop) (h:rdS r t X k):∃ z,k z:=by
 unfold rdS at h
 split at h
 ·split at h
  ·exact ⟨_,h⟩
  ·obtain ⟨z,h⟩:=h; exact ⟨_,h⟩
 ·exact h.elim
def al0 (k:Nat→Prop):Prop:=k 0∧∀ z:Nat,k (z+1)
theorem al2 (k:Nat→Prop) (h:al0 k):∀ z,k z:=fun z=>by
 cases z with
 | zero=>exact h.1
 | succ z=>exact h.2 z
noncomputable def msR (i:Nat):FS→XS→Ms:=fun t _=>(match sget 40 t i with | .sl r _ _=>[some r] | _=>[none])
noncomputable def rnG (a:Act) (n:Nat) (f:Nat→Yr):Prop:=funN Try.prog (ctrs [erC 38,yeM]) noX (ictrs [])
 (oneL 0 { toLSpec:={ σ:=Nat,inv:=fun k=>k≤n,μ:=fun k=>n - k,nr:=2,ms:=msR 7,t:=fun k=>mkF 40 [(1,yrL n f),(2,.ptr 0 0 0),(7,.sl 2 0 k),(8,.ptr 1 0 0),(9,i6 k)],X:=fun k=>mkX [vr 6 a.sv,vr 2 (rsV a f k),rw' 6 k fun i=>(pyJ a f i).sv],rd:=rdS 1,rdOK:=rdS_ok 1 },al:=al0,alOK:=al2 }) noL
 17 [a.sv,yrL n f] (ruR a n f)
end Go.Proofs.Ytfobgmecnlehaaa

set_option maxRecDepth 100000
namespace Go.Proofs.Ytfobgmecnlehaaa
open Go Go.Lg
theorem rnG_vc (a:Ytfobgmecnlehaaa.Act) (n:Nat) (f:Nat→Yr):rnG a n f =
((0:Nat)<(1:Nat)∧(∀ (i:Nat),i<n→True∧True∧True∧True)∧(SV.lst (3:Nat) n fun i=>(f i).sv)=yrL n (yrF fun i=>(f i).sv)∧n<(1000:Nat)∧(¬erA a n (yrF fun i=>(f i).sv)=(0:Int)→(0:Nat)=ruN a n f∧erA a n (yrF fun i=>(f i).sv)=erA a n f∧True)∧(¬¬erA a n (yrF fun i=>(f i).sv)=(0:Int)→((0:Nat)≤n∧n=n∧(∀ (i:Nat),i<n→rE ((f i).sv.den)∧True∧True∧True∧True)∧rE (0:Nat)∧rE (0:Nat)∧rE (0:Nat)∧rE (0:Nat)∧rE (0:Nat)∧rE (0:Nat)∧(0:Int)=(↑(0:Nat):Int)∧a.1=a.1∧a.2=a.2∧a.3=a.3∧a.4=a.4∧a.5=a.5∧a.6=a.6∧rE (0:Int)∧rE (Value.slice none (0:Nat) (0:Nat))∧rE (0:Nat)∧True)∧((0:Nat)≤n→((↑(0
: Nat):Int)<(↑n:Int)→(0:Nat)<(1:Nat)∧(0:Nat)<(1:Nat)∧(0:Int)≤(↑(0:Nat):Int)∧(↑(0:Nat):Int)<(↑n:Int)∧(SV.lst (1:Nat) (0:Nat) fun x=>i6 (0:Int))=inL (0:Nat) (iOf fun x=>i6 (0:Int))∧okA a∧okL a (15:Nat) (sL (0:Int) (0:Nat) (iOf fun x=>i6 (0:Int)))∧okY (f (↑(0:Nat):Int).toNat)∧(0:Nat)<(1:Nat)∧True∧(∀ (i:Nat),i<(1:Nat)→rE true)∧rE (0:Nat)∧rE (0:Nat)∧(∀ (i:Nat),rE true)∧((0:Nat)+(1:Nat))*(48:Nat)≤(140737488355328:Nat)∧(0:Nat)+(1:Nat)≤(4611686018427387904:Nat)∧(0:Nat)<(1:Nat)∧rI ((↑(0:Nat):Int)+(1:Int))∧∃ (z:Nat),z+(1:Nat)≤n∧n - (z+(1:Nat))
< n∧n=n∧(∀ (i:Nat),i<n→rE ((f i).sv.den)∧True∧True∧True∧True)∧rE (0:Nat)∧rE (0:Nat)∧rE (0:Nat)∧(0:Nat)+(1:Nat)=z+(1:Nat)∧rE (0:Nat)∧rE (0:Nat)∧(↑(0:Nat):Int)+(1:Int)=(↑(z+(1:Nat)):Int)∧a.1=a.1∧a.2=a.2∧a.3=a.3∧a.4=a.4∧a.5=a.5∧a.6=a.6∧nB a (sL (0:Int) (0:Nat) (iOf fun x=>i6 (0:Int))) (f (↑(0:Nat):Int).toNat)=baJ a f z∧nN a (sL (0:Int) (0:Nat) (iOf fun x=>i6 (0:Int)))=nnJ a f z∧(∀ (i:Nat),i<nnJ a f z→(i6 (arF (nx a (sL (0:Int) (0:Nat) (iOf fun x=>i6 (0:Int))) (f (↑(0:Nat):Int).toNat)) i)).den=(i6 (arJ a f z i)).den∧True)∧z+(1:Nat)=(1:Nat)∧(∀ (i:Nat),i<z+(1:Nat)→rE (6:Nat)∧(if i<(0:Nat) then rtA a (f i).1 else rtA a (f (↑(0:Nat):Int).toNat).1)=rtA a (f i).1∧(if i<(0:Nat) then duA a (f i) else duA a (f (↑(0:Nat):Int).toNat))=duA a (f i)∧(if i<(0:Nat) then pdA a (stJ a f i) (f i) else pdA a (sL (0:Int) (0:Nat) (iOf fun x=>i6 (0:Int))) (Yr.mk (f (↑(0:Nat):Int).toNat).pr (f (↑(0:Nat):Int).toNat).cp (f (↑(0
: Nat):Int).toNat).pf))=pdA a (stJ a f i) (f i)∧(if i<(0:Nat) then arS a (stJ a f i) (f i) else arS a (sL (0:Int) (0:Nat) (iOf fun x=>i6 (0:Int))) (f (↑(0:Nat):Int).toNat))=arS a (stJ a f i) (f i)∧(if i<(0:Nat) then nB a (stJ a f i) (f i) else nB a (sL (0:Int) (0:Nat) (iOf fun x=>i6 (0:Int))) (f (↑(0:Nat):Int).toNat))=nB a (stJ a f i) (f i)∧(if i<(0:Nat) then (stJ a f i).1+(f i).3 - pdA a (stJ a f i) (f i) - nB a (stJ a f i) (f i) else (0:Int)+(f (↑(0:Nat):Int).toNat).3 - pdA a (sL (0:Int) (0:Nat) (iOf fun x=>i6 (0
: Int))) (f (↑(0:Nat):Int).toNat) - nB a (sL (0:Int) (0:Nat) (iOf fun x=>i6 (0:Int))) (f (↑(0:Nat):Int).toNat))=(stJ a f i).1+(f i).3 - pdA a (stJ a f i) (f i) - nB a (stJ a f i) (f i)∧True)∧True)∧(¬(↑(0:Nat):Int)<(↑n:Int)→(0:Nat)=ruN a n f∧(0:Nat)+ruN a n f≤(0:Nat)∧(∀ (i:Nat),i<ruN a n f→rE (6:Nat)∧rE (6:Nat)∧rtA a (f (i+(0:Nat))).1=rtA a (f i).1∧duA a (f (i+(0:Nat)))=duA a (f i)∧pdA a (stJ a f (i+(0:Nat))) (f (i+(0:Nat)))=pdA a (stJ a f i) (f i)∧arS a (stJ a f (i+(0:Nat))) (f (i+(0:Nat)))=arS a (stJ a f i) (f i)∧nB a (stJ a f (i+(0:Nat))) (f (i+(0:Nat)))=nB a (stJ a f
i) (f i)∧(stJ a f (i+(0:Nat))).1+(f (i+(0:Nat))).3 - pdA a (stJ a f (i+(0:Nat))) (f (i+(0:Nat))) - nB a (stJ a f (i+(0:Nat))) (f (i+(0:Nat)))=(stJ a f i).1+(f i).3 - pdA a (stJ a f i) (f i) - nB a (stJ a f i) (f i)∧True)∧(0:Int)=erA a n f∧True))∧∀ (z:Nat),z+(1:Nat)≤n→((↑(z+(1:Nat)):Int)<(↑n:Int)→(0:Nat)<(1:Nat)∧(0:Nat)<(1:Nat)∧(0:Int)≤(↑(z+(1:Nat)):Int)∧(↑(z+(1:Nat)):Int)<(↑n:Int)∧(∀ (i:Nat),i<nnJ a f z→True)∧(SV.lst (1:Nat) (nnJ a f z) fun i=>i6 (arJ a f z i))=inL (nnJ a f z) (iOf fun i=>i6 (arJ a f z i))∧okA a∧okL a (15:Nat) (sL (baJ a f z) (nnJ a f z) (iOf fun i=>i6 (arJ a f z i)))∧okY (f (↑(z+(1:Nat)):Int).toNat)∧(0:Nat)<(1:Nat)∧True∧(∀ (i
: Nat),i<(1:Nat)→rE true)∧rE (0:Nat)∧rE (z+(1:Nat))∧(∀ (i:Nat),rE true)∧(z+(1:Nat)+(1:Nat))*(48:Nat)≤(140737488355328:Nat)∧z+(1:Nat)+(1:Nat)≤(4611686018427387904:Nat)∧(0:Nat)<(1:Nat)∧rI ((↑(z+(1:Nat)):Int)+(1:Int))∧∃ (z_1:Nat),z_1+(1:Nat)≤n∧n - (z_1+(1:Nat))<n - (z+(1:Nat))∧n=n∧(∀ (i:Nat),i<n→rE ((f i).sv.den)∧True∧True∧True∧True)∧rE (0:Nat)∧rE (0:Nat)∧rE (0:Nat)∧z+(1:Nat)+(1:Nat)=z_1+(1:Nat)∧rE (0:Nat)∧rE (0:Nat)∧(↑(z+(1:Nat)):Int)+(1:Int)=(↑(z_1+(1:Nat)):Int)∧a.1=a.1∧a.2=a.2∧a.3=a.3∧a.4=a.4∧a.5=a.5∧a.6=a.6∧nB a (sL (baJ a f z) (nnJ a f z) (iOf fun i=>i6 (arJ a f z i))) (f (↑(z+(1:Nat)):Int).toNat)=baJ a f z_1∧nN a (sL (baJ a f z) (nnJ a f z) (iOf fun i=>i6 (arJ a f z i)))=nnJ a f z_1∧(∀ (i
: Nat),i<nnJ a f z_1→(i6 (arF (nx a (sL (baJ a f z) (nnJ a f z) (iOf fun i=>i6 (arJ a f z i))) (f (↑(z+(1:Nat)):Int).toNat)) i)).den=(i6 (arJ a f z_1 i)).den∧True)∧z_1+(1:Nat)=z+(1:Nat)+(1:Nat)∧(∀ (i:Nat),i<z_1+(1:Nat)→rE (6:Nat)∧(if i<z+(1:Nat)
then rtA a (f i).1 else rtA a (f (↑(z+(1:Nat)):Int).toNat).1)=rtA a (f i).1∧(if i<z+(1:Nat) then duA a (f i) else duA a (f (↑(z+(1:Nat)):Int).toNat))=duA a (f i)∧(if i<z+(1:Nat) then pdA a (stJ a f i) (f i) else pdA a (sL (baJ a f z) (nnJ a f z) (iOf fun i=>i6 (arJ a f z
i))) (f (↑(z+(1:Nat)):Int).toNat))=pdA a (stJ a f i) (f i)∧(if i<z+(1:Nat) then arS a (stJ a f i) (f i) else arS a (sL (baJ a f z) (nnJ a f z) (iOf fun i=>i6 (arJ a f z i))) (f (↑(z+(1:Nat)):Int).toNat))=arS a (stJ a f i) (f i)∧(if i<z+(1:Nat) then nB a (stJ a f i) (f i) else nB
a (sL (baJ a f z) (nnJ a f z) (iOf fun i=>i6 (arJ a f z i))) (f (↑(z+(1:Nat)):Int).toNat))=nB a (stJ a f i) (f i)∧(if i<z+(1:Nat) then (stJ a f i).1+(f i).3 - pdA a (stJ a f i) (f i) - nB a (stJ a f i) (f i) else baJ a f z+(f (↑(z+(1:Nat)):Int).toNat).3 - pdA a (sL (baJ a f z) (nnJ a f z) (iOf fun i=>i6 (arJ a f z i))) (f (↑(z+(1:Nat)):Int).toNat) - nB a (sL (baJ a f z) (nnJ a f z) (iOf fun i=>i6 (arJ a f z i))) (f (↑(z+(1:Nat)):Int).toNat))=(stJ a f i).1+(f i).3 - pdA a (stJ a f i) (f i) - nB a (stJ a f i) (f i)∧True)∧True)∧(¬(↑(z+(1:Nat)):Int)<(↑n:Int)→z+(1:Nat)=ruN a n f∧(0:Nat)+ruN a n f≤z+(1:Nat)∧(∀ (i:Nat),i<ruN a n f→rE (6:Nat)∧rE (6:Nat)∧rtA a (f (i+(0:Nat))).1=rtA a (f i).1∧duA a (f (i+(0:Nat)))=duA a (f i)∧pdA a (stJ a f (i+(0:Nat))) (f (i+(0:Nat)))=pdA a (stJ a f i) (f i)∧arS a (stJ a f (i+(0:Nat))) (f (i+(0:Nat)))=arS a (stJ a f i) (f i)∧nB a (stJ a f (i+(0:Nat))) (f (i+(0:Nat)))=nB a (stJ a f i) (f i)∧(stJ a f (i+(0:Nat))).1+(f (i+(0:Nat))).3 - pdA a (stJ a f (i+(0:Nat))) (f (i+(0:Nat))) - nB a (stJ a f (i+(0:Nat))) (f (i+(0:Nat)))=(stJ a f
i).1+(f i).3 - pdA a (stJ a f i) (f i) - nB a (stJ a f i) (f i)∧True)∧(0:Int)=erA a n f∧True))):=by kernel_rfl
end Go.Proofs.Ytfobgmecnlehaaa

set_option maxRecDepth 100000
namespace Go.Proofs.Ytfobgmecnlehaaa
open Go Go.Lg
attribute [local irreducible] funS bodyH
theorem t_pd (a:Act) (s:Lg) (y:Yr):pdA a (sL s.ba s.n (arF s)) y=pdA a s y:=by unfold pdA; rw [arF_sL]; rfl
theorem t_od (a:Act) (s:Lg) (y:Yr):odA a (sL s.ba s.n (arF s)) y=odA a s y:=by unfold odA; rw [t_pd]
theorem t_nF (a:Act) (s:Lg) (y:Yr):nF a (sL s.ba s.n (arF s)) y=nF a s y:=by funext i; unfold nF; rw [t_pd,t_od,arF_sL]; rfl
theorem t_nN (a:Act) (s:Lg):nN a (sL s.ba s.n (arF s))=nN a s:=rfl
theorem t_nB (a:Act) (s:Lg) (y:Yr):nB a (sL s.ba s.n (arF s)) y=nB a s y:=by unfold nB; rw [t_pd]; rfl
theorem t_nx (a:Act) (s:Lg) (y:Yr):nx a (sL s.ba s.n (arF s)) y=nx a s y:=by unfold nx; rw [t_nF,t_nB,t_nN]; rfl
theorem t_ar (a:Act) (s:Lg) (y:Yr):arS a (sL s.ba s.n (arF s)) y=arS a s y:=by unfold arS; rw [t_nx,t_nN]
theorem t_ok {a:Act} {j:Nat} {s:Lg} (h:okL a j s):okL a j (sL s.ba s.n (arF s)):=⟨h.n,by rw [arF_sL]; exact h.q,h.lo,h.hi⟩
theorem ok_up {a:Act} {j k:Nat} {s:Lg} (h:okL a j s) (hk:j≤k):okL a k s:=⟨h.n,h.q,by have:=h.lo; omega,h.hi⟩
theorem J_s (a:Act) (f:Nat→Yr) (z:Nat):sL (baJ a f z) (nnJ a f z) (arJ a f z)=sL (stJ a f (z+1)).ba (stJ a f (z+1)).n (arF (stJ a f (z+1))):=rfl
theorem J_0 (a:Act) (f:Nat→Yr):sL 0 0 (fun _=>0)=stJ a f 0:=rfl
theorem iOf_z:(iOf fun x=>i6 (0:Int))=fun _=>0:=rfl
theorem ba_e (a:Act) (f:Nat→Yr) (z:Nat):baJ a f z=(stJ a f (z+1)).ba:=rfl
theorem rn_true (a:Act) (n:Nat) (f:Nat→Yr) (hn:n<1000):rnG a n f:=by
 rw [rnG_vc]
 simp only [rI,rE,and_true,true_and,Nat.zero_lt_one,and_self,implies_true,a_fold,yr_fold,yrF_fold,yrF2,yrF1,Classical.not_not,Nat.add_zero,Nat.zero_add,Int.toNat_natCast,iOf_i6,iOf_z,J_s,t_pd,t_ar,t_nB,t_nN,t_nx]
 refine ⟨rfl,hn,fun h=>(ruN1 h).symm,fun h=>?_⟩
 obtain ⟨h1,h2,h3⟩:=erA_0 h
 rw [ruN0 h]
 rw [J_0 a f]
 refine ⟨⟨by omega,by omega⟩,⟨fun h0=>⟨fun hl=>?_,fun hl=>?_⟩,fun z hz=>⟨fun hl=>?_,fun hl=>?_⟩⟩⟩
 ·have hl':0<n:=by omega
  refine ⟨by omega,hl,rfl,h1,ok_up (st_ok h1 h3 (j:=0) (by omega)) (by omega),h3 0 hl',by omega,by omega,by omega,0,by omega,by omega,rfl,by omega,rfl,rfl,fun i hi=>rfl,rfl,fun i hi=>?_⟩
  have:i=0:=by omega
  subst this
  simp [duA]
  show (f 0).pf=0+(f 0).pf
  omega
 ·have:n=0:=by omega
  subst this
  exact ⟨rfl,by omega,h.symm⟩
 ·have hs:=st_ok h1 h3 (j:=z+1) (by omega)
  refine ⟨by omega,hl,rfl,h1,ok_up (t_ok hs) (by omega),h3 (z+1) (by omega),by omega,by omega,by omega,z+1,by omega,by omega,rfl,by omega,rfl,rfl,fun i hi=>rfl,rfl,fun i hi=>⟨app_eq (f:=fun i=>rtA a (f i).pr) hi rfl,app_eq (f:=fun i=>duA a (f i)) hi rfl,app_eq (f:=fun i=>pdA a (stJ a f i) (f i)) hi rfl,app_eq (f:=fun i=>arS a (stJ a f i) (f i)) hi rfl,app_eq (f:=fun i=>nB a (stJ a f i) (f i)) hi rfl,app_eq (f:=fun i=>(stJ a f i).ba+(f i).pf - pdA a (stJ a f i) (f i) - nB a (stJ a f i) (f i)) hi rfl⟩⟩
 ·exact ⟨by omega,by omega,h.symm⟩
theorem rn_cs:SoundS Try.prog (ctrs [erC 38,yeM]):=two_cs er_ok yeM_ok
theorem rn_ok:(ruC 17).Ok Try.prog:=ruX_ok (by kernel_rfl) fun a n f hn=>newD rn_cs nilS_x nilS_ic (rn_true a n f hn) (ruR_flat a n f)
end Go.Proofs.Ytfobgmecnlehaaa
