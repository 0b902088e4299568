import Derived.Test.YtfobgmecnlehaaaEkEkVElEmEnEnVEp
set_option linter.unusedVariables false
set_option linter.unusedSimpArgs false
namespace Go.Proofs.Ytfobgmecnlehaaa
open Go Go.Lg
attribute [local irreducible] bodyH funS
end Go.Proofs.Ytfobgmecnlehaaa

set_option maxRecDepth 100000
namespace Go.Proofs.Ytfobgmecnlehaaa
open Go Go.Lg
attribute [local irreducible] funS bodyH
theorem mJ_ge {f:Nat→Int} {m:Int}:∀ {k:Nat},m - sumJ f k≤mJ f m k
 | 0=>by show m - 0≤m; omega
 | k+1=>by
  have h1:=mJ_ge (f:=f) (m:=m) (k:=k)
  show m - (sumJ f k+f k)≤mJ f m k - min (f k) (mJ f m k)
  omega
theorem sum_le {f:Nat→Int} {n:Nat} (hf:nnL n f) {i:Nat} (hi:i≤n):sumJ f i≤sumJ f n:=by
 induction n with
 | zero =>
  have:i=0:=by omega
  subst this; omega
 | succ n ih =>
  have h2:=(hf n (by omega)).1
  by_cases e:i≤n
  ·have:=ih (fun j hj=>hf j (by omega)) e
   show _≤sumJ f n+f n
   omega
  ·have:i=n+1:=by omega
   subst this; omega
theorem lJ_zero {f:Nat→Int} {m:Int} {n:Nat} (hf:nnL n f) (hm:sumJ f n≤m) {i:Nat} (hi:i<n):lJ f m i=0:=by
 have h1:=mJ_ge (f:=f) (m:=m) (k:=i)
 have h2:sumJ f i+f i≤sumJ f n:=sum_le hf (i:=i+1) (by omega)
 unfold lJ; omega
theorem sum_mono {f g:Nat→Int}:∀ {n:Nat},(∀ i,i<n→g i≤f i)→sumJ g n≤sumJ f n
 | 0,_=>by simp [sumJ]
 | n+1,h=>by
  have h1:=sum_mono (n:=n) fun i hi=>h i (by omega)
  have h2:=h n (by omega)
  show sumJ g n+g n≤sumJ f n+f n
  omega
theorem sum_zero {f:Nat→Int}:∀ {n:Nat},(∀ i,i<n→f i=0)→sumJ f n=0
 | 0,_=>rfl
 | n+1,h=>by
  have h1:=sum_zero (n:=n) fun i hi=>h i (by omega)
  have h2:=h n (by omega)
  show sumJ f n+f n=0
  omega
structure leL (s s':Lg):Prop where
 ba:s.ba≤s'.ba
 n:s'.n=s.n
 ar:∀ i,i<s.n→arF s' i≤arF s i
theorem le_refl (s:Lg):leL s s:=⟨Int.le_refl _,rfl,fun i _=>Int.le_refl _⟩
end Go.Proofs.Ytfobgmecnlehaaa

namespace Go.Proofs.Ytfobgmecnlehaaa
open Go Go.Lg
attribute [local irreducible] bodyH funS
def pfF (f:Nat→Yr) (i:Nat):Int:=(f i).pf
def pdF (a:Act) (f:Nat→Yr) (i:Nat):Int:=pdA a (stJ a f i) (f i)
def rbF (a:Act) (f:Nat→Yr) (i:Nat):Int:=(stJ a f i).ba+(f i).pf - pdA a (stJ a f i) (f i) - nB a (stJ a f i) (f i)
def duF (a:Act) (f:Nat→Yr) (i:Nat):Int:=duA a (f i)
def rgJ (g:Nat→Int) (i j:Nat):Int:=sumJ g j - sumJ g i
def wrP (a:Act) (f:Nat→Yr) (i:Nat) (c d:Int) (q:Nat):Pay :=
 ⟨if q=i then (if c=0 then (pyJ a f q).rt+d else (pyJ a f q).rt) else (pyJ a f q).rt,if q=i then (if c=1 then (pyJ a f q).du+d else (pyJ a f q).du) else (pyJ a f q).du,if q=i then (if c=2 then (pyJ a f q).pd+d else (pyJ a f q).pd) else (pyJ a f q).pd,if q=i then (if c=3 then (pyJ a f q).ar+d else (pyJ a f q).ar) else (pyJ a f q).ar,if q=i then (if c=4 then (pyJ a f q).rs+d else (pyJ a f q).rs) else (pyJ a f q).rs,if q=i then (if c=5 then (pyJ a f q).rb+d else (pyJ a f q).rb) else (pyJ a f q).rb⟩
noncomputable def csW:CSpec:=ctrs [ruC 16,ckC 18,vaC 24,awC]
noncomputable def whF (a:Act) (n:Nat) (f:Nat→Yr) (l:List (Nat × SV)):FS:=mkF 348 ([(1,yrL n f),(5,.ptr 0 0 0),(11,pyL n (pyJ a f))] ++ l)
noncomputable def wh0 (a:Act) (n:Nat) (f:Nat→Yr) (u v w:Int):HSpec:=natH (fun j=>j≤n) (fun j=>n - j) 1 (fun j=>whF a n f [(2,.int .u8 u),(3,.int .u8 v),(4,.int .u8 w),(13,i6 (sumJ (pfF f) j)),(14,i6 (sumJ (pdF a f) j)),(15,i6 (sumJ (rbF a f) j)),(70,pyL n (pyJ a f)),(71,i6 n),(72,i6 j)]) (fun _=>mkX [vr 6 a.sv]) fun _=>none
noncomputable def wh2 (a:Act) (n:Nat) (f:Nat→Yr) (w:Int) (i K:Nat):HSpec:=natH (fun j=>i≤j∧j≤max i (K+1)) (fun j=>K+1 - j) 1 (fun j=>whF a n f [(4,.int .u8 w),(20,i6 i),(21,i6 K),(22,i6 (rgJ (pdF a f) i j)),(23,i6 0),(24,i6 j)]) (fun _=>mkX [vr 6 a.sv]) fun _=>none
noncomputable def wh4 (a:Act) (n:Nat) (f:Nat→Yr) (w:Int) (i K lo:Nat):HSpec:=natH (fun j=>lo≤j∧j≤max lo (K+1)) (fun j=>K+1 - j) 1 (fun j=>whF a n f [(4,.int .u8 w),(20,i6 i),(21,i6 K),(22,i6 (rgJ (pdF a f) i (max i (K+1)))),(23,i6 (rgJ (duF a f) lo j)),(25,i6 j)]) (fun _=>mkX [vr 6 a.sv]) fun _=>none
noncomputable def whZ (a:Act) (n:Nat) (f:Nat→Yr) (w:Int) (i:Nat) (c d:Int):HSpec :=
 { toLSpec:={ σ:=Unit,inv:=fun _=>True,μ:=fun _=>0,nr:=1,ms:=fun t _=>(match sget 348 t 26 with | .sl r _ _=>[some r] | _=>[none]),t:=fun _=>whF a n f [(20,i6 i),(26,.sl 1 0 n)],X:=fun _=>mkX [vr 6 a.sv,rw' 6 n fun q=>(wrP a f i c d q).sv],rd:=fun _ _ k=>k (),rdOK:=fun _ _ _ h=>⟨(),h⟩ },D:=[(24,2),(31,2)] }
noncomputable def whY (a:Act) (n:Nat) (f:Nat→Yr) (i:Nat) (c d:Int):HSpec :=
 { toLSpec:={ σ:=Int × Int,inv:=fun z=>z.1=n∧z.2=11,μ:=fun _=>0,nr:=1,ms:=fun _ _=>[],t:=fun z=>mkF 348 [(1,yrL n f),(20,i6 i),(28,i6 (ckN a n f n (wrP a f i c d))),(29,i6 (ckE a n f n (wrP a f i c d))),(30,i6 (ckN a n f i (pyJ a f))),(31,i6 (ckE a n f i (pyJ a f))),(32,i6 z.1),(33,i6 z.2)],X:=fun _=>mkX [vr 6 a.sv],rd:=fun _ _ k=>∃ z,k z,rdOK:=fun _ _ _ h=>h },D:=[(0,0)],E:=[(4,2),(7,3)] }
noncomputable def l6G (a:Act) (n:Nat) (f:Nat→Yr) (u v w:Int) (s K lo:Nat) (c d:Int):Prop:=funH Try.prog csW noX (ictrs [])
 (twoL 0 (wh0 a n f u v w) <| twoL 2 (wh2 a n f w s K) <| twoL 4 (wh4 a n f w s K lo) <| twoL 1040 (whY a n f s c d) <| oneL 1037 (whZ a n f w s c d)) noL
 6 [a.sv,yrL n f,.int .u8 u,.int .u8 v,.int .u8 w] (.bool true)
end Go.Proofs.Ytfobgmecnlehaaa

set_option maxRecDepth 100000
namespace Go.Proofs.Ytfobgmecnlehaaa
open Go Go.Lg
def l6G4 (a:Ytfobgmecnlehaaa.Act) (n:Nat) (f:Nat→Yr):Prop:=(∀ (i:Nat),i<n→rE ((pyJ a f i).sv.den)∧True∧True∧True∧True∧True∧True∧True)
def l6G5 (n:Nat) (f:Nat→Yr):Prop:=(∀ (i:Nat),i<n→rE ((f i).sv.den)∧True∧True∧True∧True)
def l6G0 (a:Ytfobgmecnlehaaa.Act) (n:Nat) (f:Nat→Yr) (w:Int) (s:Nat) (c:Int) (d:Int):Prop:=(True∧True∧True∧True∧True∧True∧True∧True∧True∧True∧True∧True∧True∧True∧True∧True∧True∧True∧True∧True∧True∧True∧True∧True∧True∧True∧True∧True∧True∧True∧True∧True∧True∧True∧True∧True∧True∧True∧True∧True∧True∧True∧rI (w)∧True∧True∧((6:Int)=(0:Int)→False)∧True∧True∧(0:Int)≤w.tmod (6:Int)∧w.tmod (6:Int)<(↑(6:Nat):Int)∧(w.tmod (6:Int)).toNat*(1:Nat)<(6:Nat)∧(((((True∧((w.tmod (6:Int)).toNat*(1:Nat)=(0:Nat)→True∧True∧True∧True∧(0:Nat)+(↑s:Int).toNat<(0:Nat)+n∧True∧True∧True∧True∧rI (w)∧True∧True∧((6:Int)=(0:Int)→False)∧rI (w.tdiv (6:Int))∧True∧True∧rI ((1:Int)+w.tdiv (6:Int))∧True∧True∧rI ((if (0:Nat)+(↑s:Int).toNat<(0:Nat) then (0:Int) else rtA a (f ((0:Nat)+(↑s:Int).toNat - (0:Nat))).1)+((1:Int)+w.tdiv (6:Int)))∧True∧True∧True∧True∧(0:Nat)+(1:Nat)≤(6:Nat)∧(0:Nat)+(↑s:Int).toNat<(0:Nat)+n∧(∀ (i':Nat),rE true)∧True∧n=n∧(l6G5 n f)∧rE (0:Nat)∧rE (0:Nat)∧n=n∧(l6G4 a n f)∧rE (↑s:Int)∧rE (0:Nat)∧(0:Nat)+n=n∧a.1=a.1∧a.2=a.2∧a.3=a.3∧a.4=a.4∧a.5=a.5∧a.6=a.6∧n=(0:Nat)+n∧(∀ (i:Nat),i<n→rE (6:Nat)∧((if i=(0:Nat)+(↑s:Int).toNat then (if (0:Nat)+(↑s:Int).toNat<(0:Nat) then (0:Int) else rtA a (f ((0:Nat)+(↑s:Int).toNat - (0:Nat))).1)+((1:Int)+w.tdiv (6:Int)) else if i<(0:Nat) then (0:Int) else rtA a (f (i - (0:Nat))).1)=if i=s then if c=(0:Int) then rtA a (f i).1+d else rtA a (f i).1 else rtA a (f i).1)∧((if i=(0:Nat)+(↑s:Int).toNat then if i<(0:Nat) then (0:Int) else duA a (f (i - (0:Nat))) else if i<(0:Nat) then (0:Int) else duA a (f (i - (0:Nat))))=if i=s then if c=(1:Int) then duA a (f i)+d else duA a (f i) else duA a (f i))∧((if i=(0:Nat)+(↑s:Int).toNat then if i<(0:Nat) then (0:Int) else pdA a (stJ a f (i - (0:Nat))) (f (i - (0:Nat))) else if i<(0:Nat) then (0:Int) else pdA a (stJ a f (i - (0:Nat))) (f (i - (0:Nat))))=if i=s then if c=(2:Int) then pdA a (stJ a f i) (f i)+d else pdA a (stJ a f i) (f i) else pdA a (stJ a f i) (f i))∧((if i=(0:Nat)+(↑s:Int).toNat then if i<(0:Nat) then (0:Int) else arS a (stJ a f (i - (0:Nat))) (f (i - (0:Nat))) else if i<(0:Nat) then (0:Int) else arS a (stJ a f (i - (0:Nat))) (f (i - (0:Nat))))=if i=s then if c=(3:Int) then arS a (stJ a f i) (f i)+d else arS a (stJ a f i) (f i) else arS a (stJ a f i) (f i))∧((if i=(0:Nat)+(↑s:Int).toNat then if i<(0:Nat) then (0:Int) else nB a (stJ a f (i - (0:Nat))) (f (i - (0:Nat))) else if i<(0:Nat) then (0:Int) else nB a (stJ a f (i - (0:Nat))) (f (i - (0:Nat))))=if i=s then if c=(4:Int) then nB a (stJ a f i) (f i)+d else nB a (stJ a f i) (f i) else nB a (stJ a f i) (f i))∧((if i=(0:Nat)+(↑s:Int).toNat then if i<(0:Nat) then (0:Int) else (stJ a f (i - (0:Nat))).1+(f (i - (0:Nat))).3 - pdA a (stJ a f (i - (0:Nat))) (f (i - (0:Nat))) - nB a (stJ a f (i - (0:Nat))) (f (i - (0:Nat))) else if i<(0:Nat) then (0:Int) else (stJ a f (i - (0:Nat))).1+(f (i - (0:Nat))).3 - pdA a (stJ a f (i - (0:Nat))) (f (i - (0:Nat))) - nB a (stJ a f (i - (0:Nat))) (f (i - (0:Nat))))=if i=s then if c=(5:Int) then (stJ a f i).1+(f i).3 - pdA a (stJ a f i) (f i) - nB a (stJ a f i) (f i)+d else (stJ a f i).1+(f i).3 - pdA a (stJ a f i) (f i) - nB a (stJ a f i) (f i) else (stJ a f i).1+(f i).3 - pdA a (stJ a f i) (f i) - nB a (stJ a f i) (f i))∧True)∧True))∧((w.tmod (6:Int)).toNat*(1:Nat)=(1:Nat)→True∧True∧True∧True∧(0:Nat)+(↑s:Int).toNat<(0:Nat)+n∧True∧True∧True∧True∧rI (w)∧True∧True∧((6:Int)=(0:Int)→False)∧rI (w.tdiv (6:Int))∧True∧True∧rI ((1:Int)+w.tdiv (6:Int))∧True∧True∧rI ((if (0:Nat)+(↑s:Int).toNat<(0:Nat) then (0:Int) else duA a (f ((0:Nat)+(↑s:Int).toNat - (0:Nat))))+((1:Int)+w.tdiv (6:Int)))∧True∧True∧True∧True∧(1:Nat)+(1:Nat)≤(6:Nat)∧(0:Nat)+(↑s:Int).toNat<(0:Nat)+n∧(∀ (i':Nat),rE true)∧True∧n=n∧(l6G5 n f)∧rE (0:Nat)∧rE (0:Nat)∧n=n∧(l6G4 a n f)∧rE (↑s:Int)∧rE (0:Nat)∧(0:Nat)+n=n∧a.1=a.1∧a.2=a.2∧a.3=a.3∧a.4=a.4∧a.5=a.5∧a.6=a.6∧n=(0:Nat)+n∧(∀ (i:Nat),i<n→rE (6:Nat)∧((if i=(0:Nat)+(↑s:Int).toNat then if i<(0:Nat) then (0:Int) else rtA a (f (i - (0:Nat))).1 else if i<(0:Nat) then (0:Int) else rtA a (f (i - (0:Nat))).1)=if i=s then if c=(0:Int) then rtA a (f i).1+d else rtA a (f i).1 else rtA a (f i).1)∧((if i=(0:Nat)+(↑s:Int).toNat then (if (0:Nat)+(↑s:Int).toNat<(0:Nat) then (0:Int) else duA a (f ((0:Nat)+(↑s:Int).toNat - (0:Nat))))+((1:Int)+w.tdiv (6:Int)) else if i<(0:Nat) then (0:Int) else duA a (f (i - (0:Nat))))=if i=s then if c=(1:Int) then duA a (f i)+d else duA a (f i) else duA a (f i))∧((if i=(0:Nat)+(↑s:Int).toNat then if i<(0:Nat) then (0:Int) else pdA a (stJ a f (i - (0:Nat))) (f (i - (0:Nat))) else if i<(0:Nat) then (0:Int) else pdA a (stJ a f (i - (0:Nat))) (f (i - (0:Nat))))=if i=s then if c=(2:Int) then pdA a (stJ a f i) (f i)+d else pdA a (stJ a f i) (f i) else pdA a (stJ a f i) (f i))∧((if i=(0:Nat)+(↑s:Int).toNat then if i<(0:Nat) then (0:Int) else arS a (stJ a f (i - (0:Nat))) (f (i - (0:Nat))) else if i<(0:Nat) then (0:Int) else arS a (stJ a f (i - (0:Nat))) (f (i - (0:Nat))))=if i=s then if c=(3:Int) then arS a (stJ a f i) (f i)+d else arS a (stJ a f i) (f i) else arS a (stJ a f i) (f i))∧((if i=(0:Nat)+(↑s:Int).toNat then if i<(0:Nat) then (0:Int) else nB a (stJ a f (i - (0:Nat))) (f (i - (0:Nat))) else if i<(0:Nat) then (0:Int) else nB a (stJ a f (i - (0:Nat))) (f (i - (0:Nat))))=if i=s then if c=(4:Int) then nB a (stJ a f i) (f i)+d else nB a (stJ a f i) (f i) else nB a (stJ a f i) (f i))∧((if i=(0:Nat)+(↑s:Int).toNat then if i<(0:Nat) then (0:Int) else (stJ a f (i - (0:Nat))).1+(f (i - (0:Nat))).3 - pdA a (stJ a f (i - (0:Nat))) (f (i - (0:Nat))) - nB a (stJ a f (i - (0:Nat))) (f (i - (0:Nat))) else if i<(0:Nat) then (0:Int) else (stJ a f (i - (0:Nat))).1+(f (i - (0:Nat))).3 - pdA a (stJ a f (i - (0:Nat))) (f (i - (0:Nat))) - nB a (stJ a f (i - (0:Nat))) (f (i - (0:Nat))))=if i=s then if c=(5:Int) then (stJ a f i).1+(f i).3 - pdA a (stJ a f i) (f i) - nB a (stJ a f i) (f i)+d else (stJ a f i).1+(f i).3 - pdA a (stJ a f i) (f i) - nB a (stJ a f i) (f i) else (stJ a f i).1+(f i).3 - pdA a (stJ a f i) (f i) - nB a (stJ a f i) (f i))∧True)∧True))∧((w.tmod (6:Int)).toNat*(1:Nat)=(2:Nat)→True∧True∧True∧True∧(0:Nat)+(↑s:Int).toNat<(0:Nat)+n∧True∧True∧True∧True∧rI (w)∧True∧True∧((6:Int)=(0:Int)→False)∧rI (w.tdiv (6:Int))∧True∧True∧rI ((1:Int)+w.tdiv (6:Int))∧True∧True∧rI ((if (0:Nat)+(↑s:Int).toNat<(0:Nat) then (0:Int) else pdA a (stJ a f ((0:Nat)+(↑s:Int).toNat - (0:Nat))) (f ((0:Nat)+(↑s:Int).toNat - (0:Nat))))+((1:Int)+w.tdiv (6:Int)))∧True∧True∧True∧True∧(2:Nat)+(1:Nat)≤(6:Nat)∧(0:Nat)+(↑s:Int).toNat<(0:Nat)+n∧(∀ (i':Nat),rE true)∧True∧n=n∧(l6G5 n f)∧rE (0:Nat)∧rE (0:Nat)∧n=n∧(l6G4 a n f)∧rE (↑s:Int)∧rE (0:Nat)∧(0:Nat)+n=n∧a.1=a.1∧a.2=a.2∧a.3=a.3∧a.4=a.4∧a.5=a.5∧a.6=a.6∧n=(0:Nat)+n∧(∀ (i:Nat),i<n→rE (6:Nat)∧((if i=(0:Nat)+(↑s:Int).toNat then if i<(0:Nat) then (0:Int) else rtA a (f (i - (0:Nat))).1 else if i<(0:Nat) then (0:Int) else rtA a (f (i - (0:Nat))).1)=if i=s then if c=(0:Int) then rtA a (f i).1+d else rtA a (f i).1 else rtA a (f i).1)∧((if i=(0:Nat)+(↑s:Int).toNat then if i<(0:Nat) then (0:Int) else duA a (f (i - (0:Nat))) else if i<(0:Nat) then (0:Int) else duA a (f (i - (0:Nat))))=if i=s then if c=(1:Int) then duA a (f i)+d else duA a (f i) else duA a (f i))∧((if i=(0:Nat)+(↑s:Int).toNat then (if (0:Nat)+(↑s:Int).toNat<(0:Nat) then (0:Int) else pdA a (stJ a f ((0:Nat)+(↑s:Int).toNat - (0:Nat))) (f ((0:Nat)+(↑s:Int).toNat - (0:Nat))))+((1:Int)+w.tdiv (6:Int)) else if i<(0:Nat) then (0:Int) else pdA a (stJ a f (i - (0:Nat))) (f (i - (0:Nat))))=if i=s then if c=(2:Int) then pdA a (stJ a f i) (f i)+d else pdA a (stJ a f i) (f i) else pdA a (stJ a f i) (f i))∧((if i=(0:Nat)+(↑s:Int).toNat then if i<(0:Nat) then (0:Int) else arS a (stJ a f (i - (0:Nat))) (f (i - (0:Nat))) else if i<(0:Nat) then (0:Int) else arS a (stJ a f (i - (0:Nat))) (f (i - (0:Nat))))=if i=s then if c=(3:Int) then arS a (stJ a f i) (f i)+d else arS a (stJ a f i) (f i) else arS a (stJ a f i) (f i))∧((if i=(0:Nat)+(↑s:Int).toNat then if i<(0:Nat) then (0:Int) else nB a (stJ a f (i - (0:Nat))) (f (i - (0:Nat))) else if i<(0:Nat) then (0:Int) else nB a (stJ a f (i - (0:Nat))) (f (i - (0:Nat))))=if i=s then if c=(4:Int) then nB a (stJ a f i) (f i)+d else nB a (stJ a f i) (f i) else nB a (stJ a f i) (f i))∧((if i=(0:Nat)+(↑s:Int).toNat then if i<(0:Nat) then (0:Int) else (stJ a f (i - (0:Nat))).1+(f (i - (0:Nat))).3 - pdA a (stJ a f (i - (0:Nat))) (f (i - (0:Nat))) - nB a (stJ a f (i - (0:Nat))) (f (i - (0:Nat))) else if i<(0:Nat) then (0:Int) else (stJ a f (i - (0:Nat))).1+(f (i - (0:Nat))).3 - pdA a (stJ a f (i - (0:Nat))) (f (i - (0:Nat))) - nB a (stJ a f (i - (0:Nat))) (f (i - (0:Nat))))=if i=s then if c=(5:Int) then (stJ a f i).1+(f i).3 - pdA a (stJ a f i) (f i) - nB a (stJ a f i) (f i)+d else (stJ a f i).1+(f i).3 - pdA a (stJ a f i) (f i) - nB a (stJ a f i) (f i) else (stJ a f i).1+(f i).3 - pdA a (stJ a f i) (f i) - nB a (stJ a f i) (f i))∧True)∧True))∧((w.tmod (6:Int)).toNat*(1:Nat)=(3:Nat)→True∧True∧True∧True∧(0:Nat)+(↑s:Int).toNat<(0:Nat)+n∧True∧True∧True∧True∧rI (w)∧True∧True∧((6:Int)=(0:Int)→False)∧rI (w.tdiv (6:Int))∧True∧True∧rI ((1:Int)+w.tdiv (6:Int))∧True∧True∧rI ((if (0:Nat)+(↑s:Int).toNat<(0:Nat) then (0:Int) else arS a (stJ a f ((0:Nat)+(↑s:Int).toNat - (0:Nat))) (f ((0:Nat)+(↑s:Int).toNat - (0:Nat))))+((1:Int)+w.tdiv (6:Int)))∧True∧True∧True∧True∧(3:Nat)+(1:Nat)≤(6:Nat)∧(0:Nat)+(↑s:Int).toNat<(0:Nat)+n∧(∀ (i':Nat),rE true)∧True∧n=n∧(l6G5 n f)∧rE (0:Nat)∧rE (0:Nat)∧n=n∧(l6G4 a n f)∧rE (↑s:Int)∧rE (0:Nat)∧(0:Nat)+n=n∧a.1=a.1∧a.2=a.2∧a.3=a.3∧a.4=a.4∧a.5=a.5∧a.6=a.6∧n=(0:Nat)+n∧(∀ (i:Nat),i<n→rE (6:Nat)∧((if i=(0:Nat)+(↑s:Int).toNat then if i<(0:Nat) then (0:Int) else rtA a (f (i - (0:Nat))).1 else if i<(0:Nat) then (0:Int) else rtA a (f (i - (0:Nat))).1)=if i=s then if c=(0:Int) then rtA a (f i).1+d else rtA a (f i).1 else rtA a (f i).1)∧((if i=(0:Nat)+(↑s:Int).toNat then if i<(0:Nat) then (0:Int) else duA a (f (i - (0:Nat))) else if i<(0:Nat) then (0:Int) else duA a (f (i - (0:Nat))))=if i=s then if c=(1:Int) then duA a (f i)+d else duA a (f i) else duA a (f i))∧((if i=(0:Nat)+(↑s:Int).toNat then if i<(0:Nat) then (0:Int) else pdA a (stJ a f (i - (0:Nat))) (f (i - (0:Nat))) else if i<(0:Nat) then (0:Int) else pdA a (stJ a f (i - (0:Nat))) (f (i - (0:Nat))))=if i=s then if c=(2:Int) then pdA a (stJ a f i) (f i)+d else pdA a (stJ a f i) (f i) else pdA a (stJ a f i) (f i))∧((if i=(0:Nat)+(↑s:Int).toNat then (if (0:Nat)+(↑s:Int).toNat<(0:Nat) then (0:Int) else arS a (stJ a f ((0:Nat)+(↑s:Int).toNat - (0:Nat))) (f ((0:Nat)+(↑s:Int).toNat - (0:Nat))))+((1:Int)+w.tdiv (6:Int)) else if i<(0:Nat) then (0:Int) else arS a (stJ a f (i - (0:Nat))) (f (i - (0:Nat))))=if i=s then if c=(3:Int) then arS a (stJ a f i) (f i)+d else arS a (stJ a f i) (f i) else arS a (stJ a f i) (f i))∧((if i=(0:Nat)+(↑s:Int).toNat then if i<(0:Nat) then (0:Int) else nB a (stJ a f (i - (0:Nat))) (f (i - (0:Nat))) else if i<(0:Nat) then (0:Int) else nB a (stJ a f (i - (0:Nat))) (f (i - (0:Nat))))=if i=s then if c=(4:Int) then nB a (stJ a f i) (f i)+d else nB a (stJ a f i) (f i) else nB a (stJ a f i) (f i))∧((if i=(0:Nat)+(↑s:Int).toNat then if i<(0:Nat) then (0:Int) else (stJ a f (i - (0:Nat))).1+(f (i - (0:Nat))).3 - pdA a (stJ a f (i - (0:Nat))) (f (i - (0:Nat))) - nB a (stJ a f (i - (0:Nat))) (f (i - (0:Nat))) else if i<(0:Nat) then (0:Int) else (stJ a f (i - (0:Nat))).1+(f (i - (0:Nat))).3 - pdA a (stJ a f (i - (0:Nat))) (f (i - (0:Nat))) - nB a (stJ a f (i - (0:Nat))) (f (i - (0:Nat))))=if i=s then if c=(5:Int) then (stJ a f i).1+(f i).3 - pdA a (stJ a f i) (f i) - nB a (stJ a f i) (f i)+d else (stJ a f i).1+(f i).3 - pdA a (stJ a f i) (f i) - nB a (stJ a f i) (f i) else (stJ a f i).1+(f i).3 - pdA a (stJ a f i) (f i) - nB a (stJ a f i) (f i))∧True)∧True))∧((w.tmod (6:Int)).toNat*(1:Nat)=(4:Nat)→True∧True∧True∧True∧(0:Nat)+(↑s:Int).toNat<(0:Nat)+n∧True∧True∧True∧True∧rI (w)∧True∧True∧((6:Int)=(0:Int)→False)∧rI (w.tdiv (6:Int))∧True∧True∧rI ((1:Int)+w.tdiv (6:Int))∧True∧True∧rI ((if (0:Nat)+(↑s:Int).toNat<(0:Nat) then (0:Int) else nB a (stJ a f ((0:Nat)+(↑s:Int).toNat - (0:Nat))) (f ((0:Nat)+(↑s:Int).toNat - (0:Nat))))+((1:Int)+w.tdiv (6:Int)))∧True∧True∧True∧True∧(4:Nat)+(1:Nat)≤(6:Nat)∧(0:Nat)+(↑s:Int).toNat<(0:Nat)+n∧(∀ (i':Nat),rE true)∧True∧n=n∧(l6G5 n f)∧rE (0:Nat)∧rE (0:Nat)∧n=n∧(l6G4 a n f)∧rE (↑s:Int)∧rE (0:Nat)∧(0:Nat)+n=n∧a.1=a.1∧a.2=a.2∧a.3=a.3∧a.4=a.4∧a.5=a.5∧a.6=a.6∧n=(0:Nat)+n∧(∀ (i:Nat),i<n→rE (6:Nat)∧((if i=(0:Nat)+(↑s:Int).toNat then if i<(0:Nat) then (0:Int) else rtA a (f (i - (0:Nat))).1 else if i<(0:Nat) then (0:Int) else rtA a (f (i - (0:Nat))).1)=if i=s then if c=(0:Int) then rtA a (f i).1+d else rtA a (f i).1 else rtA a (f i).1)∧((if i=(0:Nat)+(↑s:Int).toNat then if i<(0:Nat) then (0:Int) else duA a (f (i - (0:Nat))) else if i<(0:Nat) then (0:Int) else duA a (f (i - (0:Nat))))=if i=s then if c=(1:Int) then duA a (f i)+d else duA a (f i) else duA a (f i))∧((if i=(0:Nat)+(↑s:Int).toNat then if i<(0:Nat) then (0:Int) else pdA a (stJ a f (i - (0:Nat))) (f (i - (0:Nat))) else if i<(0:Nat) then (0:Int) else pdA a (stJ a f (i - (0:Nat))) (f (i - (0:Nat))))=if i=s then if c=(2:Int) then pdA a (stJ a f i) (f i)+d else pdA a (stJ a f i) (f i) else pdA a (stJ a f i) (f i))∧((if i=(0:Nat)+(↑s:Int).toNat then if i<(0:Nat) then (0:Int) else arS a (stJ a f (i - (0:Nat))) (f (i - (0:Nat))) else if i<(0:Nat) then (0:Int) else arS a (stJ a f (i - (0:Nat))) (f (i - (0:Nat))))=if i=s then if c=(3:Int) then arS a (stJ a f i) (f i)+d else arS a (stJ a f i) (f i) else arS a (stJ a f i) (f i))∧((if i=(0:Nat)+(↑s:Int).toNat then (if (0:Nat)+(↑s:Int).toNat<(0:Nat) then (0:Int) else nB a (stJ a f ((0:Nat)+(↑s:Int).toNat - (0:Nat))) (f ((0:Nat)+(↑s:Int).toNat - (0:Nat))))+((1:Int)+w.tdiv (6:Int)) else if i<(0:Nat) then (0:Int) else nB a (stJ a f (i - (0:Nat))) (f (i - (0:Nat))))=if i=s then if c=(4:Int) then nB a (stJ a f i) (f i)+d else nB a (stJ a f i) (f i) else nB a (stJ a f i) (f i))∧((if i=(0:Nat)+(↑s:Int).toNat then if i<(0:Nat) then (0:Int) else (stJ a f (i - (0:Nat))).1+(f (i - (0:Nat))).3 - pdA a (stJ a f (i - (0:Nat))) (f (i - (0:Nat))) - nB a (stJ a f (i - (0:Nat))) (f (i - (0:Nat))) else if i<(0:Nat) then (0:Int) else (stJ a f (i - (0:Nat))).1+(f (i - (0:Nat))).3 - pdA a (stJ a f (i - (0:Nat))) (f (i - (0:Nat))) - nB a (stJ a f (i - (0:Nat))) (f (i - (0:Nat))))=if i=s then if c=(5:Int) then (stJ a f i).1+(f i).3 - pdA a (stJ a f i) (f i) - nB a (stJ a f i) (f i)+d else (stJ a f i).1+(f i).3 - pdA a (stJ a f i) (f i) - nB a (stJ a f i) (f i) else (stJ a f i).1+(f i).3 - pdA a (stJ a f i) (f i) - nB a (stJ a f i) (f i))∧True)∧True))∧((w.tmod (6:Int)).toNat*(1:Nat)=(5:Nat)→True∧True∧True∧True∧(0:Nat)+(↑s:Int).toNat<(0:Nat)+n∧True∧True∧True∧True∧rI (w)∧True∧True∧((6:Int)=(0:Int)→False)∧rI (w.tdiv (6:Int))∧True∧True∧rI ((1:Int)+w.tdiv (6:Int))∧True∧True∧rI ((if (0:Nat)+(↑s:Int).toNat<(0:Nat) then (0:Int) else (stJ a f ((0:Nat)+(↑s:Int).toNat - (0:Nat))).1+(f ((0:Nat)+(↑s:Int).toNat - (0:Nat))).3 - pdA a (stJ a f ((0:Nat)+(↑s:Int).toNat - (0:Nat))) (f ((0:Nat)+(↑s:Int).toNat - (0:Nat))) - nB a (stJ a f ((0:Nat)+(↑s:Int).toNat - (0:Nat))) (f ((0:Nat)+(↑s:Int).toNat - (0:Nat))))+((1:Int)+w.tdiv (6:Int)))∧True∧True∧True∧True∧(5:Nat)+(1:Nat)≤(6:Nat)∧(0:Nat)+(↑s:Int).toNat<(0:Nat)+n∧(∀ (i':Nat),rE true)∧True∧n=n∧(l6G5 n f)∧rE (0:Nat)∧rE (0:Nat)∧n=n∧(l6G4 a n f)∧rE (↑s:Int)∧rE (0:Nat)∧(0:Nat)+n=n∧a.1=a.1∧a.2=a.2∧a.3=a.3∧a.4=a.4∧a.5=a.5∧a.6=a.6∧n=(0:Nat)+n∧(∀ (i:Nat),i<n→rE (6:Nat)∧((if i=(0:Nat)+(↑s:Int).toNat then if i<(0:Nat) then (0:Int) else rtA a (f (i - (0:Nat))).1 else if i<(0:Nat) then (0:Int) else rtA a (f (i - (0:Nat))).1)=if i=s then if c=(0:Int) then rtA a (f i).1+d else rtA a (f i).1 else rtA a (f i).1)∧((if i=(0:Nat)+(↑s:Int).toNat then if i<(0:Nat) then (0:Int) else duA a (f (i - (0:Nat))) else if i<(0:Nat) then (0:Int) else duA a (f (i - (0:Nat))))=if i=s then if c=(1:Int) then duA a (f i)+d else duA a (f i) else duA a (f i))∧((if i=(0:Nat)+(↑s:Int).toNat then if i<(0:Nat) then (0:Int) else pdA a (stJ a f (i - (0:Nat))) (f (i - (0:Nat))) else if i<(0:Nat) then (0:Int) else pdA a (stJ a f (i - (0:Nat))) (f (i - (0:Nat))))=if i=s then if c=(2:Int) then pdA a (stJ a f i) (f i)+d else pdA a (stJ a f i) (f i) else pdA a (stJ a f i) (f i))∧((if i=(0:Nat)+(↑s:Int).toNat then if i<(0:Nat) then (0:Int) else arS a (stJ a f (i - (0:Nat))) (f (i - (0:Nat))) else if i<(0:Nat) then (0:Int) else arS a (stJ a f (i - (0:Nat))) (f (i - (0:Nat))))=if i=s then if c=(3:Int) then arS a (stJ a f i) (f i)+d else arS a (stJ a f i) (f i) else arS a (stJ a f i) (f i))∧((if i=(0:Nat)+(↑s:Int).toNat then if i<(0:Nat) then (0:Int) else nB a (stJ a f (i - (0:Nat))) (f (i - (0:Nat))) else if i<(0:Nat) then (0:Int) else nB a (stJ a f (i - (0:Nat))) (f (i - (0:Nat))))=if i=s then if c=(4:Int) then nB a (stJ a f i) (f i)+d else nB a (stJ a f i) (f i) else nB a (stJ a f i) (f i))∧((if i=(0:Nat)+(↑s:Int).toNat then (if (0:Nat)+(↑s:Int).toNat<(0:Nat) then (0:Int) else (stJ a f ((0:Nat)+(↑s:Int).toNat - (0:Nat))).1+(f ((0:Nat)+(↑s:Int).toNat - (0:Nat))).3 - pdA a (stJ a f ((0:Nat)+(↑s:Int).toNat - (0:Nat))) (f ((0:Nat)+(↑s:Int).toNat - (0:Nat))) - nB a (stJ a f ((0:Nat)+(↑s:Int).toNat - (0:Nat))) (f ((0:Nat)+(↑s:Int).toNat - (0:Nat))))+((1:Int)+w.tdiv (6:Int)) else if i<(0:Nat) then (0:Int) else (stJ a f (i - (0:Nat))).1+(f (i - (0:Nat))).3 - pdA a (stJ a f (i - (0:Nat))) (f (i - (0:Nat))) - nB a (stJ a f (i - (0:Nat))) (f (i - (0:Nat))))=if i=s then if c=(5:Int) then (stJ a f i).1+(f i).3 - pdA a (stJ a f i) (f i) - nB a (stJ a f i) (f i)+d else (stJ a f i).1+(f i).3 - pdA a (stJ a f i) (f i) - nB a (stJ a f i) (f i) else (stJ a f i).1+(f i).3 - pdA a (stJ a f i) (f i) - nB a (stJ a f i) (f i))∧True)∧True))
def l6G1 (a:Ytfobgmecnlehaaa.Act) (n:Nat) (f:Nat→Yr) (u:Int) (v:Int) (w:Int) (z:Nat):Prop:=(¬(f (↑z:Int).toNat).2*rtA a (f (↑z:Int).toNat).1<duA a (f (↑z:Int).toNat)*(10000:Int)→(0:Nat)<(1:Nat)∧rI (duA a (f (↑z:Int).toNat)+(1:Int))∧rI ((duA a (f (↑z:Int).toNat)+(1:Int))*(10000:Int))∧(0:Int)≤(↑z:Int)∧(↑z:Int)<(↑n:Int)∧(0:Nat)<(1:Nat)∧rI ((f (↑z:Int).toNat).2*rtA a (f (↑z:Int).toNat).1)∧((duA a (f (↑z:Int).toNat)+(1:Int))*(10000:Int)≤(f (↑z:Int).toNat).2*rtA a (f (↑z:Int).toNat).1→false=true∧True)∧(¬(duA a (f (↑z:Int).toNat)+(1:Int))*(10000:Int)≤(f (↑z:Int).toNat).2*rtA a (f (↑z:Int).toNat).1→rI ((↑z:Int)+(1:Int))∧∃ (z_1:Nat),z_1≤n∧n - z_1<n - z∧n=n∧(l6G5 n f)∧u=u∧v=v∧w=w∧rE (0:Nat)∧rE (0:Nat)∧n=n∧(l6G4 a n f)∧sumJ (pfF f) z+(f (↑z:Int).toNat).3=sumJ (pfF f) z_1∧sumJ (pdF a f) z+pdA a (stJ a f (↑z:Int).toNat) (f (↑z:Int).toNat)=sumJ (pdF a f) z_1∧sumJ (rbF a f) z+((stJ a f (↑z:Int).toNat).1+(f (↑z:Int).toNat).3 - pdA a (stJ a f (↑z:Int).toNat) (f (↑z:Int).toNat) - nB a (stJ a f (↑z:Int).toNat) (f (↑z:Int).toNat))=sumJ (rbF a f) z_1∧n=n∧(l6G4 a n f)∧rE (↑n:Int)∧(↑z:Int)+(1:Int)=(↑z_1:Int)∧a.1=a.1∧a.2=a.2∧a.3=a.3∧a.4=a.4∧a.5=a.5∧a.6=a.6∧True))
def l6G2 (a:Ytfobgmecnlehaaa.Act) (n:Nat) (f:Nat→Yr) (s:Nat) (c:Int) (d:Int):Prop:=(True∧True∧(0:Nat)<(1:Nat)∧True∧True∧True∧True∧True∧True∧True∧True∧True∧(True∧True∧(True∧True∧(∀ (i:Nat),i<n→rE true)∧rE (0:Nat)∧rE (0:Nat)∧(∀ (i:Nat),rE true)∧((0:Nat)+n)*(48:Nat)≤(140737488355328:Nat)∧(0:Nat)+n≤(4611686018427387904:Nat)∧True∧True∧(∀ (i:Nat),i<(1:Nat)→rE true)∧rE (0:Nat)∧rE ((0:Nat)+n)∧(∀ (i:Nat),rE true)∧((0:Nat)+n+(1:Nat))*(48:Nat)≤(140737488355328:Nat)∧(0:Nat)+n+(1:Nat)≤(4611686018427387904:Nat)∧True∧True∧(∀ (i:Nat),i<n→True∧True∧True∧True)∧(0:Nat)+((0:Nat)+n+(1:Nat))≤(0:Nat)+n+(1:Nat)∧(∀ (i:Nat),i<(0:Nat)+n+(1:Nat)→rE (6:Nat)∧True∧True∧True∧True∧True∧True∧True)∧(SV.lst (3:Nat) n fun i=>(f i).sv)=yrL n f∧(SV.lst (6:Nat) ((0:Nat)+n+(1:Nat)) fun i=>(rowsK (Try.prog.cellsOf (45:Nat)) ((0:Nat)+n+(1:Nat)) (appF ((0:Nat)+n) (rowsK (Try.prog.cellsOf (45:Nat)) ((0:Nat)+n) (appF (0:Nat) (rowsK (Try.prog.cellsOf (45:Nat)) (0:Nat) fun x=>ofS (Value.agg #[Value.int IntKind.i64 (0:Int),Value.int IntKind.i64 (0:Int),Value.int IntKind.i64 (0:Int),Value.int IntKind.i64 (0:Int),Value.int IntKind.i64 (0:Int),Value.int IntKind.i64 (0:Int)])).f fun i=>(pyJ a f i).sv)).f (chainF [SV.agg (ofS (Value.agg #[Value.int IntKind.i64 (0:Int),Value.int IntKind.i64 (0:Int),Value.int IntKind.i64 (0:Int),Value.int IntKind.i64 (0:Int),Value.int IntKind.i64 (0:Int),Value.int IntKind.i64 (0:Int)])).cells]))).f (i+(0:Nat)))=pyL ((0:Nat)+n+(1:Nat)) (pyF fun i=>(rowsK (Try.prog.cellsOf (45:Nat)) ((0:Nat)+n+(1:Nat)) (appF ((0:Nat)+n) (rowsK (Try.prog.cellsOf (45:Nat)) ((0:Nat)+n) (appF (0:Nat) (rowsK (Try.prog.cellsOf (45:Nat)) (0:Nat) fun x=>ofS (Value.agg #[Value.int IntKind.i64 (0:Int),Value.int IntKind.i64 (0:Int),Value.int IntKind.i64 (0:Int),Value.int IntKind.i64 (0:Int),Value.int IntKind.i64 (0:Int),Value.int IntKind.i64 (0:Int)])).f fun i=>(pyJ a f i).sv)).f (chainF [SV.agg (ofS (Value.agg #[Value.int IntKind.i64 (0:Int),Value.int IntKind.i64 (0:Int),Value.int IntKind.i64 (0:Int),Value.int IntKind.i64 (0:Int),Value.int IntKind.i64 (0:Int),Value.int IntKind.i64 (0:Int)])).cells]))).f (i+(0:Nat)))∧n<(1000:Nat)∧(0:Nat)+n+(1:Nat)<(1000:Nat)∧True∧True∧True∧True∧True∧True∧True∧True∧True∧True∧∃ (zp9_0:Int × Int),(zp9_0.1=(↑n:Int)∧zp9_0.2=(11:Int))∧n=n∧(l6G5 n f)∧rE (↑s:Int)∧ckN a n f n (pyF fun i=>(wrP a f s c d (i+(0:Nat))).sv)=ckN a n f n (wrP a f s c d)∧ckE a n f n (pyF fun i=>(wrP a f s c d (i+(0:Nat))).sv)=ckE a n f n (wrP a f s c d)∧ckN a n f ((↑s:Int) - (0:Int)).toNat (pyF fun i=>(pyJ a f (Int.toNat (0:Int)+i)).sv)=ckN a n f s (pyJ a f)∧ckE a n f ((↑s:Int) - (0:Int)).toNat (pyF fun i=>(pyJ a f (Int.toNat (0:Int)+i)).sv)=ckE a n f s (pyJ a f)∧ckN a n f ((0:Nat)+n+(1:Nat)) (pyF fun i=>(rowsK (Try.prog.cellsOf (45:Nat)) ((0:Nat)+n+(1:Nat)) (appF ((0:Nat)+n) (rowsK (Try.prog.cellsOf (45:Nat)) ((0:Nat)+n) (appF (0:Nat) (rowsK (Try.prog.cellsOf (45:Nat)) (0:Nat) fun x=>ofS (Value.agg #[Value.int IntKind.i64 (0:Int),Value.int IntKind.i64 (0:Int),Value.int IntKind.i64 (0:Int),Value.int IntKind.i64 (0:Int),Value.int IntKind.i64 (0:Int),Value.int IntKind.i64 (0:Int)])).f fun i=>(pyJ a f i).sv)).f (chainF [SV.agg (ofS (Value.agg #[Value.int IntKind.i64 (0:Int),Value.int IntKind.i64 (0:Int),Value.int IntKind.i64 (0:Int),Value.int IntKind.i64 (0:Int),Value.int IntKind.i64 (0:Int),Value.int IntKind.i64 (0:Int)])).cells]))).f (i+(0:Nat)))=zp9_0.1∧ckE a n f ((0:Nat)+n+(1:Nat)) (pyF fun i=>(rowsK (Try.prog.cellsOf (45:Nat)) ((0:Nat)+n+(1:Nat)) (appF ((0:Nat)+n) (rowsK (Try.prog.cellsOf (45:Nat)) ((0:Nat)+n) (appF (0:Nat) (rowsK (Try.prog.cellsOf (45:Nat)) (0:Nat) fun x=>ofS (Value.agg #[Value.int IntKind.i64 (0:Int),Value.int IntKind.i64 (0:Int),Value.int IntKind.i64 (0:Int),Value.int IntKind.i64 (0:Int),Value.int IntKind.i64 (0:Int),Value.int IntKind.i64 (0:Int)])).f fun i=>(pyJ a f i).sv)).f (chainF [SV.agg (ofS (Value.agg #[Value.int IntKind.i64 (0:Int),Value.int IntKind.i64 (0:Int),Value.int IntKind.i64 (0:Int),Value.int IntKind.i64 (0:Int),Value.int IntKind.i64 (0:Int),Value.int IntKind.i64 (0:Int)])).cells]))).f (i+(0:Nat)))=zp9_0.2∧a.1=a.1∧a.2=a.2∧a.3=a.3∧a.4=a.4∧a.5=a.5∧a.6=a.6∧True)∧True)∧True)
def l6G3 (a:Ytfobgmecnlehaaa.Act) (n:Nat) (f:Nat→Yr) (u:Int) (v:Int) (w:Int) (z:Nat):Prop:=(¬rtA a (f (↑z:Int).toNat).1<(0:Int)→(0:Nat)<(1:Nat)∧((10000:Int)<rtA a (f (↑z:Int).toNat).1→false=true∧True)∧(¬(10000:Int)<rtA a (f (↑z:Int).toNat).1→(0:Nat)<(1:Nat)∧((0:Int)<(stJ a f (↑z:Int).toNat).1+(f (↑z:Int).toNat).3 - pdA a (stJ a f (↑z:Int).toNat) (f (↑z:Int).toNat) - nB a (stJ a f (↑z:Int).toNat) (f (↑z:Int).toNat)→(0:Nat)<(1:Nat)∧(0:Nat)<(1:Nat)∧(¬nB a (stJ a f (↑z:Int).toNat) (f (↑z:Int).toNat)=a.5→false=true∧True)∧(¬¬nB a (stJ a f (↑z:Int).toNat) (f (↑z:Int).toNat)=a.5→(0:Nat)<(1:Nat)∧rI (duA a (f (↑z:Int).toNat)*(10000:Int))∧(0:Int)≤(↑z:Int)∧(↑z:Int)<(↑n:Int)∧(0:Nat)<(1:Nat)∧rI ((f (↑z:Int).toNat).2*rtA a (f (↑z:Int).toNat).1)∧((f (↑z:Int).toNat).2*rtA a (f (↑z:Int).toNat).1<duA a (f (↑z:Int).toNat)*(10000:Int)→false=true∧True)∧(l6G1 a n f u v w z)))∧(¬(0:Int)<(stJ a f (↑z:Int).toNat).1+(f (↑z:Int).toNat).3 - pdA a (stJ a f (↑z:Int).toNat) (f (↑z:Int).toNat) - nB a (stJ a f (↑z:Int).toNat) (f (↑z:Int).toNat)→(0:Nat)<(1:Nat)∧rI (duA a (f (↑z:Int).toNat)*(10000:Int))∧(0:Int)≤(↑z:Int)∧(↑z:Int)<(↑n:Int)∧(0:Nat)<(1:Nat)∧rI ((f (↑z:Int).toNat).2*rtA a (f (↑z:Int).toNat).1)∧((f (↑z:Int).toNat).2*rtA a (f (↑z:Int).toNat).1<duA a (f (↑z:Int).toNat)*(10000:Int)→false=true∧True)∧(l6G1 a n f u v w z))))
def l6G6 (a:Ytfobgmecnlehaaa.Act) (n:Nat) (f:Nat→Yr) (s:Nat) (c:Int) (d:Int) (zp9_0:Int × Int):Prop:=(ckN a n f n (wrP a f s c d)=(↑s:Int)→(ckE a n f n (wrP a f s c d)=(11:Int)→(ckN a n f s (pyJ a f)=(↑s:Int)→(ckE a n f s (pyJ a f)=(4:Int)→(zp9_0.1=(↑n:Int)→(zp9_0.2=(11:Int)→rE true∧True)∧(¬zp9_0.2=(11:Int)→false=true∧True))∧(¬zp9_0.1=(↑n:Int)→false=true∧True))∧(¬ckE a n f s (pyJ a f)=(4:Int)→false=true∧True))∧(¬ckN a n f s (pyJ a f)=(↑s:Int)→false=true∧True))∧(¬ckE a n f n (wrP a f s c d)=(11:Int)→false=true∧True))
theorem l6G_vc (a:Ytfobgmecnlehaaa.Act) (n:Nat) (f:Nat→Yr) (u:Int) (v:Int) (w:Int) (s:Nat) (K:Nat) (lo:Nat) (c:Int) (d:Int):l6G a n f u v w s K lo c d =
(((24:Int)<(↑n:Int)→rE true∧True)∧(¬(24:Int)<(↑n:Int)→(0:Nat)<(1:Nat)∧(∀ (i:Nat),i<n→True∧True∧True∧True)∧(SV.lst (3:Nat) n fun i=>(f i).sv)=yrL n f∧n<(1000:Nat)∧(¬erA a n f=(0:Int)→((↑(ruN a n f):Int)=(0:Int)→(0:Nat)<(1:Nat)∧((erA a n f=(1:Int)↔¬okA a)→rE true∧True)∧(¬(erA a n f=(1:Int)↔¬okA a)→false=true∧True))∧(¬(↑(ruN a n f):Int)=(0:Int)→false=true∧True))∧(¬¬erA a n f=(0:Int)→(0:Nat)<(1:Nat)∧(¬okA a→false=true∧True)∧(¬¬okA a→(¬(↑(ruN a n f):Int)=(↑n:Int)→false=true∧True)∧(¬¬(↑(ruN a n f):Int)=(↑n:Int)→(∃ (z:Nat),z≤n∧n=n∧(l6G5 n f)∧u=u∧v=v∧w=w∧rE (0:Nat)∧rE (0:Nat)∧ruN a n f=n∧(∀ (i:Nat),i<n→(pyJ a f i).sv.den=(pyJ a f i).sv.den∧True∧True∧True∧True∧True∧True∧True)
∧ (0:Int)=sumJ (pfF f) z∧(0:Int)=sumJ (pdF a f) z∧(0:Int)=sumJ (rbF a f) z∧ruN a n f=n∧(∀ (i:Nat),i<n→(pyJ a f i).sv.den=(pyJ a f i).sv.den∧True∧True∧True∧True∧True∧True∧True)∧(↑(ruN a n f):Int)=(↑n:Int)∧(0:Int)=(↑z:Int)∧a.1=a.1∧a.2=a.2∧a.3=a.3∧a.4=a.4∧a.5=a.5∧a.6=a.6∧True)∧∀ (z:Nat),z≤n→((↑z:Int)<(↑n:Int)→(0:Int)≤(↑z:Int)∧(↑z:Int)<(↑n:Int)∧(0:Int)≤(↑z:Int)∧(↑z:Int)<(↑n:Int)∧rI (sumJ (pfF f) z+(f (↑z:Int).toNat).3)∧(0:Nat)<(1:Nat)∧rI (sumJ (pdF a f) z+pdA a (stJ a f (↑z:Int).toNat) (f (↑z:Int).toNat))∧(0:Nat)<(1:Nat)∧rI (sumJ (rbF a f) z+((stJ a f (↑z:Int).toNat).1+(f (↑z:Int).toNat).3 - pdA a (stJ a f (↑z:Int).toNat) (f (↑z:Int).toNat) - nB a (stJ a f (↑z:Int).toNat) (f (↑z:Int).toNat)))∧rI (sumJ (pdF a
f) z+pdA a (stJ a f (↑z:Int).toNat) (f (↑z:Int).toNat)+(sumJ (rbF a f) z+((stJ a f (↑z:Int).toNat).1+(f (↑z:Int).toNat).3 - pdA a (stJ a f (↑z:Int).toNat) (f (↑z:Int).toNat) - nB a (stJ a f (↑z:Int).toNat) (f (↑z:Int).toNat))))∧(0:Nat)<(1:Nat)∧rI (sumJ (pdF a f) z+pdA a (stJ a f (↑z:Int).toNat) (f (↑z:Int).toNat)+(sumJ (rbF a f) z+((stJ a f (↑z:Int).toNat).1+(f (↑z:Int).toNat).3 - pdA a (stJ a f (↑z:Int).toNat) (f (↑z:Int).toNat) - nB a (stJ a f (↑z:Int).toNat) (f (↑z:Int).toNat)))+nB a (stJ a f (↑z:Int).toNat) (f (↑z:Int).toNat))∧(¬sumJ (pfF f) z+(f (↑z:Int).toNat).3=sumJ (pdF a f) z+pdA a (stJ a f (↑z:Int).toNat) (f (↑z:Int).toNat)+(sumJ (rbF a f) z+((stJ a f (↑z:Int).toNat).1+(f (↑z:Int).toNat).3 - pdA a (stJ a f (↑z:Int).toNat) (f (↑z:Int).toNat) - nB a (stJ a f (↑z:Int).toNat) (f (↑z :
Int).toNat)))+nB a (stJ a f (↑z:Int).toNat) (f (↑z:Int).toNat)→false=true∧True)∧(¬¬sumJ (pfF f) z+(f (↑z:Int).toNat).3=sumJ (pdF a f) z+pdA a (stJ a f (↑z:Int).toNat) (f (↑z:Int).toNat)+(sumJ (rbF a f) z+((stJ a f (↑z:Int).toNat).1+(f (↑z:Int).toNat).3 - pdA a (stJ a f (↑z:Int).toNat) (f (↑z:Int).toNat) - nB a (stJ a f (↑z:Int).toNat) (f (↑z:Int).toNat)))+nB a (stJ a f (↑z:Int).toNat) (f (↑z:Int).toNat)→(0:Nat)<(1:Nat)∧(0:Nat)<(1:Nat)∧(a.5<nB a (stJ a f (↑z:Int).toNat) (f (↑z:Int).toNat)→false=true∧True)∧(¬a.5<nB a (stJ a f (↑z:Int).toNat) (f (↑z:Int).toNat)→(0:Nat)<(1:Nat)∧(arS a (stJ a f (↑z:Int).toNat) (f (↑z:Int).toNat)<(0:Int)→false=true∧True)∧(¬arS a (stJ a f (↑z:Int).toNat) (f (↑z:Int).toNat)<(0:Int)→(0:Nat)<(1:Nat)∧(pdA a (stJ a f (↑z:Int).toNat)
(f (↑z:Int).toNat)<(0:Int)→false=true∧True)∧(¬pdA a (stJ a f (↑z:Int).toNat) (f (↑z:Int).toNat)<(0:Int)→(0:Nat)<(1:Nat)∧((stJ a f (↑z:Int).toNat).1+(f (↑z:Int).toNat).3 - pdA a (stJ a f (↑z:Int).toNat) (f (↑z:Int).toNat) - nB a (stJ a f (↑z:Int).toNat) (f (↑z:Int).toNat)<(0:Int)→false=true∧True)∧(¬(stJ a f (↑z:Int).toNat).1+(f (↑z:Int).toNat).3 - pdA a (stJ a f (↑z:Int).toNat) (f (↑z:Int).toNat) - nB a (stJ a f (↑z:Int).toNat) (f (↑z:Int).toNat)<(0:Int)→(0:Nat)<(1:Nat)∧((0:Int)<arS a (stJ a f (↑z:Int).toNat) (f (↑z:Int).toNat)→(0:Nat)<(1:Nat)∧((0:Int)<nB a (stJ a f (↑z:Int).toNat) (f (↑z:Int).toNat)→false=true∧True)∧(¬(0:Int)<nB a (stJ a f (↑z:Int).toNat) (f (↑z:Int).toNat)→(0:Nat)<(1:Nat)∧((0:Int)<(stJ a f (↑z:Int).toNat).1+(f (↑z :
Int).toNat).3 - pdA a (stJ a f (↑z:Int).toNat) (f (↑z:Int).toNat) - nB a (stJ a f (↑z:Int).toNat) (f (↑z:Int).toNat)→false=true∧True)∧(¬(0:Int)<(stJ a f (↑z:Int).toNat).1+(f (↑z:Int).toNat).3 - pdA a (stJ a f (↑z:Int).toNat) (f (↑z:Int).toNat) - nB a (stJ a f (↑z:Int).toNat) (f (↑z:Int).toNat)→(0:Nat)<(1:Nat)∧(rtA a (f (↑z:Int).toNat).1<(0:Int)→false=true∧True)∧(l6G3 a n f u v w z))))∧(¬(0:Int)<arS a (stJ a f (↑z:Int).toNat) (f (↑z:Int).toNat)→(0:Nat)<(1:Nat)∧(rtA a (f (↑z:Int).toNat).1<(0:Int)→false=true∧True)∧(l6G3 a n f u v w z))))))))∧(¬(↑z:Int)<(↑n:Int)→(0:Nat)<(1:Nat)∧(∀ (i:Nat),i<n→True∧True∧True∧True)∧(∀ (i:Nat),i<n→True∧True∧True∧True∧True∧True∧True)∧(SV.lst (3:Nat) n fun i=>(f i).sv)=yrL n f∧(SV.lst (6:Nat) n fun i=>(pyJ
a f i).sv)=pyL n (pyJ a f)∧n<(1000:Nat)∧n<(1000:Nat)∧(¬ckN a n f n (pyJ a f)=(↑n:Int)→false=true∧True)∧(¬¬ckN a n f n (pyJ a f)=(↑n:Int)→(¬ckE a n f n (pyJ a f)=(0:Int)→false=true∧True)∧(¬¬ckE a n f n (pyJ a f)=(0:Int)→((↑n:Int)=(0:Int)→rE true∧True)∧(¬(↑n:Int)=(0:Int)→rI (u)∧((↑n:Int)=(0:Int)→False)∧rI (v)∧((↑n:Int)=(0:Int)→False)∧(∃ (z:Nat),(s≤z∧z≤max s (K+(1:Nat)))∧n=n∧(l6G5 n f)∧w=w∧rE (0:Nat)∧rE (0:Nat)∧n=n∧(l6G4 a n f)∧u.tmod (↑n:Int)=(↑s:Int)∧v.tmod (↑n:Int)=(↑K:Int)∧(0:Int)=rgJ (pdF a f) s z∧rE (0:Int)∧u.tmod (↑n:Int)=(↑z:Int)∧a.1=a.1∧a.2=a.2∧a.3=a.3∧a.4=a.4∧a.5=a.5∧a.6=a.6∧True)∧∀ (z:Nat),s≤z∧z≤max s (K+(1:Nat))→((↑z:Int)≤(↑K:Int)→(0:Int)≤(↑z:Int)∧(↑z :
Int)<(↑n:Int)∧rI (rgJ (pdF a f) s z+pdA a (stJ a f (↑z:Int).toNat) (f (↑z:Int).toNat))∧rI ((↑z:Int)+(1:Int))∧∃ (z_1:Nat),(s≤z_1∧z_1≤max s (K+(1:Nat)))∧K+(1:Nat) - z_1<K+(1:Nat) - z∧n=n∧(l6G5 n f)∧w=w∧rE (0:Nat)∧rE (0:Nat)∧n=n∧(l6G4 a n f)∧rE (↑s:Int)∧rE (↑K:Int)∧rgJ (pdF a f) s z+pdA a (stJ a f (↑z:Int).toNat) (f (↑z:Int).toNat)=rgJ (pdF a f) s z_1∧rE (0:Int)∧(↑z:Int)+(1:Int)=(↑z_1:Int)∧a.1=a.1∧a.2=a.2∧a.3=a.3∧a.4=a.4∧a.5=a.5∧a.6=a.6∧True)∧(¬(↑z:Int)≤(↑K:Int)→(0:Nat)<(1:Nat)∧rI ((↑s:Int) - a.6)∧(∃ (z_1:Nat),(lo≤z_1∧z_1≤max lo (K+(1:Nat)))∧n=n∧(l6G5 n f)∧w=w∧rE (0:Nat)∧rE (0:Nat)∧n=n∧(l6G4 a n f)∧rE (↑s:Int)∧rE (↑K:Int)∧rgJ (pdF a f) s z=rgJ (pdF a f) s (max s (K+(1:Nat)))∧(0:Int)
= rgJ (duF a f) lo z_1∧max (0:Int) ((↑s:Int) - a.6)=(↑z_1:Int)∧a.1=a.1∧a.2=a.2∧a.3=a.3∧a.4=a.4∧a.5=a.5∧a.6=a.6∧True)∧∀ (z:Nat),lo≤z∧z≤max lo (K+(1:Nat))→((↑z:Int)≤(↑K:Int)→(0:Int)≤(↑z:Int)∧(↑z:Int)<(↑n:Int)∧rI (rgJ (duF a f) lo z+duA a (f (↑z:Int).toNat))∧rI ((↑z:Int)+(1:Int))∧∃ (z_1:Nat),(lo≤z_1∧z_1≤max lo (K+(1:Nat)))∧K+(1:Nat) - z_1<K+(1:Nat) - z∧n=n∧(l6G5 n f)∧w=w∧rE (0:Nat)∧rE (0:Nat)∧n=n∧(l6G4 a n f)∧rE (↑s:Int)∧rE (↑K:Int)∧rE (rgJ (pdF a f) s (max s (K+(1:Nat))))∧rgJ (duF a f) lo z+duA a (f (↑z:Int).toNat)=rgJ (duF a f) lo z_1∧(↑z:Int)+(1:Int)=(↑z_1:Int)∧a.1=a.1∧a.2=a.2∧a.3=a.3∧a.4=a.4∧a.5=a.5∧a.6=a.6∧True)∧(¬(↑z:Int)≤(↑K:Int)→(rgJ (duF a f) lo z<rgJ (pdF a f) s (max s (K
+ (1:Nat)))→((↑s:Int)≤(↑K:Int)→false=true∧True)∧(¬(↑s:Int)≤(↑K:Int)→(∀ (i:Nat),i<n→rE true)∧rE (0:Nat)∧rE (0:Nat)∧(∀ (i:Nat),rE true)∧((0:Nat)+n)*(48:Nat)≤(140737488355328:Nat)∧(0:Nat)+n≤(4611686018427387904:Nat)∧(0:Int)≤(↑s:Int)∧(↑s:Int)<(↑((0:Nat)+n):Int)∧(l6G0 a n f w s c d)∧∀ (zp4_0:Unit),True→(0:Nat)<(1:Nat)∧(∀ (i:Nat),i<n→True∧True∧True∧True)∧(0:Nat)+n≤n∧(∀ (i:Nat),i<n→rE (6:Nat)∧True∧True∧True∧True∧True∧True∧True)∧(SV.lst (3:Nat) n fun i=>(f i).sv)=yrL n f∧(SV.lst (6:Nat) n fun i=>(wrP a f s c d (i+(0:Nat))).sv)=pyL n (pyF fun i=>(wrP a f s c d (i+(0:Nat))).sv)∧n<(1000:Nat)∧n<(1000:Nat)∧(0:Nat)<(1:Nat)∧(0:Int)≤(0:Int)∧(0:Int)≤(↑s:Int)∧(↑s:Int)≤(↑n:Int)∧(∀ (i
: Nat),i<n→True∧True∧True∧True)∧(∀ (i:Nat),i<((↑s:Int) - (0:Int)).toNat→True∧True∧True∧True∧True∧True∧True)∧(SV.lst (3:Nat) n fun i=>(f i).sv)=yrL n f∧(SV.lst (6:Nat) ((↑s:Int) - (0:Int)).toNat fun i=>(pyJ a f (Int.toNat (0:Int)+i)).sv)=pyL ((↑s:Int) - (0:Int)).toNat (pyF fun i=>(pyJ a f (Int.toNat (0:Int)+i)).sv)∧n<(1000:Nat)∧((↑s:Int) - (0:Int)).toNat<(1000:Nat)∧(l6G2 a n f s c d)∧∀ (zp9_0:Int × Int),zp9_0.1=(↑n:Int)∧zp9_0.2=(11:Int)→(l6G6 a n f s c d zp9_0)∧(¬ckN a n f n (wrP a f s c d)=(↑s:Int)→false=true∧True)))∧(¬rgJ (duF a f) lo z<rgJ (pdF a f) s (max s (K+(1:Nat)))→(∀ (i:Nat),i<n→rE true)∧rE (0:Nat)∧rE (0:Nat)∧(∀ (i:Nat),rE true)∧((0:Nat)+n)*(48:Nat)≤(140737488355328:Nat)∧(0:Nat)+n≤(4611686018427387904:Nat) ∧
(0:Int)≤(↑s:Int)∧(↑s:Int)<(↑((0:Nat)+n):Int)∧(l6G0 a n f w s c d)∧∀ (zp4_0:Unit),True→(0:Nat)<(1:Nat)∧(∀ (i:Nat),i<n→True∧True∧True∧True)∧(0:Nat)+n≤n∧(∀ (i:Nat),i<n→rE (6:Nat)∧True∧True∧True∧True∧True∧True∧True)∧(SV.lst (3:Nat) n fun i=>(f i).sv)=yrL n f∧(SV.lst (6:Nat) n fun i=>(wrP a f s c d (i+(0:Nat))).sv)=pyL n (pyF fun i=>(wrP a f s c d (i+(0:Nat))).sv)∧n<(1000:Nat)∧n<(1000:Nat)∧(0:Nat)<(1:Nat)∧(0:Int)≤(0:Int)∧(0:Int)≤(↑s:Int)∧(↑s:Int)≤(↑n:Int)∧(∀ (i:Nat),i<n→True∧True∧True∧True)∧(∀ (i:Nat),i<((↑s:Int) - (0:Int)).toNat→True∧True∧True∧True∧True∧True∧True)∧(SV.lst (3:Nat) n fun i=>(f i).sv)=yrL n f∧(SV.lst (6:Nat) ((↑s:Int) - (0:Int)).toNat fun i=>(pyJ a f (Int.toNat (0:Int)
+ i)).sv)=pyL ((↑s:Int) - (0:Int)).toNat (pyF fun i=>(pyJ a f (Int.toNat (0:Int)+i)).sv)∧n<(1000:Nat)∧((↑s:Int) - (0:Int)).toNat<(1000:Nat)∧(l6G2 a n f s c d)∧∀ (zp9_0:Int × Int),zp9_0.1=(↑n:Int)∧zp9_0.2=(11:Int)→(l6G6 a n f s c d zp9_0)∧(¬ckN a n f n (wrP a f s c d)=(↑s:Int)→false=true∧True))))))))))))):=by kernel_rfl
end Go.Proofs.Ytfobgmecnlehaaa

set_option maxRecDepth 100000
namespace Go.Proofs.Ytfobgmecnlehaaa
open Go Go.Lg
attribute [local irreducible] funS bodyH
theorem sum_abs {g:Nat→Int}:∀ {n:Nat},(∀ i,i<n→-30000000000000≤g i∧g i≤30000000000000)→-(30000000000000*(n:Int))≤sumJ g n∧sumJ g n≤30000000000000*(n:Int)
 | 0,_=>by simp [sumJ]
 | n+1,h=>by
  have h1:=sum_abs (n:=n) fun i hi=>h i (by omega)
  have h2:=h n (by omega)
  show _≤sumJ g n+g n∧sumJ g n+g n≤_
  omega
theorem earned (a:Act) (f:Nat→Yr):∀ j,sumJ (pfF f) j=sumJ (pdF a f) j+sumJ (rbF a f) j+(stJ a f j).ba
 | 0=>rfl
 | j+1=>by
  have h:=earned a f j
  have e1:sumJ (pfF f) (j+1)=sumJ (pfF f) j+(f j).pf:=rfl
  have e2:sumJ (pdF a f) (j+1)=sumJ (pdF a f) j+pdA a (stJ a f j) (f j):=rfl
  have e3:sumJ (rbF a f) (j+1)=sumJ (rbF a f) j+((stJ a f j).ba+(f j).pf - pdA a (stJ a f j) (f j) - nB a (stJ a f j) (f j)):=rfl
  have e4:(stJ a f (j+1)).ba=nB a (stJ a f j) (f j):=rfl
  rw [e1,e2,e3,e4]; omega
theorem all_paid {a:Act} {j:Nat} {s:Lg} {y:Yr} (hs:okL a j s) (hy:okY y) (e:pdA a s y=duA a y+sumJ (arF s) s.n):arS a s y=0:=by
 have hd:=du_bd a hy
 unfold nnB bt at hd
 have hS:=(sum_bd hs.q).1
 have eo:odA a s y=duA a y:=by unfold odA; omega
 unfold arS
 refine sum_zero fun i hi=>?_
 rw [arF_nx]
 unfold nF
 by_cases hc:s.n+1 - nN a s+i<s.n
 ·rw [if_pos hc]
  exact lJ_zero hs.q (by omega) hc
 ·rw [if_neg hc]; omega
structure yrS (a:Act) (s:Lg) (y:Yr):Prop where
 b:bdS a s y
 m:nB a s y≤a.mo
 ar:0≤arS a s y
 ar1:arS a s y≤5497558138880
 rb:0≤s.ba+y.pf - pdA a s y - nB a s y
 rb1:s.ba+y.pf - pdA a s y - nB a s y≤22000000000000
 r:bt 0 10000 (rtA a y.pr)
 pos:0<arS a s y→nB a s y≤0∧s.ba+y.pf - pdA a s y - nB a s y≤0
 full:0<s.ba+y.pf - pdA a s y - nB a s y→nB a s y=a.mo
 d0:duA a y*10000≤y.cp*rtA a y.pr
 d1:y.cp*rtA a y.pr<(duA a y+1)*10000
 c0:0≤y.cp*rtA a y.pr
 c1:y.cp*rtA a y.pr≤1099511627776*10000
theorem yr_all {a:Act} {j:Nat} {s:Lg} {y:Yr} (ha:okA a) (hs:okL a j s) (hy:okY y) (hj:j≤16):yrS a s y:=by
 have hb:=bd_all ha hs hy hj
 have har:=ar_bd ha hs hy
 have g0:=hb.d
 have g1:=hb.b0
 have g2:=hb.b1
 have g3:=hb.y0
 have g4:=hb.y1
 have g5:=hb.p0
 have g7:=hb.s0
 have g8:=hb.m0
 have g9:=hb.m1
 unfold nnB bt at g0
 have eB:nB a s y=min (s.ba+y.pf - pdA a s y) a.mo:=rfl
 have eP:pdA a s y=max (min (duA a y+sumJ (arF s) s.n) (s.ba+y.pf)) 0:=rfl
 have hap:=all_paid hs hy
 have hci:=du_in a hy
 refine ⟨hb,by omega,har.1,har.2,by omega,by omega,rt_bd a _,fun hp=>?_,fun hp=>by omega,?_,?_,hci.1,hci.2⟩
 ·have hne:¬ pdA a s y=duA a y+sumJ (arF s) s.n:=fun h=>by rw [hap h] at hp; omega
  omega
 ·unfold duA; omega
 ·unfold duA; omega
theorem rb_bd {a:Act} {n:Nat} {f:Nat→Yr} (ha:okA a) (hf:okYs n f) (hn:n≤16) {i:Nat} (hi:i<n):yrS a (stJ a f i) (f i):=yr_all ha (st_ok ha hf (by omega)) (hf i hi) (by omega)
theorem mJ_form {f:Nat→Int} {m:Int} (hm:0≤m):∀ {k:Nat},nnL k f→mJ f m k=max (m - sumJ f k) 0
 | 0,_=>by show m=max (m - 0) 0; omega
 | k+1,h=>by
  have h1:=mJ_form hm (k:=k) fun i hi=>h i (by omega)
  have h2:=(h k (by omega)).1
  have h3:=(sum_bd (g:=f) (n:=k) fun i hi=>h i (by omega)).1
  show mJ f m k - min (f k) (mJ f m k)=max (m - (sumJ f k+f k)) 0
  omega
theorem lJ_sum (f:Nat→Int) (m:Int):∀ k,sumJ (lJ f m) k=sumJ f k - (m - mJ f m k)
 | 0=>by show (0:Int)=0 - (m - m); omega
 | k+1=>by
  have h:=lJ_sum f m k
  show sumJ (lJ f m) k+(f k - min (f k) (mJ f m k))=sumJ f k+f k - (m - (mJ f m k - min (f k) (mJ f m k)))
  omega
theorem sum_congr {f g:Nat→Int}:∀ {n:Nat},(∀ i,i<n→f i=g i)→sumJ f n=sumJ g n
 | 0,_=>rfl
 | n+1,h=>by
  show sumJ f n+f n=sumJ g n+g n
  rw [sum_congr (n:=n) fun i hi=>h i (by omega),h n (by omega)]
theorem sum_tail (g:Nat→Int) (o:Nat):∀ k,sumJ (fun i=>g (o+i)) k=sumJ g (o+k) - sumJ g o
 | 0=>by show (0:Int)=sumJ g o - sumJ g o; omega
 | k+1=>by
  have h:=sum_tail g o k
  show sumJ (fun i=>g (o+i)) k+g (o+k)=sumJ g (o+k)+g (o+k) - sumJ g o
  omega
theorem ar_step {a:Act} {j:Nat} {s:Lg} {y:Yr} (hs:okL a j s) (hy:okY y):arS a s y≤sumJ (arF s) s.n+duA a y - pdA a s y:=by
 have hd:=du_bd a hy
 unfold nnB bt at hd
 have hS:=(sum_bd hs.q).1
 obtain ⟨p1,p2,p3,p4⟩:=pd_bd hs hy
 have eo:odA a s y=min (duA a y) (pdA a s y):=rfl
 have eP:pdA a s y=max (min (duA a y+sumJ (arF s) s.n) (s.ba+y.pf)) 0:=rfl
 have hn:nN a s≤s.n+1:=by unfold nN; omega
 have hnf:=nF_bd hs hy
 have e1:arS a s y=sumJ (nF a s y) (s.n+1) - sumJ (nF a s y) (s.n+1 - nN a s):=by
  have h:=sum_tail (nF a s y) (s.n+1 - nN a s) (nN a s)
  have e:s.n+1 - nN a s+nN a s=s.n+1:=by omega
  rw [e] at h
  exact h
 have e2:=(sum_bd (g:=nF a s y) (n:=s.n+1 - nN a s) fun i hi=>hnf i (by omega)).1
 have e3:sumJ (nF a s y) (s.n+1)=sumJ (nF a s y) s.n+(duA a y - odA a s y):=by
  show sumJ (nF a s y) s.n+nF a s y s.n=_
  have:nF a s y s.n=duA a y - odA a s y:=by unfold nF; rw [if_neg (by omega)]
  rw [this]
 have e4:sumJ (nF a s y) s.n=sumJ (lJ (arF s) (pdA a s y - odA a s y)) s.n:=sum_congr fun i hi=>by unfold nF; rw [if_pos hi]
 have e5:=lJ_sum (arF s) (pdA a s y - odA a s y) s.n
 have e6:=mJ_form (f:=arF s) (m:=pdA a s y - odA a s y) (by omega) hs.q
 omega
theorem n_min (a:Act) (f:Nat→Yr):∀ j,(stJ a f j).n=min j a.ba.toNat
 | 0=>by show 0=min 0 _; omega
 | j+1=>by
  show min ((stJ a f j).n+1) a.ba.toNat=_
  rw [n_min a f j]; omega
theorem ar_elt {a:Act} {n:Nat} {f:Nat→Yr} (ha:okA a) (hf:okYs n f):∀ {j:Nat},j≤n→∀ q,q<(stJ a f j).n→arF (stJ a f j) q≤duF a f (j - (stJ a f j).n+q)
 | 0,_,q,hq=>by have hq:q<0:=hq; omega
 | j+1,hj,q,hq=>by
  have hs:=st_ok ha hf (j:=j) (by omega)
  have h0:=ar_elt ha hf (j:=j) (by omega)
  have en:=n_min a f j
  have en1:=n_min a f (j+1)
  have eN:nN a (stJ a f j)=(stJ a f (j+1)).n:=rfl
  have ex:arF (stJ a f (j+1)) q=nF a (stJ a f j) (f j) ((stJ a f j).n+1 - nN a (stJ a f j)+q):=rfl
  rw [ex,eN]
  obtain ⟨p1,p2,p3,p4⟩:=pd_bd hs (hf j (by omega))
  unfold nF
  by_cases hc:(stJ a f j).n+1 - (stJ a f (j+1)).n+q<(stJ a f j).n
  ·rw [if_pos hc]
   have h1:=(lJ_bd (f:=arF (stJ a f j)) (m:=pdA a (stJ a f j) (f j) - odA a (stJ a f j) (f j)) (by omega) (k:=(stJ a f j).n+1 - (stJ a f (j+1)).n+q) fun i hi=>hs.q i (by omega)).2
   have h2:=h0 _ hc
   have e:j - (stJ a f j).n+((stJ a f j).n+1 - (stJ a f (j+1)).n+q)=j+1 - (stJ a f (j+1)).n+q:=by omega
   rw [e] at h2
   omega
  ·rw [if_neg hc]
   have e:j+1 - (stJ a f (j+1)).n+q=j:=by omega
   rw [e]
   show _≤duA a (f j)
   omega
theorem some_years {a:Act} {n:Nat} {f:Nat→Yr} (ha:okA a) (hf:okYs n f) {i:Nat} (hi:i≤n):∀ {k:Nat},i≤k→k≤n→sumJ (pdF a f) k - sumJ (pdF a f) i+sumJ (arF (stJ a f k)) (stJ a f k).n≤sumJ (duF a f) k - sumJ (duF a f) (i - (stJ a f i).n):=by
 intro k hk hkn
 induction k with
 | zero =>
  have:i=0:=by omega
  subst this
  show (0:Int) - 0+0≤0 - 0
  omega
 | succ k ih =>
  by_cases e:i=k+1
  ·subst e
   have h1:=sum_mono (f:=fun q=>duF a f (k+1 - (stJ a f (k+1)).n+q)) (g:=arF (stJ a f (k+1))) (n:=(stJ a f (k+1)).n) (ar_elt ha hf hi)
   have h2:=sum_tail (duF a f) (k+1 - (stJ a f (k+1)).n) (stJ a f (k+1)).n
   have en:=n_min a f (k+1)
   have e3:k+1 - (stJ a f (k+1)).n+(stJ a f (k+1)).n=k+1:=by omega
   rw [e3] at h2
   omega
  ·have h:=ih (by omega) (by omega)
   have h1:=ar_step (st_ok ha hf (j:=k) (by omega)) (hf k (by omega))
   have e1:sumJ (pdF a f) (k+1)=sumJ (pdF a f) k+pdA a (stJ a f k) (f k):=rfl
   have e2:sumJ (duF a f) (k+1)=sumJ (duF a f) k+duA a (f k):=rfl
   have e3:sumJ (arF (stJ a f (k+1))) (stJ a f (k+1)).n=arS a (stJ a f k) (f k):=rfl
   rw [e1,e2,e3]
   omega
end Go.Proofs.Ytfobgmecnlehaaa

set_option maxRecDepth 100000
namespace Go.Proofs.Ytfobgmecnlehaaa
open Go Go.Lg
attribute [local irreducible] funS bodyH
theorem w4_true (a:Act) (n:Nat) (f:Nat→Yr):l6G4 a n f:=by
 unfold l6G4
 simp only [rE,and_true,implies_true]
theorem w5_true (n:Nat) (f:Nat→Yr):l6G5 n f:=by
 unfold l6G5
 simp only [rE,and_true,implies_true]
theorem if_sub {q s:Nat} {g:Nat→Int} {D:Int}:(if q=s then g s+D else g q)=if q=s then g q+D else g q:=by
 by_cases e:q=s
 ·subst e; rfl
 ·rw [if_neg e,if_neg e]
theorem w0_true {a:Act} {n:Nat} {f:Nat→Yr} {w:Int} {s:Nat} (hs:s<n) (hw:0≤w∧w≤255) (hb:yrS a (stJ a f s) (f s)):l6G0 a n f w s (w.tmod 6) (1+w.tdiv 6):=by
 have c0:=Int.tmod_nonneg 6 hw.1
 have c1:=Int.tmod_lt_of_pos w (b:=6) (by omega)
 have d0:w.tdiv 6=w / 6:=Int.tdiv_eq_ediv_of_nonneg hw.1
 have d1:0≤w.tdiv 6∧w.tdiv 6≤43:=by omega
 have g1:=hb.r
 have g2:=hb.b.d
 have g3:=hb.b.p0
 have g4:=hb.b.p1
 have g5:=hb.ar
 have g6:=hb.ar1
 have g7:=hb.b.nb
 have g8:=hb.b.nc
 have g9:=hb.rb
 have g10:=hb.rb1
 unfold nnB bt at g2
 unfold bt at g1
 unfold l6G0
 have p1:=fun q=>if_sub (q:=q) (s:=s) (g:=fun q=>rtA a (f q).pr) (D:=1+w.tdiv 6)
 have p2:=fun q=>if_sub (q:=q) (s:=s) (g:=fun q=>duA a (f q)) (D:=1+w.tdiv 6)
 have p3:=fun q=>if_sub (q:=q) (s:=s) (g:=fun q=>pdA a (stJ a f q) (f q)) (D:=1+w.tdiv 6)
 have p4:=fun q=>if_sub (q:=q) (s:=s) (g:=fun q=>arS a (stJ a f q) (f q)) (D:=1+w.tdiv 6)
 have p5:=fun q=>if_sub (q:=q) (s:=s) (g:=fun q=>nB a (stJ a f q) (f q)) (D:=1+w.tdiv 6)
 have p6:=fun q=>if_sub (q:=q) (s:=s) (g:=fun q=>(stJ a f q).ba+(f q).pf - pdA a (stJ a f q) (f q) - nB a (stJ a f q) (f q)) (D:=1+w.tdiv 6)
 try simp only at p1 p2 p3 p4 p5 p6
 obtain ⟨c,hc⟩:=Int.eq_ofNat_of_zero_le c0
 generalize w.tdiv 6=D at *
 rw [hc] at c1 ⊢
 have hcc:c=0∨c=1∨c=2∨c=3∨c=4∨c=5:=by omega
 simp only [rE,rI,w4_true,w5_true,and_true,true_and,implies_true,Int.toNat_natCast,Nat.zero_add,Nat.add_zero,Nat.sub_zero,Nat.not_lt_zero,if_false,ite_self,Nat.mul_one,p1,p2,p3,p4,p5,p6]
 clear hc c0 p1 p2 p3 p4 p5 p6
 rcases hcc with rfl | rfl | rfl | rfl | rfl | rfl
 all_goals simp
 all_goals omega
end Go.Proofs.Ytfobgmecnlehaaa

set_option maxRecDepth 100000
namespace Go.Proofs.Ytfobgmecnlehaaa
open Go Go.Lg
attribute [local irreducible] funS bodyH
theorem ck_self {a:Act} {n:Nat} {f:Nat→Yr} (h:erA a n f=0):ckN a n f n (pyJ a f)=n∧ckE a n f n (pyJ a f)=0:=by
 obtain ⟨e1,e2⟩:=ck_is (m:=n) (p:=pyJ a f) (c:=n) h (by omega) (by omega) (fun i _=>rfl) (fun h=>by omega)
 rw [if_neg (by omega),if_neg (by omega),if_neg (by omega)] at e2
 exact ⟨e1,e2⟩
theorem ck_part {a:Act} {n:Nat} {f:Nat→Yr} {s:Nat} (h:erA a n f=0) (hs:s<n):ckN a n f s (pyJ a f)=s∧ckE a n f s (pyJ a f)=4:=by
 obtain ⟨e1,e2⟩:=ck_is (m:=s) (p:=pyJ a f) (c:=s) h (by omega) (by omega) (fun i _=>rfl) (fun h=>by omega)
 rw [if_neg (by omega),if_pos hs] at e2
 exact ⟨e1,e2⟩
theorem ck_more {a:Act} {n:Nat} {f:Nat→Yr} {p:Nat→Pay} (h:erA a n f=0) (hp:eqP n p (pyJ a f)):ckN a n f (n+1) p=n∧ckE a n f (n+1) p=11:=by
 obtain ⟨e1,e2⟩:=ck_is (m:=n+1) (p:=p) (c:=n) h (by omega) (by omega) hp (fun h=>by omega)
 rw [if_neg (by omega),if_neg (by omega),if_pos (by omega)] at e2
 exact ⟨e1,e2⟩
theorem wr_ne (a:Act) (f:Nat→Yr) {s q:Nat} {c d:Int} (h:q≠s):wrP a f s c d q=pyJ a f q:=by
 unfold wrP
 simp only [if_neg h]
theorem wr_is (a:Act) (f:Nat→Yr) {s:Nat} {c d:Int} (hc:0≤c∧c<6) (hd:1≤d):wrP a f s c d s≠pyJ a f s:=by
 intro h
 have h:=(pay_ext _ _).2 h
 unfold wrP at h
 simp only [if_true] at h
 obtain ⟨h0,h1,h2,h3,h4,h5⟩:=h
 rcases (show c=0∨c=1∨c=2∨c=3∨c=4∨c=5 by omega) with rfl | rfl | rfl | rfl | rfl | rfl
 ·rw [if_pos rfl] at h0; omega
 ·rw [if_pos rfl] at h1; omega
 ·rw [if_pos rfl] at h2; omega
 ·rw [if_pos rfl] at h3; omega
 ·rw [if_pos rfl] at h4; omega
 ·rw [if_pos rfl] at h5; omega
theorem ck_wrong {a:Act} {n:Nat} {f:Nat→Yr} {s:Nat} {c d:Int} (h:erA a n f=0) (hs:s<n) (hc:0≤c∧c<6) (hd:1≤d):ckN a n f n (wrP a f s c d)=s∧ckE a n f n (wrP a f s c d)=11:=by
 obtain ⟨e1,e2⟩:=ck_is (m:=n) (p:=wrP a f s c d) (c:=s) h (by omega) (by omega) (fun i hi=>wr_ne a f (by omega)) (fun _=>wr_is a f hc hd)
 rw [if_pos (by omega)] at e2
 exact ⟨e1,e2⟩
theorem w6_true {a:Act} {n:Nat} {f:Nat→Yr} {s:Nat} {c d:Int} {z:Int × Int} (h:erA a n f=0) (hs:s<n) (hc:0≤c∧c<6) (hd:1≤d) (h1:z.1=n) (h2:z.2=11):l6G6 a n f s c d z:=by
 obtain ⟨a1,a2⟩:=ck_wrong h hs hc hd
 obtain ⟨b1,b2⟩:=ck_part h hs
 unfold l6G6
 simp only [a1,a2,b1,b2,h1,h2,rE,true_implies,not_true_eq_false,false_implies,and_true,true_and]
noncomputable def exP (a:Act) (n:Nat) (f:Nat→Yr):Nat→SV:=appF n (appF 0 (fun x=>ofS (Value.agg #[Value.int IntKind.i64 0,Value.int IntKind.i64 0,Value.int IntKind.i64 0,Value.int IntKind.i64 0,Value.int IntKind.i64 0,Value.int IntKind.i64 0])) fun i=>(pyJ a f i).sv) (chainF [SV.agg (ofS (Value.agg #[Value.int IntKind.i64 0,Value.int IntKind.i64 0,Value.int IntKind.i64 0,Value.int IntKind.i64 0,Value.int IntKind.i64 0,Value.int IntKind.i64 0])).cells])
theorem ex_eq (a:Act) (n:Nat) (f:Nat→Yr):eqP n (pyF (exP a n f)) (pyJ a f):=by
 intro i hi
 show (⟨if i<n then (if i<0 then 0 else (pyJ a f i).rt) else 0,if i<n then (if i<0 then 0 else (pyJ a f i).du) else 0,if i<n then (if i<0 then 0 else (pyJ a f i).pd) else 0,if i<n then (if i<0 then 0 else (pyJ a f i).ar) else 0,if i<n then (if i<0 then 0 else (pyJ a f i).rs) else 0,if i<n then (if i<0 then 0 else (pyJ a f i).rb) else 0⟩:Pay)=_
 simp only [if_pos hi,if_neg (Nat.not_lt_zero i)]
theorem ex_lst (a:Act) (n:Nat) (f:Nat→Yr):(SV.lst 6 (n+1) fun i=>exP a n f i)=pyL (n+1) (pyF (exP a n f)):=rfl
theorem w2_true {a:Act} {n:Nat} {f:Nat→Yr} {s:Nat} {c d:Int} (h:erA a n f=0) (hs:s<n):l6G2 a n f s c d:=by
 obtain ⟨h1,h2,h3⟩:=erA_0 h
 obtain ⟨m1,m2⟩:=ck_more h (ex_eq a n f)
 have hl:=ex_lst a n f
 unfold exP at hl m1 m2
 unfold l6G2
 simp only [rI,rE,w4_true,w5_true,and_true,true_and,implies_true,Nat.zero_lt_one,Nat.zero_add,Nat.add_zero,Int.sub_zero,Int.toNat_natCast,Int.toNat_zero,rowsK]
 exact ⟨by omega,by omega,by omega,by omega,by omega,rfl,hl,by omega,by omega,(n,11),⟨rfl,rfl⟩,rfl,rfl,rfl,rfl,m1,m2⟩
end Go.Proofs.Ytfobgmecnlehaaa

set_option maxRecDepth 100000
namespace Go.Proofs.Ytfobgmecnlehaaa
open Go Go.Lg
attribute [local irreducible] funS bodyH
theorem w1_true {a:Act} {n:Nat} {f:Nat→Yr} {u v w:Int} {z:Nat} (hz:z<n) (hn:n≤16) (hb:yrS a (stJ a f z) (f z)):l6G1 a n f u v w z:=by
 have g1:=hb.d0
 have g2:=hb.d1
 have g3:=hb.c0
 have g4:=hb.c1
 have g5:=hb.b.d
 unfold nnB bt at g5
 unfold l6G1
 simp only [rE,rI,w4_true,w5_true,and_true,true_and,implies_true,Int.toNat_natCast,Nat.zero_lt_one]
 refine fun _=>⟨by omega,by omega,by omega,by omega,by omega,fun h=>by omega,fun _=>⟨by omega,z+1,by omega,by omega,rfl,rfl,rfl,by omega⟩⟩
theorem w3_true {a:Act} {n:Nat} {f:Nat→Yr} {u v w:Int} {z:Nat} (hz:z<n) (hn:n≤16) (hb:yrS a (stJ a f z) (f z)):l6G3 a n f u v w z:=by
 have g1:=hb.d0
 have g3:=hb.c0
 have g4:=hb.c1
 have g5:=hb.b.d
 have g6:=hb.r
 have g7:=hb.full
 unfold nnB bt at g5
 unfold bt at g6
 unfold l6G3
 simp only [rE,rI,w1_true hz hn hb,and_true,true_and,implies_true,Int.toNat_natCast,Nat.zero_lt_one]
 refine fun _=>⟨fun h=>by omega,fun _=>⟨fun hp=>⟨fun h=>absurd (g7 hp) h,fun _=>⟨by omega,by omega,by omega,by omega,fun h=>by omega⟩⟩,fun hp=>⟨by omega,by omega,by omega,by omega,fun h=>by omega⟩⟩⟩
theorem l6_main {a:Act} {n:Nat} {f:Nat→Yr} {u v w:Int} {s K lo:Nat} (h24:¬ 24<(n:Int)) (he:erA a n f=0) (hu:u.tmod n=s) (hv:v.tmod n=K) (hs:s<n) (hK:K<n) (hlo:lo=s - (stJ a f s).n) (hu':0≤u∧u≤255) (hv':0≤v∧v≤255) (hw:0≤w∧w≤255):l6G a n f u v w s K lo (w.tmod 6) (1+w.tdiv 6):=by
 obtain ⟨h1,h2,h3⟩:=erA_0 he
 have r1:=ruN0 he
 have c0:=Int.tmod_nonneg 6 hw.1
 have c1:=Int.tmod_lt_of_pos w (b:=6) (by omega)
 have d0:w.tdiv 6=w / 6:=Int.tdiv_eq_ediv_of_nonneg hw.1
 have hyr:=fun z (hz:z<n)=>rb_bd h1 h3 h2 (i:=z) hz
 obtain ⟨k1,k2⟩:=ck_self he
 have hw0:=w0_true (w:=w) hs hw (hyr s hs)
 have hw2:=fun c d=>w2_true (c:=c) (d:=d) he hs
 rw [l6G_vc]
 simp only [hu,hv,r1,k1,k2,he,h1,hw0,hw2,w4_true,w5_true,rI,rE,and_true,true_and,Nat.zero_lt_one,and_self,implies_true,a_fold,yrF_fold,yrF2,yrF1,pyF1,Nat.zero_add,Nat.add_zero,Nat.sub_zero,Int.toNat_natCast,Bool.false_eq_true,imp_false,not_true_eq_false,not_false_eq_true,false_implies,true_implies]
 have hnn:=n_min a f s
 have hba:=h1.ba
 unfold bt at hba
 have b1:=fun z (hz:z≤n)=>sum_abs (g:=pfF f) (n:=z) fun i hi=>by have:=(h3 i (by omega)).pf; unfold bt at this; show -30000000000000≤(f i).pf∧(f i).pf≤_; omega
 have b2:=fun z (hz:z≤n)=>sum_abs (g:=pdF a f) (n:=z) fun i hi=>by have h:=(hyr i (by omega)).b; have:=h.p0; have:=h.p1; show -30000000000000≤pdA a (stJ a f i) (f i)∧pdA a (stJ a f i) (f i)≤_; omega
 have b3:=fun z (hz:z≤n)=>sum_abs (g:=rbF a f) (n:=z) fun i hi=>by have h:=(hyr i (by omega)); have:=h.rb; have:=h.rb1; show -30000000000000≤(stJ a f i).ba+(f i).pf - pdA a (stJ a f i) (f i) - nB a (stJ a f i) (f i)∧(stJ a f i).ba+(f i).pf - pdA a (stJ a f i) (f i) - nB a (stJ a f i) (f i)≤_; omega
 have b4:=fun z (hz:z≤n)=>sum_abs (g:=duF a f) (n:=z) fun i hi=>by have h:=(hyr i (by omega)).b.d; unfold nnB bt at h; show -30000000000000≤duA a (f i)∧duA a (f i)≤_; omega
 have hsy:s≤K→rgJ (pdF a f) s (K+1)≤rgJ (duF a f) lo (K+1):=fun h=>by
  have h4:=some_years h1 h3 (i:=s) (by omega) (k:=K+1) (by omega) (by omega)
  have h5:=(sum_bd (st_ok h1 h3 (j:=K+1) (by omega)).q).1
  rw [← hlo] at h4
  unfold rgJ; omega
 have hz9:=fun (z:Int × Int) (h:z.1=n∧z.2=11)=>w6_true (a:=a) (f:=f) (s:=s) (c:=w.tmod 6) (d:=1+w.tdiv 6) he hs ⟨c0,c1⟩ (by omega) h.1 h.2
 have hz10:=fun (z:Int × Int) (h:z.1=n∧z.2=11)=>And.intro (hz9 z h) (fun hne:¬ ckN a n f n (wrP a f s (w.tmod 6) (1+w.tdiv 6))=(s:Int)=>hne (ck_wrong (c:=w.tmod 6) (d:=1+w.tdiv 6) he hs ⟨c0,c1⟩ (by omega)).1)
 have f1:=fun (p:Nat→Int) (z:Nat)=>show sumJ p (z+1)=sumJ p z+p z from rfl
 refine fun _=>⟨rfl,by omega,⟨0,by omega,rfl,rfl,rfl,rfl⟩,fun z hz=>⟨fun hl=>?_,fun hl=>⟨rfl,rfl,by omega,by omega,fun _=>⟨by omega,by omega,by omega,by omega,⟨s,⟨by omega,by omega⟩,by unfold rgJ; omega,rfl⟩,fun z1 hz1=>⟨fun hl1=>?_,fun hl1=>⟨by omega,⟨lo,⟨by omega,by omega⟩,?_,by unfold rgJ; omega,by omega⟩,fun z2 hz2=>⟨fun hl2=>?_,fun hl2=>⟨fun hg=>⟨fun hsK=>?_,fun _=>?_⟩,fun hg=>?_⟩⟩⟩⟩⟩⟩⟩⟩
 ·have hz':z<n:=by omega
  have hy:=hyr z hz'
  have e1:=earned a f z
  have x1:=b1 z hz
  have x2:=b2 z hz
  have x3:=b3 z hz
  have y1:=hy.b.p0
  have y2:=hy.b.p1
  have y3:=hy.rb
  have y4:=hy.rb1
  have y5:=hy.b.nb
  have y6:=hy.b.nc
  have y7:=hy.b.y0
  have y8:=hy.b.y1
  have y9:=hy.m
  have y10:=hy.ar
  have y11:=hy.r
  have y12:=hy.pos
  unfold bt at y11
  have h3':=w3_true (u:=u) (v:=v) (w:=w) hz' h2 hy
  refine ⟨by omega,by omega,by omega,by omega,by omega,by omega,by omega,by omega,by omega,by omega,fun _=>⟨by omega,fun _=>⟨by omega,fun _=>⟨by omega,fun _=>⟨by omega,fun _=>⟨fun hp=>⟨by have:=y12 hp; omega,fun _=>⟨by have:=y12 hp; omega,fun _=>⟨by omega,h3'⟩⟩⟩,fun _=>⟨by omega,h3'⟩⟩⟩⟩⟩⟩⟩
 ·have hy:=hyr z1 (by omega)
  have x1:=b2 z1 (by omega)
  have x2:=b2 s (by omega)
  have y1:=hy.b.p0
  have y2:=hy.b.p1
  have e:=f1 (pdF a f) z1
  have e2:pdF a f z1=pdA a (stJ a f z1) (f z1):=rfl
  refine ⟨by omega,by omega,by unfold rgJ; omega,by omega,z1+1,⟨by omega,by omega⟩,by omega,by unfold rgJ; omega,by omega⟩
 ·have:z1=max s (K+1):=by omega
  rw [this]
 ·have hy:=hyr z2 (by omega)
  have x1:=b4 z2 (by omega)
  have x2:=b4 lo (by omega)
  have y1:=hy.b.d
  unfold nnB bt at y1
  have e:=f1 (duF a f) z2
  have e2:duF a f z2=duA a (f z2):=rfl
  refine ⟨by omega,by omega,by unfold rgJ; omega,by omega,z2+1,⟨by omega,by omega⟩,by omega,by unfold rgJ; omega,by omega⟩
 ·have m1:max s (K+1)=K+1:=by omega
  have m2:z2=K+1:=by omega
  rw [m1,m2] at hg
  have:=hsy (by omega)
  omega
 ·exact ⟨by omega,by omega,by omega,by omega,fun _=>⟨by omega,rfl,rfl,by omega,by omega,by omega,by omega,by omega,rfl,rfl,by omega,by omega,hz10⟩⟩
 ·exact ⟨by omega,by omega,by omega,by omega,fun _=>⟨by omega,rfl,rfl,by omega,by omega,by omega,by omega,by omega,rfl,rfl,by omega,by omega,hz10⟩⟩
theorem er_1 (a:Act) (n:Nat) (f:Nat→Yr):erA a n f=1↔¬ okA a:=by
 constructor
 ·intro h ha
  by_cases h2:16<(n:Int)
  ·rw [erA3 ha h2] at h; omega
  ·by_cases h3:okYs n f
   ·rw [erA0 ha h2 h3] at h; omega
   ·rw [erA2 ha h2 h3] at h; omega
 ·exact erA1
theorem l6_true (a:Act) (n:Nat) (f:Nat→Yr) (u v w:Int) (hu:0≤u∧u≤255) (hv:0≤v∧v≤255) (hw:0≤w∧w≤255):∃ s K lo c d,l6G a n f u v w s K lo c d:=by
 by_cases h24:24<(n:Int)
 ·refine ⟨0,0,0,0,0,?_⟩
  rw [l6G_vc]
  simp only [h24,rE,and_true,true_implies,not_true_eq_false,false_implies,Nat.zero_lt_one]
 ·by_cases he:erA a n f=0
  ·by_cases h0:n=0
   ·refine ⟨0,0,0,0,0,?_⟩
    obtain ⟨h1,h2,h3⟩:=erA_0 he
    have r1:=ruN0 he
    obtain ⟨k1,k2⟩:=ck_self he
    rw [l6G_vc]
    simp only [r1,k1,k2,he,h1,w4_true,w5_true,rI,rE,and_true,true_and,Nat.zero_lt_one,and_self,implies_true,a_fold,yrF_fold,yrF2,yrF1,pyF1,Nat.zero_add,Nat.add_zero,Nat.sub_zero,Int.toNat_natCast,Bool.false_eq_true,imp_false,not_true_eq_false,not_false_eq_true,false_implies,true_implies]
    exact fun _=>⟨rfl,by omega,⟨0,by omega,rfl,rfl,rfl,rfl⟩,fun z hz=>⟨fun hl=>by omega,fun hl=>⟨rfl,rfl,by omega,by omega,fun hn=>absurd h0 (by omega)⟩⟩⟩
   ·have k1:0≤u.tmod n:=Int.tmod_nonneg _ hu.1
    have k2:u.tmod n<n:=Int.tmod_lt_of_pos _ (by omega)
    have k3:0≤v.tmod n:=Int.tmod_nonneg _ hv.1
    have k4:v.tmod n<n:=Int.tmod_lt_of_pos _ (by omega)
    obtain ⟨s,hs⟩:=Int.eq_ofNat_of_zero_le k1
    obtain ⟨K,hK⟩:=Int.eq_ofNat_of_zero_le k3
    exact ⟨s,K,_,_,_,l6_main h24 he hs hK (by omega) (by omega) rfl hu hv hw⟩
  ·refine ⟨0,0,0,0,0,?_⟩
   rw [l6G_vc]
   have r:=ruN1 he
   simp only [he,r,a_fold,yrF_fold,rE,and_true,true_and,true_implies,not_true_eq_false,not_false_eq_true,false_implies,implies_true,Int.natCast_zero,Nat.zero_lt_one,Int.cast_ofNat_Int]
   refine fun _=>⟨rfl,by omega,fun h=>absurd (er_1 a n f) h⟩
end Go.Proofs.Ytfobgmecnlehaaa
