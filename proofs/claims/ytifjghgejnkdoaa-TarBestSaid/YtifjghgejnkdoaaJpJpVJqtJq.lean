import Derived.Test.YtifjghgejnkdoaaJmJmVJntJnJo
import Derived.Test.YtifjghgejnkdoaaAwjIeIeVIf
import Derived.Test.YtifjghgejnkdoaaJaJaVJbTJb
set_option linter.unusedVariables false
set_option linter.unusedSimpArgs false
namespace Go.Proofs.Ytifjghgejnkdoaa
open Go Go.Lg
attribute [local irreducible] bodyH funS
theorem isl_relS {S:Nat} {L L':List AV} {c:Nat→Nat→Option Value} {I:Nat→Prop} {N:Nat} {β:Nat→Option Lg.Loc} {v:Value} (hl:L.length=L'.length) (hc:∀ i:Nat,(L.getD i .any).cells=(L'.getD i .any).cells) (h:Rel c I N β (.isl S L') v):Rel c I N β (.isl S L) v:=by
 generalize hq:AV.isl S L'=q at h
 cases h with
 | isl S2 L2 b off cap vs hb hn hz hcc hv =>
  cases hq
  rw [← hl]
  exact .isl S L b off cap vs hb (by omega) (fun i hi=>by rw [hc]; exact hz i (by omega)) (fun i hi j hj=>hcc i (by omega) j hj) (fun i hi j hj=>by rw [hc]; exact hv i (by omega) j hj)
 | islz S2 a =>
  cases hq
  have:L=[]:=List.length_eq_zero_iff.1 (by simpa using hl)
  subst this
  exact .islz _ a
 | _=>cases hq
def agI:SV→SV
 | .agg [.int K z]=>.int K z
 | v=>v
theorem agI_cells (x:SV):((agI x).den).cells=(x.den).cells:=by
 unfold agI
 split
 ·simp [SV.den,SV.denL,AV.cells]
 ·rfl
def agAt:Nat→List SV→(List SV→Prop)→Prop
 | 0,args,k=>(match args with
  | .lst 1 n f :: r=>k (.lst 1 n (fun j=>agI (f j)) :: r)
  | _=>k args)
 | i+1,args,k=>(match args with
  | x :: r=>agAt i r fun r=>k (x :: r)
  | []=>k [])
theorem ag_does {g:FuncId} {fr:Bool} {n:Nat} {f:Nat→SV} {pre post:List AV} {res:AV} (h:Does Try.prog g fr (pre ++ (SV.lst 1 n fun j=>agI (f j)).den :: post) res):Does Try.prog g fr (pre ++ (SV.lst 1 n f).den :: post) res:=by
 intro w I vals hI hr
 refine h w I vals hI ?_
 clear h
 generalize vals.toList=l at hr
 induction pre generalizing l with
 | nil =>
  obtain ⟨v,r,e,h1,h2⟩:=hr.cons
  rw [e]
  refine RelL.mk ?_ h2
  simp only [SV.den] at h1 ⊢
  refine isl_relS (by simp) (fun i=>?_) h1
  by_cases hi:i<n
  ·simp [List.getD,hi,agI_cells]
  ·simp [List.getD,hi]
 | cons x pre ih =>
  obtain ⟨v,r,e,h1,h2⟩:=hr.cons
  rw [e]
  exact RelL.mk h1 (ih _ h2)
theorem agAt_spec:∀ {i:Nat} {args:List SV} {k:List SV→Prop},agAt i args k→(∃ a,k a∧∀ {g fr res} (pre:List AV),Does Try.prog g fr (pre ++ SV.denL a) res→Does Try.prog g fr (pre ++ SV.denL args) res)
 | 0,args,k,h=>by
  unfold agAt at h
  split at h
  ·rename_i n f r
   exact ⟨_,h,fun pre hd=>ag_does (pre:=pre) (post:=SV.denL r) hd⟩
  ·exact ⟨_,h,fun pre hd=>hd⟩
 | i+1,args,k,h=>by
  unfold agAt at h
  split at h
  ·rename_i x r
   obtain ⟨a,h1,h2⟩:=agAt_spec (i:=i) h
   refine ⟨_,h1,fun pre hd=>?_⟩
   have:=h2 (pre ++ [x.den]) (by simpa [SV.denL] using hd)
   simpa [SV.denL] using this
  ·exact ⟨_,h,fun pre hd=>hd⟩
def agC (i:Nat) (C:Ctr):Ctr:=⟨C.f,fun args k=>agAt i args fun args=>C.c args k⟩
theorem agC_ok {i:Nat} {C:Ctr} (h:C.Ok Try.prog):(agC i C).Ok Try.prog:=by
 refine ⟨h.1,fun x k hk=>?_⟩
 obtain ⟨a,h1,h2⟩:=agAt_spec hk
 obtain ⟨v,h3,h4⟩:=h.2 _ _ h1
 exact ⟨v,h2 (g:=C.f) [] h3,h4⟩
def u8L (m:Nat) (b:Nat→Int):SV:=.lst 1 m fun i=>.int .u8 (b i)
def otF (Y:Yd) (m:Nat) (b:Nat→Int) (i:Nat):Int:=(b ((i:Int).tmod m).toNat).tmod ((Y.sti i).most+1)
noncomputable def csB:CSpec:=ctrs [lgC,awC,ydC 21,pnC,agC 1 inC]
noncomputable def tbL (Y:Yd) (m:Nat) (b:Nat→Int):Nat→Option HSpec :=
 twoL 0 (appN 158 11 (fun k=>k≤pnN Y) (fun k=>pnN Y - k) 1 (fun k=>mkF 158 [(1,u8L m b),(2,.ptr 0 0 0),(5,iA (pnN Y) (pnF Y)),(6,i6 (pnI Y)),(11,.sl 1 0 k),(12,i6 k)]) fun k=>mkX [vr 3 Y.sv,rw' 1 k fun i=>i6 (otF Y m b i)]) <|
 oneL 2 (natH (fun k=>k≤pnN Y∧∀ i,i<k→otF Y m b i=pnF Y i) (fun k=>pnN Y - k) 2 (fun k=>mkF 158 [(5,iA (pnN Y) (pnF Y)),(6,i6 (pnI Y)),(11,.sl 1 0 (pnN Y)),(13,i6 (inI Y (pnN Y) (otF Y m b))),(16,.bool false),(17,i6 k)]) (fun k=>mkX [vr 3 Y.sv,rw' 1 (pnN Y) fun i=>i6 (otF Y m b i)]) fun _=>none)
noncomputable def btG (Y:Yd) (m:Nat) (b:Nat→Int):Prop:=funH Try.prog csB noX (ictrs []) (tbL Y m b) noL 6 [Y.sv,u8L m b] (.bool true)
end Go.Proofs.Ytifjghgejnkdoaa

set_option maxRecDepth 100000
namespace Go.Proofs.Ytifjghgejnkdoaa
open Go Go.Lg
theorem btG_vc (Y:Yd) (m:Nat) (b:Nat→Int):btG Y m b =
((0:Nat)<(1:Nat)∧(∀ (i:Nat),i<Y.1→True)∧(∀ (i:Nat),i<Y.3→True∧True∧(∀ (i_1:Nat),i_1<(Y.sti i).3→True∧True∧True)∧True∧True∧True)∧(∀ (i:Nat),i<Y.5→True∧True∧True∧True)∧SV.agg [SV.lst (1:Nat) Y.g fun i=>i6 (Y.st i),SV.lst (5:Nat) Y.m fun i=>(Y.sti i).sv,SV.lst (3:Nat) Y.q fun i=>(Y.sal i).sv]=(ydOf Y.g (fun i=>i6 (Y.st i)) Y.m (fun i=>(Y.sti i).sv) Y.q fun i=>(Y.sal i).sv).sv∧(¬noLg (ydOf Y.g (fun i=>i6 (Y.st i)) Y.m (fun i=>(Y.sti i).sv) Y.q fun i=>(Y.sal i).sv) (1099511627776:Int)→rE true∧True)∧(¬¬noLg (ydOf Y.g (fun i=>i6 (Y.st i)) Y.m (fun i=>(Y.sti i).sv) Y.q fun i=>(Y.sal i).sv) (1099511627776:Int)→((↑m:Int)=(0:Int)→rE true∧True)∧(¬(↑m:Int)=(0:Int)→(0:Nat)<(1:Nat)∧(∀ (i:Nat),i<Y.1→True)∧(∀ (i:Nat),i<Y.3→True∧True∧(∀ (i_1:Nat),
i_1<(Y.sti i).3→True∧True∧True)∧True∧True∧True)∧(∀ (i:Nat),i<Y.5→True∧True∧True∧True)∧SV.agg [SV.lst (1:Nat) Y.g fun i=>i6 (Y.st i),SV.lst (5:Nat) Y.m fun i=>(Y.sti i).sv,SV.lst (3:Nat) Y.q fun i=>(Y.sal i).sv]=(ydOf Y.g (fun i=>i6 (Y.st i)) Y.m (fun i=>(Y.sti i).sv) Y.q fun i=>(Y.sal i).sv).sv∧(¬pnE (ydOf Y.g (fun i=>i6 (Y.st i)) Y.m (fun i=>(Y.sti i).sv) Y.q fun i=>(Y.sal i).sv)=(0:Int)→(pnE (ydOf Y.g (fun i=>i6 (Y.st i)) Y.m (fun i=>(Y.sti i).sv) Y.q fun i=>(Y.sal i).sv)=(1:Int)→((↑(pnN (ydOf Y.g (fun i=>i6 (Y.st i)) Y.m (fun i=>(Y.sti i).sv) Y.q fun i=>(Y.sal i).sv)):Int)=(0:Int)→(pnI (ydOf Y.g (fun i=>i6 (Y.st i)) Y.m (fun i=>(Y.sti i).sv) Y.q fun i=>(Y.sal i).sv)=(0:Int)→(0:Nat)<(1:Nat)∧(∀ (i:Nat),i<Y.1→True)∧(∀ (i:Nat),i<Y.3→True∧True∧(∀ (i_1 :
Nat),i_1<(Y.sti i).3→True∧True∧True)∧True∧True∧True)∧(∀ (i:Nat),i<Y.5→True∧True∧True∧True)∧SV.agg [SV.lst (1:Nat) Y.g fun i=>i6 (Y.st i),SV.lst (5:Nat) Y.m fun i=>(Y.sti i).sv,SV.lst (3:Nat) Y.q fun i=>(Y.sal i).sv]=(ydOf Y.g (fun i=>i6 (Y.st i)) Y.m (fun i=>(Y.sti i).sv) Y.q fun i=>(Y.sal i).sv).sv∧(¬okYd (ydOf Y.g (fun i=>i6 (Y.st i)) Y.m (fun i=>(Y.sti i).sv) Y.q fun i=>(Y.sal i).sv)→rE true∧True)∧(¬¬okYd (ydOf Y.g (fun i=>i6 (Y.st i)) Y.m (fun i=>(Y.sti i).sv) Y.q fun i=>(Y.sal i).sv)→false=true∧True))∧(¬pnI (ydOf Y.g (fun i=>i6 (Y.st i)) Y.m (fun i=>(Y.sti i).sv) Y.q fun i=>(Y.sal i).sv)=(0:Int)→false=true∧True))∧(¬(↑(pnN (ydOf Y.g (fun i=>i6 (Y.st i)) Y.m (fun i=>(Y.sti i).sv) Y.q fun i=>(Y.sal i).sv)):Int)=(0:Int)→false=true∧True))∧(¬pnE (ydOf Y.g (fun i=>i6
(Y.st i)) Y.m (fun i=>(Y.sti i).sv) Y.q fun i=>(Y.sal i).sv)=(1:Int)→false=true∧True))∧(¬¬pnE (ydOf Y.g (fun i=>i6 (Y.st i)) Y.m (fun i=>(Y.sti i).sv) Y.q fun i=>(Y.sal i).sv)=(0:Int)→(0:Nat)<(1:Nat)∧(∀ (i:Nat),i<Y.1→True)∧(∀ (i:Nat),i<Y.3→True∧True∧(∀ (i_1:Nat),i_1<(Y.sti i).3→True∧True∧True)∧True∧True∧True)∧(∀ (i:Nat),i<Y.5→True∧True∧True∧True)∧(∀ (i:Nat),i<pnN (ydOf Y.g (fun i=>i6 (Y.st i)) Y.m (fun i=>(Y.sti i).sv) Y.q fun i=>(Y.sal i).sv)→True∧True)∧SV.agg [SV.lst (1:Nat) Y.g fun i=>i6 (Y.st i),SV.lst (5:Nat) Y.m fun i=>(Y.sti i).sv,SV.lst (3:Nat) Y.q fun i=>(Y.sal i).sv]=(ydOf Y.g (fun i=>i6 (Y.st i)) Y.m (fun i=>(Y.sti i).sv) Y.q fun i=>(Y.sal i).sv).sv∧(SV.lst (1:Nat) (pnN (ydOf Y.g (fun i=>i6 (Y.st i)) Y.m (fun i=>(Y.sti i).sv) Y.q fun i =>
(Y.sal i).sv)) fun j=>agI (SV.agg [i6 (pnF (ydOf Y.g (fun i=>i6 (Y.st i)) Y.m (fun i=>(Y.sti i).sv) Y.q fun i=>(Y.sal i).sv) j)]))=iL (pnN (ydOf Y.g (fun i=>i6 (Y.st i)) Y.m (fun i=>(Y.sti i).sv) Y.q fun i=>(Y.sal i).sv)) (iOf fun j=>agI (SV.agg [i6 (pnF (ydOf Y.g (fun i=>i6 (Y.st i)) Y.m (fun i=>(Y.sti i).sv) Y.q fun i=>(Y.sal i).sv) j)]))∧(¬erP (ydOf Y.g (fun i=>i6 (Y.st i)) Y.m (fun i=>(Y.sti i).sv) Y.q fun i=>(Y.sal i).sv) (pnN (ydOf Y.g (fun i=>i6 (Y.st i)) Y.m (fun i=>(Y.sti i).sv) Y.q fun i=>(Y.sal i).sv)) (iOf fun j=>agI (SV.agg [i6 (pnF (ydOf Y.g (fun i=>i6 (Y.st i)) Y.m (fun i=>(Y.sti i).sv) Y.q fun i=>(Y.sal i).sv) j)]))=(0:Int)→false=true∧True)∧(¬¬erP (ydOf Y.g (fun i=>i6 (Y.st i)) Y.m (fun i=>(Y.sti i).sv) Y.q fun i=>(Y.sal i).sv) (pnN (ydOf Y.g (fun i=>i6 (Y.st i)) Y.m (fun i=>(Y.sti i).sv) Y.q fun i =>
(Y.sal i).sv)) (iOf fun j=>agI (SV.agg [i6 (pnF (ydOf Y.g (fun i=>i6 (Y.st i)) Y.m (fun i=>(Y.sti i).sv) Y.q fun i=>(Y.sal i).sv) j)]))=(0:Int)→(¬inI (ydOf Y.g (fun i=>i6 (Y.st i)) Y.m (fun i=>(Y.sti i).sv) Y.q fun i=>(Y.sal i).sv) (pnN (ydOf Y.g (fun i=>i6 (Y.st i)) Y.m (fun i=>(Y.sti i).sv) Y.q fun i=>(Y.sal i).sv)) (iOf fun j=>agI (SV.agg [i6 (pnF (ydOf Y.g (fun i=>i6 (Y.st i)) Y.m (fun i=>(Y.sti i).sv) Y.q fun i=>(Y.sal i).sv) j)]))=pnI (ydOf Y.g (fun i=>i6 (Y.st i)) Y.m (fun i=>(Y.sti i).sv) Y.q fun i=>(Y.sal i).sv)→false=true∧True)∧(¬¬inI (ydOf Y.g (fun i=>i6 (Y.st i)) Y.m (fun i=>(Y.sti i).sv) Y.q fun i=>(Y.sal i).sv) (pnN (ydOf Y.g (fun i=>i6 (Y.st i)) Y.m (fun i=>(Y.sti i).sv) Y.q fun i=>(Y.sal i).sv)) (iOf fun j=>agI (SV.agg [i6 (pnF (ydOf Y.g (fun i=>i6 (Y.st i)) Y.m (fun i=>(Y.sti i).sv) Y.q fun i=>(Y.sal
i).sv) j)]))=pnI (ydOf Y.g (fun i=>i6 (Y.st i)) Y.m (fun i=>(Y.sti i).sv) Y.q fun i=>(Y.sal i).sv)→(0:Nat)<(1:Nat)∧(∀ (i:Nat),i<Y.1→True)∧(∀ (i:Nat),i<Y.3→True∧True∧(∀ (i_1:Nat),i_1<(Y.sti i).3→True∧True∧True)∧True∧True∧True)∧(∀ (i:Nat),i<Y.5→True∧True∧True∧True)∧SV.agg [SV.lst (1:Nat) Y.g fun i=>i6 (Y.st i),SV.lst (5:Nat) Y.m fun i=>(Y.sti i).sv,SV.lst (3:Nat) Y.q fun i=>(Y.sal i).sv]=(ydOf Y.g (fun i=>i6 (Y.st i)) Y.m (fun i=>(Y.sti i).sv) Y.q fun i=>(Y.sal i).sv).sv∧(¬okYd (ydOf Y.g (fun i=>i6 (Y.st i)) Y.m (fun i=>(Y.sti i).sv) Y.q fun i=>(Y.sal i).sv)→false=true∧True)∧(¬¬okYd (ydOf Y.g (fun i=>i6 (Y.st i)) Y.m (fun i=>(Y.sti i).sv) Y.q fun i=>(Y.sal i).sv)→(0:Nat)<(1:Nat)∧(¬(↑(pnN (ydOf Y.g (fun i=>i6 (Y.st i)) Y.m (fun i=>(Y.sti i).sv) Y.q fun i =>
(Y.sal i).sv)):Int)=(↑Y.3:Int)→false=true∧True)∧(¬¬(↑(pnN (ydOf Y.g (fun i=>i6 (Y.st i)) Y.m (fun i=>(Y.sti i).sv) Y.q fun i=>(Y.sal i).sv)):Int)=(↑Y.3:Int)→(∃ (z:Nat),z≤pnN Y∧m=m∧(∀ (i:Nat),i<m→rE ((SV.int IntKind.u8 (b i)).den)∧True)∧rE (0:Nat)∧rE (0:Nat)∧pnN (ydOf Y.g (fun i=>i6 (Y.st i)) Y.m (fun i=>(Y.sti i).sv) Y.q fun i=>(Y.sal i).sv)=pnN Y∧(∀ (i:Nat),i<pnN Y→(SV.agg [i6 (pnF (ydOf Y.g (fun i=>i6 (Y.st i)) Y.m (fun i=>(Y.sti i).sv) Y.q fun i=>(Y.sal i).sv) i)]).den=(SV.agg [i6 (pnF Y i)]).den∧True∧True)∧pnI (ydOf Y.g (fun i=>i6 (Y.st i)) Y.m (fun i=>(Y.sti i).sv) Y.q fun i=>(Y.sal i).sv)=pnI Y∧rE (0:Nat)∧(0:Nat)=z∧(0:Int)=(↑z:Int)∧Y.1=Y.1∧(∀ (i:Nat),i<Y.1→rE ((i6 (Y.st i)).den)∧True)∧Y.3=Y.3∧(∀ (i:Nat),i<Y.3→rE ((Y.sti i).sv.den)∧True ∧
True∧(∀ (i_1:Nat),i_1<(Y.sti i).3→True∧True∧True)∧True∧True∧True)∧Y.5=Y.5∧(∀ (i:Nat),i<Y.5→rE ((Y.sal i).sv.den)∧True∧True∧True∧True)∧z=(0:Nat)∧True)∧∀ (z:Nat),z≤pnN Y→((↑z:Int)<(↑(pnN Y):Int)→((↑m:Int)=(0:Int)→False)∧(0:Int)≤(↑z:Int).tmod (↑m:Int)∧(↑z:Int).tmod (↑m:Int)<(↑m:Int)∧rI (b ((↑z:Int).tmod (↑m:Int)).toNat)∧(0:Nat)<(1:Nat)∧(0:Int)≤(↑z:Int)∧(↑z:Int)<(↑Y.3:Int)∧rI ((Y.sti (↑z:Int).toNat).6+(1:Int))∧((Y.sti (↑z:Int).toNat).6+(1:Int)=(0:Int)→False)∧True∧(∀ (i:Nat),i<(1:Nat)→rE true)∧rE (0:Nat)∧z=z∧(∀ (i:Nat),rE true)∧(z+(1:Nat))*(8:Nat)≤(140737488355328:Nat)∧z+(1:Nat)≤(4611686018427387904:Nat)∧rI ((↑z:Int)+(1:Int))∧∃ (z_1:Nat),z_1≤pnN Y∧pnN Y - z_1<pnN Y - z∧m=m∧(∀ (i :
Nat),i<m→rE ((SV.int IntKind.u8 (b i)).den)∧True)∧rE (0:Nat)∧rE (0:Nat)∧rE (pnN Y)∧(∀ (i:Nat),i<pnN Y→rE ((SV.agg [i6 (pnF Y i)]).den)∧True∧True)∧rE (pnI Y)∧rE (0:Nat)∧z+(1:Nat)=z_1∧(↑z:Int)+(1:Int)=(↑z_1:Int)∧Y.1=Y.1∧(∀ (i:Nat),i<Y.1→rE ((i6 (Y.st i)).den)∧True)∧Y.3=Y.3∧(∀ (i:Nat),i<Y.3→rE ((Y.sti i).sv.den)∧True∧True∧(∀ (i_1:Nat),i_1<(Y.sti i).3→True∧True∧True)∧True∧True∧True)∧Y.5=Y.5∧(∀ (i:Nat),i<Y.5→rE ((Y.sal i).sv.den)∧True∧True∧True∧True)∧z_1=z+(1:Nat)∧(∀ (i:Nat),i<z_1→rE (1:Nat)∧(if i<z then otF Y m b i else (b ((↑z:Int).tmod (↑m:Int)).toNat).tmod ((Y.sti (↑z:Int).toNat).6+(1:Int)))=otF Y m b i∧True)∧True)∧(¬(↑z:Int)<(↑(pnN Y):Int)→(0:Nat)<(1:Nat)∧(∀ (i:Nat),i<Y.1→True)∧(∀ (i:Nat),i <
Y.3→True∧True∧(∀ (i_1:Nat),i_1<(Y.sti i).3→True∧True∧True)∧True∧True∧True)∧(∀ (i:Nat),i<Y.5→True∧True∧True∧True)∧(0:Nat)+z≤z∧(∀ (i:Nat),i<z→rE (1:Nat)∧True)∧SV.agg [SV.lst (1:Nat) Y.g fun i=>i6 (Y.st i),SV.lst (5:Nat) Y.m fun i=>(Y.sti i).sv,SV.lst (3:Nat) Y.q fun i=>(Y.sal i).sv]=(ydOf Y.g (fun i=>i6 (Y.st i)) Y.m (fun i=>(Y.sti i).sv) Y.q fun i=>(Y.sal i).sv).sv∧(SV.lst (1:Nat) z fun j=>agI (i6 (otF Y m b (j+(0:Nat)))))=iL z (iOf fun j=>agI (i6 (otF Y m b (j+(0:Nat)))))∧(¬erP (ydOf Y.g (fun i=>i6 (Y.st i)) Y.m (fun i=>(Y.sti i).sv) Y.q fun i=>(Y.sal i).sv) z (iOf fun j=>agI (i6 (otF Y m b (j+(0:Nat)))))=(0:Int)→(erP (ydOf Y.g (fun i=>i6 (Y.st i)) Y.m (fun i=>(Y.sti i).sv) Y.q fun i=>(Y.sal i).sv) z (iOf fun j=>agI (i6 (otF Y m b (j+(0:Nat)))))=(10 :
Int)→rE true∧True)∧(¬erP (ydOf Y.g (fun i=>i6 (Y.st i)) Y.m (fun i=>(Y.sti i).sv) Y.q fun i=>(Y.sal i).sv) z (iOf fun j=>agI (i6 (otF Y m b (j+(0:Nat)))))=(10:Int)→false=true∧True))∧(¬¬erP (ydOf Y.g (fun i=>i6 (Y.st i)) Y.m (fun i=>(Y.sti i).sv) Y.q fun i=>(Y.sal i).sv) z (iOf fun j=>agI (i6 (otF Y m b (j+(0:Nat)))))=(0:Int)→(∃ (z_1:Nat),(z_1≤pnN Y∧∀ (i:Nat),i<z_1→otF Y m b i=pnF Y i)∧rE (pnN Y)∧(∀ (i:Nat),i<pnN Y→rE ((SV.agg [i6 (pnF Y i)]).den)∧True∧True)∧rE (pnI Y)∧rE (0:Nat)∧z=pnN Y∧inI (ydOf Y.g (fun i=>i6 (Y.st i)) Y.m (fun i=>(Y.sti i).sv) Y.q fun i=>(Y.sal i).sv) z (iOf fun j=>agI (i6 (otF Y m b (j+(0:Nat)))))=inI Y (pnN Y) (otF Y m b)∧rE false∧(0:Int)=(↑z_1:Int)∧Y.1=Y.1∧(∀ (i:Nat),i<Y.1→rE ((i6 (Y.st i)).den)∧True)∧Y.3=Y.3∧(∀ (i:Nat),i<Y.3
→ rE ((Y.sti i).sv.den)∧True∧True∧(∀ (i_1:Nat),i_1<(Y.sti i).3→True∧True∧True)∧True∧True∧True)∧Y.5=Y.5∧(∀ (i:Nat),i<Y.5→rE ((Y.sal i).sv.den)∧True∧True∧True∧True)∧pnN Y=z∧(∀ (i:Nat),i<pnN Y→rE (1:Nat)∧rE (otF Y m b i)∧True)∧True)∧∀ (z:Nat),(z≤pnN Y∧∀ (i:Nat),i<z→otF Y m b i=pnF Y i)→((↑z:Int)<(↑(pnN Y):Int)→(0:Int)≤(↑z:Int)∧(↑z:Int)<(↑(pnN Y):Int)∧(0:Nat)+(↑z:Int).toNat<pnN Y∧(0:Int)≤(↑z:Int)∧(↑z:Int)<(↑(pnN Y):Int)∧(¬otF Y m b ((0:Nat)+(↑z:Int).toNat)=pnF Y (↑z:Int).toNat→(0:Int)≤(↑z:Int)∧(↑z:Int)<(↑(pnN Y):Int)∧(0:Nat)+(↑z:Int).toNat<pnN Y∧(0:Int)≤(↑z:Int)∧(↑z:Int)<(↑(pnN Y):Int)∧(inI Y (pnN Y) (otF Y m b)≤pnI Y→(inI Y (pnN Y) (otF Y m b)<pnI Y→rE true∧True)∧(¬inI Y (pnN Y) (otF Y m b) <
pnI Y→(¬otF Y m b ((0:Nat)+(↑z:Int).toNat)<pnF Y (↑z:Int).toNat→rE true∧True)∧(¬¬otF Y m b ((0:Nat)+(↑z:Int).toNat)<pnF Y (↑z:Int).toNat→false=true∧True)))∧(¬inI Y (pnN Y) (otF Y m b)≤pnI Y→false=true∧True))∧(¬¬otF Y m b ((0:Nat)+(↑z:Int).toNat)=pnF Y (↑z:Int).toNat→rI ((↑z:Int)+(1:Int))∧∃ (z_1:Nat),(z_1≤pnN Y∧∀ (i:Nat),i<z_1→otF Y m b i=pnF Y i)∧pnN Y - z_1<pnN Y - z∧rE (pnN Y)∧(∀ (i:Nat),i<pnN Y→rE ((SV.agg [i6 (pnF Y i)]).den)∧True∧True)∧rE (pnI Y)∧rE (0:Nat)∧rE (pnN Y)∧rE (inI Y (pnN Y) (otF Y m b))∧rE false∧(↑z:Int)+(1:Int)=(↑z_1:Int)∧Y.1=Y.1∧(∀ (i:Nat),i<Y.1→rE ((i6 (Y.st i)).den)∧True)∧Y.3=Y.3∧(∀ (i:Nat),i<Y.3→rE ((Y.sti i).sv.den)∧True∧True∧(∀ (i_1:Nat),i_1<(Y.sti i).3→True∧True∧True)∧True∧True∧True)∧Y.5=Y.5 ∧
(∀ (i:Nat),i<Y.5→rE ((Y.sal i).sv.den)∧True∧True∧True∧True)∧rE (pnN Y)∧(∀ (i:Nat),i<pnN Y→rE (1:Nat)∧rE (otF Y m b i)∧True)∧True))∧(¬(↑z:Int)<(↑(pnN Y):Int)→(inI Y (pnN Y) (otF Y m b)≤pnI Y→(inI Y (pnN Y) (otF Y m b)<pnI Y→rE true∧True)∧(¬inI Y (pnN Y) (otF Y m b)<pnI Y→rE true∧True))∧(¬inI Y (pnN Y) (otF Y m b)≤pnI Y→false=true∧True)))))))))))):=by kernel_rfl
end Go.Proofs.Ytifjghgejnkdoaa

namespace Go.Proofs.Ytifjghgejnkdoaa
open Go Go.Lg
end Go.Proofs.Ytifjghgejnkdoaa

set_option maxRecDepth 100000
namespace Go.Proofs.Ytifjghgejnkdoaa
open Go Go.Lg
attribute [local irreducible] funS bodyH
theorem ag_fold (f:Nat→Int):(iOf fun j=>agI (SV.agg [i6 (f j)]))=f:=rfl
theorem ai_fold (f:Nat→Int):(iOf fun j=>agI (i6 (f j)))=f:=rfl
theorem csB_sound:SoundS Try.prog csB:=ctrs_sound (by
 intro x hx
 simp at hx
 rcases hx with rfl | rfl | rfl | rfl | rfl
 ·exact lg_ok
 ·exact aw_ok
 ·exact ry_ok
 ·exact pn_ok
 ·exact agC_ok in_ok)
theorem inI_of {Y:Yd} {n:Nat} {p:Nat→Int} (h:erP Y n p=0):inI Y n p=inO Y p:=by rw [inI,if_pos h]; rfl
theorem erP_zero {Y:Yd} {p:Nat→Int} (h:okYd Y) (h1:okPl Y.m Y.sti Y.m p) (h2:canL Y p Y.m):erP Y Y.m p=0:=by rw [erP,if_pos h,if_pos h1,if_pos h2]
theorem bt_true {Y:Yd} {m:Nat} {b:Nat→Int} (hb:∀ i,i<m→0≤b i∧b i≤255):btG Y m b:=by
 rw [btG_vc]
 simp only [rI,rE,tt3,tt4,tt5,tt13,tt14,and_true,true_and,Nat.zero_lt_one,and_self,implies_true,Int.toNat_natCast,Nat.zero_add,Nat.add_zero,Nat.one_mul,Nat.mul_one,Classical.not_not,iff_self,Bool.false_eq_true,imp_false,and_imp,true_implies,forall_const,gdV_cells,sc1,sc0,ft_fold,sti_fold,sal_fold,yd_fold,iOf_fold,stiOf_fold,salOf_fold,yv_fold,ag_fold,ai_fold]
 intro hlg hm
 by_cases h:okYd Y
 ·have eE:pnE Y=0:=by rw [pnE,if_pos h]
  have eN:pnN Y=Y.m:=by rw [pnN,if_pos h]
  have m4:=h.s.a
  obtain ⟨s1,s2,s3,s4⟩:=best_spec h
  have e0:=erP_zero h s1 s2
  have e1:inI Y Y.m (pnF Y)=pnI Y:=by rw [inI_of e0,s3]
  rw [eE,eN]
  refine ⟨fun hh=>absurd rfl hh,fun _=>⟨rfl,e0,fun _=>⟨e1,fun _=>⟨h,fun _=>⟨rfl,fun _=>⟨⟨0,by omega,rfl,rfl,rfl⟩,fun z hz=>⟨fun hl=>?_,fun hl=>?_⟩⟩⟩⟩⟩⟩⟩
  ·have t1:=tm_bd (a:=(z:Int)) (b:=m) (by omega) (by omega)
   have b1:=hb ((z:Int).tmod m).toNat (by omega)
   have st:=(h.s.b z (by omega)).2
   have p0:=st.m0
   have p1:=st.m1
   refine ⟨hm,by omega,by omega,by omega,by omega,by omega,by omega,by omega,by omega,by omega,by omega,z+1,by omega,by omega,rfl,by omega,rfl,fun i hi=>?_⟩
   by_cases e:i<z
   ·rw [if_pos e]
   ·have:i=z:=by omega
    subst this; rw [if_neg e]; rfl
  ·have ez:z=Y.m:=by omega
   subst ez
   have hok:okPl Y.m Y.sti Y.m (otF Y m b):=⟨rfl,fun i hi=>by
    have st:=(h.s.b i hi).2
    have t1:=tm_bd (a:=(i:Int)) (b:=m) (by omega) (by omega)
    have b1:=hb ((i:Int).tmod m).toNat (by omega)
    have p0:=st.m0
    have:=tm_bd (a:=b ((i:Int).tmod m).toNat) (b:=(Y.sti i).most+1) (by omega) (by omega)
    exact ⟨this.1,by show _≤_; unfold otF; omega⟩⟩
   refine ⟨Nat.le_refl _,rfl,fun hn=>?_,fun hz=>?_⟩
   ·rw [erP,if_pos h,if_pos hok,if_neg fun hc=>hn (erP_zero h hok hc)]
   ·obtain ⟨-,-,hc⟩:=erP_ok hz
    obtain ⟨u1,u2⟩:=s4 _ hok hc
    rw [inI_of hz]
    refine ⟨⟨0,⟨by omega,fun i hi=>by omega⟩,rfl,rfl,rfl,rfl⟩,fun x hx hi=>⟨fun hl=>⟨by omega,hl,by omega,by omega,by omega,fun hne=>⟨by omega,by omega,by omega,by omega,by omega,fun _ hnl hlt=>u2 (by omega) ⟨x,by omega,fun k hk=>hi k hk,hlt⟩,u1⟩,fun he=>⟨by omega,x+1,⟨by omega,up1 (P:=fun i=>otF Y m b i=pnF Y i) hi he⟩,by omega,by omega⟩⟩,fun _=>u1⟩⟩
 ·have eE:pnE Y=1:=by rw [pnE,if_neg h]
  have eN:pnN Y=0:=by rw [pnN,if_neg h]
  have eI:pnI Y=0:=by rw [pnI,if_neg h]
  rw [eE,eN,eI]
  exact ⟨fun _=>⟨fun _=>⟨fun _=>⟨fun _=>h,rfl⟩,rfl⟩,rfl⟩,fun h1=>absurd h1 (by decide)⟩
end Go.Proofs.Ytifjghgejnkdoaa
