import Derived.Test.YtpdcajchppoocaaRows
import Derived.Test.YtpdcajchppoocaaC7
import Derived.Test.YtpdcajchppoocaaEs
import Derived.Test.YtpdcajchppoocaaC5
import Derived.Test.YtpdcajchppoocaaHgHgVHgV2HhHi
set_option linter.unusedVariables false
set_option linter.unusedSimpArgs false
set_option maxRecDepth 100000
namespace Go.Proofs.Ytpdcajchppoocaa
open Go Go.Lg
attribute [local irreducible] bodyH
end Go.Proofs.Ytpdcajchppoocaa

set_option maxRecDepth 100000
namespace Go.Proofs.Ytpdcajchppoocaa
open Go Go.Lg
attribute [local irreducible] bodyH
end Go.Proofs.Ytpdcajchppoocaa

set_option maxRecDepth 100000
namespace Go.Proofs.Ytpdcajchppoocaa
open Go Go.Lg
attribute [local irreducible] bodyH
noncomputable def byX (N:Nat) (A B:CX):CX:=fun g=>match A g with
 | none=>none
 | some a=>(match B g with
  | none=>none
  | some b=>some fun args X q k=>(match Nat.beq X.n N with
   | true=>a args X q k
   | false=>b args X q k))
def slQ0:SV→Option Nat
 | .sl r _ _=>some r
 | _=>none
noncomputable def ms2 (i j:Nat):FS→XS→Ms:=fun t _=>[slQ0 (sget 147 t i),slQ0 (sget 147 t j)]
noncomputable def ms1 (i:Nat):FS→XS→Ms:=fun t _=>[slQ0 (sget 147 t i)]
noncomputable def ms3 (i j k:Nat):FS→XS→Ms:=fun t _=>[slQ0 (sget 147 t i),slQ0 (sget 147 t j),slQ0 (sget 147 t k)]
def bxR (T:Tn):Option SRow:=rw' 3 T.nb (bxV T)
def ldR (T:Tn):Option SRow:=rw' 2 T.nl (ldV T)
def twR (n:Nat) (w:Nat→Bool):Option SRow:=rw' 1 n fun h=>.dec (w h=true) inferInstance
noncomputable def slR (T:Tn) (w:Nat→Bool):Option SRow:=rw' 2 T.nl fun k=>.agg [b6 (loA T w k),b6 (hiA T w k)]
noncomputable def sjR (T:Tn) (w:Nat→Bool) (j:Nat):Option SRow:=rw' 2 T.nl fun k=>.agg [b6 (if k<j then -1 else loA T w k),b6 (hiA T w k)]
noncomputable def bjR (T:Tn) (L H:St) (j:Nat):Option SRow:=rw' 5 T.nb fun k=>.agg [b6 (if k<j then -1 else L.bx k),b6 (L.fo k),b6 (H.fo k),b6 (L.rv k),.dec (L.n≤k) inferInstance]
def cjP (T:Tn) (j k:Nat):Prop:=btB (seP T) k=true↔¬ k<j
noncomputable def cjR (T:Tn) (j:Nat):Option SRow:=rw' 1 T.nl fun k=>.dec (cjP T j k) (Classical.propDecidable _)
noncomputable def l4 (T:Tn) (n:Nat) (w:Nat→Bool):List (Option SRow):=[vr 7 (tV T),bxR T,ldR T,twR n w]
noncomputable def oF (T:Tn) (n:Nat) (w:Nat→Bool) (h e:Int) (l:List (Nat × SV)):FS:=mkF 147 ([(1,twL n w),(2,.ptr 0 0 0),(5,.sl 1 0 T.nb),(6,.sl 2 0 T.nl),(7,.sl 3 0 n),(10,b6 e)] ++ l)
noncomputable def ow15 (T:Tn) (w:Nat→Bool) (N:Nat) (l:List (Option SRow)):HSpec :=
 { toLSpec:={ σ:=Nat,inv:=fun h=>h≤T.nl,μ:=fun h=>T.nl - h,nr:=N,ms:=gsl 62 4,t:=fun h=>mkF 62 [(4,.sl N 0 T.nl),(5,b6 T.nl),(10,slpL T w (coL T)),(12,slpL T w (coH T 0)),(43,b6 T.nl),(44,b6 h)],X:=fun h=>mkX (l ++ [rw' 2 T.nl fun k=>.agg [b6 (if k<h then loA T w k else 0),b6 (if k<h then hiA T w k else 0)]]),rd:=fun _ _ k=>∃ z,k z,rdOK:=fun _ _ _ h=>h } }
noncomputable def ow17 (T:Tn) (L H:St) (N:Nat) (l:List (Option SRow)):HSpec :=
 { toLSpec:={ σ:=Nat,inv:=fun p=>p≤T.nb,μ:=fun p=>T.nb - p,nr:=N,ms:=gbd,t:=fun p=>mkF 77 [(10,.ptr N 0 0),(12,.ptr (N+1) 0 0),(14,.sl (N+2) 0 T.nb),(46,b6 T.nb),(47,b6 p)],X:=fun p=>mkX (l ++ [vr 22 L.sv,vr 22 H.sv,rw' 5 T.nb fun k=>.agg [b6 (if k<p then L.bx k else 0),b6 (if k<p then L.fo k else 0),b6 (if k<p then H.fo k else 0),b6 (if k<p then L.rv k else 0),.dec (k<p∧L.n≤k) inferInstance]]),rd:=fun _ _ k=>∃ z,k z,rdOK:=fun _ _ _ h=>h } }
noncomputable def ow21 (T:Tn) (N:Nat) (l:List (Option SRow)):HSpec :=
 { toLSpec:={ σ:=Nat,inv:=fun h=>h≤T.nl,μ:=fun h=>T.nl - h,nr:=N+2,ms:=gsl 37 2,t:=fun h=>mkF 37 [(2,.sl (N+2) 0 T.nl),(5,.ptr (N+1) 0 0),(20,b6 T.nl),(21,b6 h)],X:=fun h=>mkX (l ++ [vr 7 (tV T),vr 3 (.agg [.bool true,b6 (seP T).t,b6 (seP T).k]),rw' 1 T.nl fun k=>.dec (k<h∧btB (seP T) k=true) inferInstance]),rd:=fun _ _ k=>∃ z,k z,rdOK:=fun _ _ _ h=>h } }
noncomputable def cgC:Ctr:=⟨36,fun args k=>match args with
 | [x,.lst 1 n f]=>∃ (T:Tn) (w:Nat→Bool),(x=tV T∧SV.lst 1 n f=twL T.nl w∧okR T w)∧k (.tup [b6 T.nl,b6 0])
 | _=>False⟩
noncomputable def oCS:CSpec:=ctrsF [endC,folC] (ctrs [cgC,vtB true,seC true])
noncomputable def owX (T:Tn) (w:Nat→Bool) (L H:St):CX :=
 inl Try.prog oCS none (ictrs []) 17 (oneL 0 (ow17 T L H 6 (l4 T T.nl w ++ [sjR T w T.nl,slR T w]))) noL (inl Try.prog oCS none (ictrs []) 21 (oneL 0 (ow21 T 6 (l4 T T.nl w ++ [slR T w,bjR T L H T.nb]))) noL noX)
noncomputable def owXA (T:Tn) (w:Nat→Bool) (L H:St):CX:=inl Try.prog oCS none (ictrs []) 15 (oneL 0 (ow15 T w 4 (l4 T T.nl w))) noL (owX T w L H)
noncomputable def owXB (T:Tn) (w:Nat→Bool) (L H:St):CX:=inl Try.prog oCS none (ictrs []) 15 (oneL 0 (ow15 T w 6 (l4 T T.nl w ++ [slR T w,cjR T T.nl]))) noL (owX T w L H)
noncomputable def ow3 (T:Tn) (n:Nat) (w:Nat→Bool):HSpec:=regH 1 (ms3 5 6 7) (mkF 147 [(1,twL n w),(2,.ptr 0 0 0),(5,.sl 1 0 T.nb),(6,.sl 2 0 T.nl),(7,.sl 3 0 n)]) (mkX (l4 T n w)) [(2,0),(6,0)] [(3,0),(7,0),(10,0)] none
noncomputable def oH (N nr:Nat) (ms:FS→XS→Ms) (t:Nat→FS) (X:Nat→XS):HSpec :=
 { toLSpec:={ σ:=Nat,inv:=fun j=>j≤N,μ:=fun j=>N - j,nr:=nr,ms:=ms,t:=t,X:=X,rd:=fun _ _ k=>∃ z,k z,rdOK:=fun _ _ _ h=>h } }
noncomputable def ow0 (T:Tn) (w:Nat→Bool):HSpec:=oH T.nl 5 (ms1 11) (fun j=>oF T T.nl w T.nl 0 [(8,.sl 4 0 T.nl),(11,.sl 5 0 T.nl),(54,b6 T.nl),(55,b6 j)]) fun j=>mkX (l4 T T.nl w ++ [sjR T w j,slR T w])
noncomputable def ow2 (T:Tn) (w:Nat→Bool) (L H:St):HSpec:=oH T.nb 4 (ms2 11 13) (fun j=>oF T T.nl w T.nl 0 [(11,.sl 4 0 T.nl),(13,.sl 5 0 T.nb),(70,b6 T.nb),(71,b6 j)]) fun j=>mkX (l4 T T.nl w ++ [slR T w,bjR T L H j])
noncomputable def ow4 (T:Tn) (w:Nat→Bool):HSpec:=oH T.nl 4 (ms2 11 16) (fun j=>oF T T.nl w T.nl 0 [(11,.sl 4 0 T.nl),(16,.sl 5 0 T.nl),(86,b6 T.nl),(87,b6 j)]) fun j=>mkX (l4 T T.nl w ++ [slR T w,cjR T j])
noncomputable def ow6 (T:Tn) (w:Nat→Bool):HSpec:=oH T.nb 4 (ms2 11 20) (fun j=>oF T T.nl w T.nl 0 [(11,.sl 4 0 T.nl),(20,.sl 5 0 T.nl),(22,b6 0),(110,b6 T.nb),(111,b6 j)]) fun j=>mkX (l4 T T.nl w ++ [slR T w,slR T w])
noncomputable def owG (T:Tn) (w:Nat→Bool) (L H:St):Prop:=funH Try.prog (ctrs [grC,alvC,spsD,bosC,mrgC 25]) (byX 4 (owXA T w L H) (owXB T w L H)) (ictrs []) (twoL 1003 (ow3 T T.nl w) (twoL 0 (ow0 T w) (twoL 2 (ow2 T w L H) (twoL 4 (ow4 T w) (oneL 6 (ow6 T w)))))) noL 12 [tV T,twL T.nl w] (.bool true)
end Go.Proofs.Ytpdcajchppoocaa
