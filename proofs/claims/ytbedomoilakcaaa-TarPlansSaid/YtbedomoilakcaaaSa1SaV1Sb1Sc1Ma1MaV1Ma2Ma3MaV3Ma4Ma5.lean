import Derived.Test.YtbedomoilakcaaaJuJjJvJwKaKaVKbKc
import Derived.Test.YtbedomoilakcaaaJkJkVJktJlJmJmVJntJnJo
import Derived.Test.YtbedomoilakcaaaJpJpVJqtJq
import Derived.Test.YtbedomoilakcaaaIaIaVIbIcIcVIdIeIeVIf
import Derived.Test.YtbedomoilakcaaaJfJfVJgtJg
import Derived.Test.YtbedomoilakcaaaJhJhVJitJi
import Derived.Test.YtbedomoilakcaaaKdKdVKeKeVKfKg
import Derived.Test.YtbedomoilakcaaaPfPgPhPiPjPkPnPu
set_option linter.unusedVariables false
set_option linter.unusedSimpArgs false
namespace Go.Proofs.Ytbedomoilakcaaa
open Go Go.Lg
attribute [local irreducible] funS bodyH
def st0:Nat→Int
 | 0=>20
 | 1=>0
 | _=>1
def sti0:Nat→Sti
 | 0=>⟨0,6,3,fun i=>match i with
  | 0=>⟨0,0⟩
  | 1=>⟨2,3⟩
  | _=>⟨1,2⟩,5,4⟩
 | _=>⟨1,4,3,fun i=>match i with
  | 0=>⟨0,0⟩
  | 1=>⟨0,0⟩
  | _=>⟨3,3⟩,1,2⟩
def sal0:Nat→Sal
 | 0=>⟨2,5,9⟩
 | 1=>⟨1,10,4⟩
 | _=>⟨0,30,2⟩
def y0:Yd:=⟨3,st0,2,sti0,3,sal0⟩
def w0F:Nat→Wg
 | 0=>⟨10,12,30,31⟩
 | _=>⟨5,9,7,8⟩
def w0:Wl:=⟨2,w0F⟩
def l0F:Nat→Tw
 | 0=>⟨2,2⟩
 | 1=>⟨2,5⟩
 | _=>⟨7,10⟩
def c0F:Nat→Tw
 | 0=>⟨18,21⟩
 | _=>⟨0,3⟩
def l0N:Int→Nat
 | 3=>3
 | _=>0
def l0E:Int→Int
 | 3=>0
 | _=>10
def s0F:Nat→Int
 | 0=>5
 | 1=>2
 | _=>2
def p0F:Nat→Int
 | 0=>2
 | _=>1
def spn0C:Ctr:=⟨23,fun args k=>match args with
 | [.int .i64 a,.int .i64 b]=>k (.agg [i6 a,i6 b])
 | _=>False⟩
noncomputable def spn0G (a b:Int):Prop:=funH Try.prog (ctrs []) noX (ictrs []) noL noL 23 [i6 a,i6 b] (.agg [i6 a,i6 b])
noncomputable def smp0G:Prop:=funH Try.prog (ctrs [spn0C]) noX (ictrs []) noL noL 24 [] y0.sv
noncomputable def smp0C (Y:Yd):Ctr:=⟨24,fun args k=>match args with
 | []=>k Y.sv
 | _=>False⟩
noncomputable def lf0C:Ctr:=⟨14,fun args k=>match args with
 | [.agg [.lst 1 g st,.lst 5 m sti,.lst 3 q sal],.lst 1 n p]=>SV.agg [.lst 1 g st,.lst 5 m sti,.lst 3 q sal]=(ydOf g st m sti q sal).sv∧SV.lst 1 n p=iL n (iOf p)∧(ydOf g st m sti q sal=y0∧n=2∧iOf p 1=1∧(iOf p 0=3∨iOf p 0=1))∧k (.tup [twL (l0N (iOf p 0)) l0F,i6 (l0E (iOf p 0))])
 | _=>False⟩
noncomputable def in0C:Ctr:=⟨16,fun args k=>match args with
 | [.agg [.lst 1 g st,.lst 5 m sti,.lst 3 q sal],.lst 1 n p]=>SV.agg [.lst 1 g st,.lst 5 m sti,.lst 3 q sal]=(ydOf g st m sti q sal).sv∧SV.lst 1 n p=iL n (iOf p)∧(ydOf g st m sti q sal=y0∧n=2∧iOf p 1=1∧iOf p 0=3)∧k (.tup [i6 41,iA 3 s0F,i6 0])
 | _=>False⟩
noncomputable def pn0C:Ctr:=⟨11,fun args k=>match args with
 | [.agg [.lst 1 g st,.lst 5 m sti,.lst 3 q sal]]=>SV.agg [.lst 1 g st,.lst 5 m sti,.lst 3 q sal]=(ydOf g st m sti q sal).sv∧ydOf g st m sti q sal=y0∧k (.tup [iA 2 p0F,i6 50,i6 0])
 | _=>False⟩
noncomputable def ca0C:Ctr:=⟨18,fun args k=>match args with
 | [.lst 4 n f]=>SV.lst 4 n f=(wlOf n f).sv∧(n=2∧∀ i,i<2→wOf (f i)=w0F i)∧k (.tup [twL 2 c0F,.agg [i6 18,i6 24],i6 0])
 | _=>False⟩
noncomputable def sq0C:Ctr:=⟨20,fun args k=>match args with
 | [.lst 2 n f,.lst 2 m g]=>SV.lst 2 n f=twL n (ftOf f)∧SV.lst 2 m g=twL m (ftOf g)∧(n≤1000∧eqTw n (ftOf f) m (ftOf g))∧k (.bool true)
 | _=>False⟩
noncomputable def is0C:Ctr:=⟨13,fun args k=>match args with
 | [.lst 1 n f,.lst 1 m g]=>SV.lst 1 n f=iL n (iOf f)∧SV.lst 1 m g=iL m (iOf g)∧(n≤1000∧eqN n (iOf f) m (iOf g))∧k (.bool true)
 | _=>False⟩
noncomputable def csO (Y:Yd):CSpec:=ctrsF [smp0C Y] (ctrs [spn0C,lf0C,in0C,pn0C,ca0C,sq0C,agC 0 is0C])
noncomputable def awkG (Y:Yd):Prop:=funH Try.prog (csO Y) noX (ictrs []) noL noL 10 [] (.bool true)
end Go.Proofs.Ytbedomoilakcaaa

set_option maxRecDepth 100000
namespace Go.Proofs.Ytbedomoilakcaaa
open Go Go.Lg
theorem spn0G_vc (a:Int) (b:Int):spn0G a b =
((0:Nat)<(1:Nat)∧a=a∧b=b∧True):=by kernel_rfl
theorem smp0G_vc :smp0G  =
(((∀ (i:Nat),rE true)∧(∀ (i:Nat),rE true)∧True)∧((∀ (i:Nat),rE true)∧(∀ (i:Nat),rE true)∧True)∧((∀ (i:Nat),rE true)∧(∀ (i:Nat),rE true)∧True)∧((∀ (i:Nat),rE true)∧(∀ (i:Nat),rE true)∧True)∧(0:Nat)<(1:Nat)∧rE (3:Nat)∧(∀ (i:Nat),i<(3:Nat)→(chainF [SV.int IntKind.i64 (20:Int),SV.int IntKind.i64 (0:Int),SV.int IntKind.i64 (1:Int)] i).den=(i6 (y0.st i)).den∧True)∧rE (2:Nat)∧(∀ (i:Nat),i<(2:Nat)→([SV.agg [SV.int IntKind.i64 (0:Int),SV.int IntKind.i64 (6:Int),SV.lst (Try.prog.cellsOf (41:Nat)) (3:Nat) (chainF [SV.agg [SV.int IntKind.i64 (0:Int),SV.int IntKind.i64 (0:Int)],SV.agg [SV.int IntKind.i64 (2:Int),SV.int IntKind.i64 (3:Int)],SV.agg [SV.int IntKind.i64 (1:Int),SV.int IntKind.i64 (2:Int)]]),SV.int IntKind.i64 (5:Int),SV.int IntKind.i64 (4:Int)],SV.agg [SV.int
IntKind.i64 (1:Int),SV.int IntKind.i64 (4:Int),SV.lst (Try.prog.cellsOf (41:Nat)) (3:Nat) (chainF [SV.agg [SV.int IntKind.i64 (0:Int),SV.int IntKind.i64 (0:Int)],SV.agg [SV.int IntKind.i64 (0:Int),SV.int IntKind.i64 (0:Int)],SV.agg [SV.int IntKind.i64 (3:Int),SV.int IntKind.i64 (3:Int)]]),SV.int IntKind.i64 (1:Int),SV.int IntKind.i64 (2:Int)]].getD i SV.any).den=(y0.sti i).sv.den∧True∧True∧(∀ (i_1:Nat),i_1<(y0.sti i).3→True∧True∧True)∧True∧True∧True)∧rE (3:Nat)∧(∀ (i:Nat),i<(3:Nat)→(chainF [SV.agg [SV.int IntKind.i64 (2:Int),SV.int IntKind.i64 (5:Int),SV.int IntKind.i64 (9:Int)],SV.agg [SV.int IntKind.i64 (1:Int),SV.int IntKind.i64 (10:Int),SV.int IntKind.i64 (4:Int)],SV.agg [SV.int IntKind.i64 (0:Int),SV.int IntKind.i64 (30:Int),SV.int IntKind.i64 (2:Int)]] i).den=(y0.sal i).sv.den ∧
True∧True∧True∧True)∧True):=by kernel_rfl
def awkG0 (Y:Yd):Prop:=(∀ (i:Nat),i<Y.3→True∧True∧(∀ (i_1:Nat),i_1<(Y.sti i).3→True∧True∧True)∧True∧True∧True)
theorem awkG_vc (Y:Yd):awkG Y =
((0:Nat)<(1:Nat)∧((∀ (i:Nat),rE true)∧True)∧(∀ (i:Nat),i<Y.1→True)∧(awkG0 Y)∧(∀ (i:Nat),i<Y.5→True∧True∧True∧True)∧(∀ (i:Nat),i<(2:Nat)→True)∧SV.agg [SV.lst (1:Nat) Y.g fun i=>i6 (Y.st i),SV.lst (5:Nat) Y.m fun i=>(Y.sti i).sv,SV.lst (3:Nat) Y.q fun i=>(Y.sal i).sv]=(ydOf Y.g (fun i=>i6 (Y.st i)) Y.m (fun i=>(Y.sti i).sv) Y.q fun i=>(Y.sal i).sv).sv∧SV.lst (1:Nat) (2:Nat) (chainF [SV.int IntKind.i64 (3:Int),SV.int IntKind.i64 (1:Int)])=iL (2:Nat) (iOf (chainF [SV.int IntKind.i64 (3:Int),SV.int IntKind.i64 (1:Int)]))∧((ydOf Y.g (fun i=>i6 (Y.st i)) Y.m (fun i=>(Y.sti i).sv) Y.q fun i=>(Y.sal i).sv)=y0∧rE (2:Nat)∧(if (1:Nat)=(0:Nat) then (3:Int) else (1:Int))=(1:Int)∧(iOf (chainF [SV.int IntKind.i64 (3:Int),SV.int IntKind.i64 (1:Int)]) (0:Nat)=(3:Int) ∨
iOf (chainF [SV.int IntKind.i64 (3:Int),SV.int IntKind.i64 (1:Int)]) (0:Nat)=(1:Int)))∧(0:Nat)<(1:Nat)∧((∀ (i:Nat),rE true)∧True)∧(∀ (i:Nat),i<Y.1→True)∧(awkG0 Y)∧(∀ (i:Nat),i<Y.5→True∧True∧True∧True)∧(∀ (i:Nat),i<(2:Nat)→True)∧SV.agg [SV.lst (1:Nat) Y.g fun i=>i6 (Y.st i),SV.lst (5:Nat) Y.m fun i=>(Y.sti i).sv,SV.lst (3:Nat) Y.q fun i=>(Y.sal i).sv]=(ydOf Y.g (fun i=>i6 (Y.st i)) Y.m (fun i=>(Y.sti i).sv) Y.q fun i=>(Y.sal i).sv).sv∧SV.lst (1:Nat) (2:Nat) (chainF [SV.int IntKind.i64 (1:Int),SV.int IntKind.i64 (1:Int)])=iL (2:Nat) (iOf (chainF [SV.int IntKind.i64 (1:Int),SV.int IntKind.i64 (1:Int)]))∧((ydOf Y.g (fun i=>i6 (Y.st i)) Y.m (fun i=>(Y.sti i).sv) Y.q fun i=>(Y.sal i).sv)=y0∧rE (2:Nat)∧(if (1:Nat)=(0:Nat) then (1:Int) else (1:Int))=(1:Int) ∧
(iOf (chainF [SV.int IntKind.i64 (1:Int),SV.int IntKind.i64 (1:Int)]) (0:Nat)=(3:Int)∨iOf (chainF [SV.int IntKind.i64 (1:Int),SV.int IntKind.i64 (1:Int)]) (0:Nat)=(1:Int)))∧(0:Nat)<(1:Nat)∧((∀ (i:Nat),rE true)∧True)∧(∀ (i:Nat),i<Y.1→True)∧(awkG0 Y)∧(∀ (i:Nat),i<Y.5→True∧True∧True∧True)∧(∀ (i:Nat),i<(2:Nat)→True)∧SV.agg [SV.lst (1:Nat) Y.g fun i=>i6 (Y.st i),SV.lst (5:Nat) Y.m fun i=>(Y.sti i).sv,SV.lst (3:Nat) Y.q fun i=>(Y.sal i).sv]=(ydOf Y.g (fun i=>i6 (Y.st i)) Y.m (fun i=>(Y.sti i).sv) Y.q fun i=>(Y.sal i).sv).sv∧SV.lst (1:Nat) (2:Nat) (chainF [SV.int IntKind.i64 (3:Int),SV.int IntKind.i64 (1:Int)])=iL (2:Nat) (iOf (chainF [SV.int IntKind.i64 (3:Int),SV.int IntKind.i64 (1:Int)]))∧((ydOf Y.g (fun i=>i6 (Y.st i)) Y.m (fun i=>(Y.sti i).sv) Y.q fun i=>(Y.sal
i).sv)=y0∧rE (2:Nat)∧(if (1:Nat)=(0:Nat) then (3:Int) else (1:Int))=(1:Int)∧(if (0:Nat)=(0:Nat) then (3:Int) else (1:Int))=(3:Int))∧(0:Nat)<(1:Nat)∧(∀ (i:Nat),i<Y.1→True)∧(awkG0 Y)∧(∀ (i:Nat),i<Y.5→True∧True∧True∧True)∧SV.agg [SV.lst (1:Nat) Y.g fun i=>i6 (Y.st i),SV.lst (5:Nat) Y.m fun i=>(Y.sti i).sv,SV.lst (3:Nat) Y.q fun i=>(Y.sal i).sv]=(ydOf Y.g (fun i=>i6 (Y.st i)) Y.m (fun i=>(Y.sti i).sv) Y.q fun i=>(Y.sal i).sv).sv∧(ydOf Y.g (fun i=>i6 (Y.st i)) Y.m (fun i=>(Y.sti i).sv) Y.q fun i=>(Y.sal i).sv)=y0∧((∀ (i:Nat),rE true)∧True)∧(∀ (i:Nat),i<(2:Nat)→True∧True∧True∧True∧True)∧SV.lst (4:Nat) (2:Nat) (chainF [SV.agg [SV.int IntKind.i64 (10:Int),SV.int IntKind.i64 (12:Int),SV.int IntKind.i64 (30:Int),SV.int IntKind.i64 (31:Int)],SV.agg
[SV.int IntKind.i64 (5:Int),SV.int IntKind.i64 (9:Int),SV.int IntKind.i64 (7:Int),SV.int IntKind.i64 (8:Int)]])=(wlOf (2:Nat) (chainF [SV.agg [SV.int IntKind.i64 (10:Int),SV.int IntKind.i64 (12:Int),SV.int IntKind.i64 (30:Int),SV.int IntKind.i64 (31:Int)],SV.agg [SV.int IntKind.i64 (5:Int),SV.int IntKind.i64 (9:Int),SV.int IntKind.i64 (7:Int),SV.int IntKind.i64 (8:Int)]])).sv∧(rE (2:Nat)∧∀ (i:Nat),i<(2:Nat)→wOf (chainF [SV.agg [SV.int IntKind.i64 (10:Int),SV.int IntKind.i64 (12:Int),SV.int IntKind.i64 (30:Int),SV.int IntKind.i64 (31:Int)],SV.agg [SV.int IntKind.i64 (5:Int),SV.int IntKind.i64 (9:Int),SV.int IntKind.i64 (7:Int),SV.int IntKind.i64 (8:Int)]] i)=w0F i)∧((∀ (i:Nat),rE true)∧(∀ (i:Nat),rE true)∧True)∧(∀ (i:Nat),i<l0N (if (0:Nat)=(0:Nat) then (3:Int) else (1:Int))→True ∧
True∧True)∧(∀ (i:Nat),i<(3:Nat)→True∧True∧True)∧(SV.lst (2:Nat) (l0N (iOf (chainF [SV.int IntKind.i64 (3:Int),SV.int IntKind.i64 (1:Int)]) (0:Nat))) fun i=>(l0F i).sv)=twL (l0N (iOf (chainF [SV.int IntKind.i64 (3:Int),SV.int IntKind.i64 (1:Int)]) (0:Nat))) (ftOf fun i=>(l0F i).sv)∧SV.lst (2:Nat) (3:Nat) (chainF [SV.agg [SV.int IntKind.i64 (2:Int),SV.int IntKind.i64 (2:Int)],SV.agg [SV.int IntKind.i64 (2:Int),SV.int IntKind.i64 (5:Int)],SV.agg [SV.int IntKind.i64 (7:Int),SV.int IntKind.i64 (10:Int)]])=twL (3:Nat) (ftOf (chainF [SV.agg [SV.int IntKind.i64 (2:Int),SV.int IntKind.i64 (2:Int)],SV.agg [SV.int IntKind.i64 (2:Int),SV.int IntKind.i64 (5:Int)],SV.agg [SV.int IntKind.i64 (7:Int),SV.int IntKind.i64 (10:Int)]]))∧(l0N (if (0:Nat)=(0:Nat) then (3:Int) else (1:Int))≤(1000:Nat)∧eqTw
(l0N (iOf (chainF [SV.int IntKind.i64 (3:Int),SV.int IntKind.i64 (1:Int)]) (0:Nat))) (ftOf fun i=>(l0F i).sv) (3:Nat) (ftOf (chainF [SV.agg [SV.int IntKind.i64 (2:Int),SV.int IntKind.i64 (2:Int)],SV.agg [SV.int IntKind.i64 (2:Int),SV.int IntKind.i64 (5:Int)],SV.agg [SV.int IntKind.i64 (7:Int),SV.int IntKind.i64 (10:Int)]])))∧(¬l0E (if (0:Nat)=(0:Nat) then (3:Int) else (1:Int))=(0:Int)→false=true∧True)∧(¬¬l0E (if (0:Nat)=(0:Nat) then (3:Int) else (1:Int))=(0:Int)→(¬l0E (if (0:Nat)=(0:Nat) then (1:Int) else (1:Int))=(10:Int)→false=true∧True)∧(¬¬l0E (if (0:Nat)=(0:Nat) then (1:Int) else (1:Int))=(10:Int)→(¬(41:Int)=(41:Int)→false=true∧True)∧(¬¬(41:Int)=(41:Int)→((∀ (i:Nat),rE true)∧(∀ (i:Nat),rE true)∧True)∧(∀ (i:Nat),i<(3:Nat)→True∧True) ∧
(∀ (i:Nat),i<(3:Nat)→True)∧(SV.lst (1:Nat) (3:Nat) fun j=>agI (SV.agg [i6 (s0F j)]))=iL (3:Nat) (iOf fun j=>agI (SV.agg [i6 (s0F j)]))∧SV.lst (1:Nat) (3:Nat) (chainF [SV.int IntKind.i64 (5:Int),SV.int IntKind.i64 (2:Int),SV.int IntKind.i64 (2:Int)])=iL (3:Nat) (iOf (chainF [SV.int IntKind.i64 (5:Int),SV.int IntKind.i64 (2:Int),SV.int IntKind.i64 (2:Int)]))∧((3:Nat)≤(1000:Nat)∧eqN (3:Nat) (iOf fun j=>agI (SV.agg [i6 (s0F j)])) (3:Nat) (iOf (chainF [SV.int IntKind.i64 (5:Int),SV.int IntKind.i64 (2:Int),SV.int IntKind.i64 (2:Int)])))∧(¬(0:Int)=(0:Int)→false=true∧True)∧(¬¬(0:Int)=(0:Int)→((∀ (i:Nat),rE true)∧True)∧(∀ (i:Nat),i<(2:Nat)→True∧True)∧(∀ (i:Nat),i<(2:Nat)→True)∧(SV.lst (1:Nat) (2:Nat) fun j=>agI (SV.agg [i6 (p0F j)]))=iL (2:Nat) (iOf fun j =>
agI (SV.agg [i6 (p0F j)]))∧SV.lst (1:Nat) (2:Nat) (chainF [SV.int IntKind.i64 (2:Int),SV.int IntKind.i64 (1:Int)])=iL (2:Nat) (iOf (chainF [SV.int IntKind.i64 (2:Int),SV.int IntKind.i64 (1:Int)]))∧((2:Nat)≤(1000:Nat)∧eqN (2:Nat) (iOf fun j=>agI (SV.agg [i6 (p0F j)])) (2:Nat) (iOf (chainF [SV.int IntKind.i64 (2:Int),SV.int IntKind.i64 (1:Int)])))∧(rE (50:Int)→(rE (0:Int)→((∀ (i:Nat),rE true)∧True)∧(∀ (i:Nat),i<(2:Nat)→True∧True∧True)∧(∀ (i:Nat),i<(2:Nat)→True∧True∧True)∧(SV.lst (2:Nat) (2:Nat) fun i=>(c0F i).sv)=twL (2:Nat) (ftOf fun i=>(c0F i).sv)∧SV.lst (2:Nat) (2:Nat) (chainF [SV.agg [SV.int IntKind.i64 (18:Int),SV.int IntKind.i64 (21:Int)],SV.agg [SV.int IntKind.i64 (0:Int),SV.int IntKind.i64 (3:Int)]])=twL (2:Nat) (ftOf (chainF [SV.agg [SV.int IntKind.i64 (18 :
Int),SV.int IntKind.i64 (21:Int)],SV.agg [SV.int IntKind.i64 (0:Int),SV.int IntKind.i64 (3:Int)]]))∧((2:Nat)≤(1000:Nat)∧eqTw (2:Nat) (ftOf fun i=>(c0F i).sv) (2:Nat) (ftOf (chainF [SV.agg [SV.int IntKind.i64 (18:Int),SV.int IntKind.i64 (21:Int)],SV.agg [SV.int IntKind.i64 (0:Int),SV.int IntKind.i64 (3:Int)]])))∧(0:Nat)<(1:Nat)∧(rE (18:Int)∧rE (24:Int)→(rE (0:Int)↔true=true)∧True)∧(¬(rE (18:Int)∧rE (24:Int))→false=true∧True))∧(¬(0:Int)=(0:Int)→false=true∧True))∧(¬(50:Int)=(50:Int)→false=true∧True)))))):=by kernel_rfl
end Go.Proofs.Ytbedomoilakcaaa

set_option maxRecDepth 100000
namespace Go.Proofs.Ytbedomoilakcaaa
open Go Go.Lg
attribute [local irreducible] funS bodyH
theorem y0_ok:okYd y0:=by
 refine ⟨⟨by decide,by decide,fun i hi=>?_⟩,⟨by decide,fun i hi=>?_⟩,⟨by decide,fun i hi=>?_⟩⟩
 ·have hi:i<3:=hi
  match i,hi with
  | 0,_=>exact ⟨by decide,by decide⟩
  | 1,_=>exact ⟨by decide,by decide⟩
  | 2,_=>exact ⟨by decide,by decide⟩
 ·have hi:i<2:=hi
  have ok:∀ s:Sti,s=sti0 0∨s=sti0 1→okSti 3 s:=by
   rintro s (rfl | rfl)
   ·refine ⟨by decide,by decide,by decide,by decide,by decide,fun k hk=>?_,by decide,by decide,by decide,by decide⟩
    have hk:k<3:=hk
    match k,hk with
    | 0,_=>exact ⟨fun _=>⟨by decide,by decide⟩,by decide,by decide,by decide⟩
    | 1,_=>exact ⟨fun h=>absurd h (by decide),by decide,by decide,by decide⟩
    | 2,_=>exact ⟨fun h=>absurd h (by decide),by decide,by decide,by decide⟩
   ·refine ⟨by decide,by decide,by decide,by decide,by decide,fun k hk=>?_,by decide,by decide,by decide,by decide⟩
    have hk:k<3:=hk
    match k,hk with
    | 0,_=>exact ⟨fun _=>⟨by decide,by decide⟩,by decide,by decide,by decide⟩
    | 1,_=>exact ⟨fun _=>⟨by decide,by decide⟩,by decide,by decide,by decide⟩
    | 2,_=>exact ⟨fun h=>absurd h (by decide),by decide,by decide,by decide⟩
  match i,hi with
  | 0,_=>exact ⟨fun h=>absurd h (by decide),ok _ (.inl rfl)⟩
  | 1,_=>exact ⟨fun _=>by decide,ok _ (.inr rfl)⟩
 ·have hi:i<3:=hi
  match i,hi with
  | 0,_=>exact ⟨by decide,by decide,by decide,by decide,by decide,by decide⟩
  | 1,_=>exact ⟨by decide,by decide,by decide,by decide,by decide,by decide⟩
  | 2,_=>exact ⟨by decide,by decide,by decide,by decide,by decide,by decide⟩
def pl (a b:Int):Nat→Int
 | 0=>a
 | _=>b
theorem pl_eq {p:Nat→Int} {a b:Int} (h0:p 0=a) (h1:p 1=b):∀ i,i<2→p i=pl a b i:=fun i hi=>by
 match i,hi with
 | 0,_=>exact h0
 | 1,_=>exact h1
theorem st_0:stF sal0 3=fun k:Nat=>(k:Int):=by
 have e1:stF sal0 1=fun k:Nat=>(k:Int):=rfl
 have n1:¬ ltS sal0 ((1:Nat):Int) ((0:Nat):Int):=by unfold ltS; decide
 have n2:¬ ltS sal0 ((2:Nat):Int) ((1:Nat):Int):=by unfold ltS; decide
 have e2:stF sal0 2=fun k:Nat=>(k:Int):=by
  show inF sal0 (stF sal0 1) 1=_
  rw [e1,inF,if_neg n1]
 show inF sal0 (stF sal0 2) 2=_
 rw [e2,inF,if_neg n2]
noncomputable def inQ (p:Nat→Int):Ss:=seS sal0 (fun k:Nat=>(k:Int)) (plX y0 p 2).l 3
theorem inS_0 (p:Nat→Int):inS y0 p=inQ p:=by
 show seS sal0 (stF sal0 3) (plX y0 p 2).l 3=_
 rw [st_0]; rfl
theorem inO_0 (p:Nat→Int):inO y0 p=(inQ p).c - (plX y0 p 2).c:=by
 show (inS y0 p).c - (plX y0 p 2).c=_
 rw [inS_0]
theorem er_0 {p:Nat→Int} (h0:0≤p 0∧p 0≤4) (h1:0≤p 1∧p 1≤2):okPl y0.m y0.sti 2 p:=⟨rfl,fun i hi=>by
 match i,hi with
 | 0,_=>exact h0
 | 1,_=>exact h1⟩
theorem all_0 {a b:Int} (ha:0≤a∧a≤4) (hb:0≤b∧b≤2) (hc:canL y0 (pl a b) 2) (hv:50≤(inQ (pl a b)).c - (plX y0 (pl a b) 2).c):a=2∧b=1:=by
 have h1:a=0∨a=1∨a=2∨a=3∨a=4:=by omega
 have h2:b=0∨b=1∨b=2:=by omega
 have c0:=hc 0 (by omega)
 have c1:=hc 1 (by omega)
 unfold canP at c0 c1
 rcases h1 with rfl | rfl | rfl | rfl | rfl <;> rcases h2 with rfl | rfl | rfl
 all_goals first
  | exact ⟨rfl,rfl⟩
  | exact absurd hv (by decide +kernel)
  | exact absurd c0 (by decide +kernel)
  | exact absurd c1 (by decide +kernel)
theorem can_0:canL y0 (pl 2 1) 2:=fun i hi=>by
 match i,hi with
 | 0,_=>unfold canP; decide +kernel
 | 1,_=>unfold canP; decide +kernel
theorem can_1:canL y0 (pl 3 1) 2:=fun i hi=>by
 match i,hi with
 | 0,_=>unfold canP; decide +kernel
 | 1,_=>unfold canP; decide +kernel
theorem can_2:¬ canL y0 (pl 1 1) 2:=fun h=>by
 have c1:=h 1 (by omega)
 unfold canP at c1
 exact absurd c1 (by decide +kernel)
theorem v_0:(inQ (pl 2 1)).c - (plX y0 (pl 2 1) 2).c=50:=by decide +kernel
theorem pn_0:pnI y0=50∧∀ i,i<2→pnF y0 i=p0F i:=by
 obtain ⟨b1,b2,b3,b4⟩:=best_spec y0_ok
 have hp:=pl_eq (p:=pnF y0) rfl rfl
 have hc:canL y0 (pl (pnF y0 0) (pnF y0 1)) 2:=(canL_congr hp).1 b2
 have hi:inO y0 (pnF y0)=inO y0 (pl (pnF y0 0) (pnF y0 1)):=inO_congr hp
 have h21:=(b4 (pl 2 1) (er_0 (by decide) (by decide)) can_0).1
 rw [inO_0,v_0] at h21
 rw [hi,inO_0] at b3
 have n0:=b1.h 0 (by decide)
 have n1:=b1.h 1 (by decide)
 obtain ⟨e0,e1⟩:=all_0 (a:=pnF y0 0) (b:=pnF y0 1) n0 n1 hc (by omega)
 rw [e0,e1] at b3
 rw [v_0] at b3
 exact ⟨b3.symm,fun i hi=>by
  match i,hi with
  | 0,_=>exact e0
  | 1,_=>exact e1⟩
theorem er_1 {p:Nat→Int} (h0:p 0=3) (h1:p 1=1):erP y0 2 p=0:=by
 unfold erP
 rw [if_pos y0_ok,if_pos (er_0 (by omega) (by omega)),if_pos (show canL y0 p y0.m from (canL_congr (pl_eq h0 h1)).2 can_1)]
theorem er_2 {p:Nat→Int} (h0:p 0=1) (h1:p 1=1):erP y0 2 p=10:=by
 unfold erP
 rw [if_pos y0_ok,if_pos (er_0 (by omega) (by omega)),if_neg (show ¬ canL y0 p y0.m from fun h=>can_2 ((canL_congr (pl_eq h0 h1)).1 h))]
theorem lf_1 {p:Nat→Int} (h0:p 0=3) (h1:p 1=1):(lfR y0 2 p).den=(SV.tup [twL 3 l0F,i6 0]).den:=by
 unfold lfR lfN
 rw [er_1 h0 h1,if_pos rfl,show plX y0 p y0.m=plX y0 (pl 3 1) 2 from plX_congr (p':=pl 3 1) 2 (pl_eq h0 h1)]
 simp only [SV.den,SV.denL,twL,i6]
 congr 3
theorem lf_2 {p:Nat→Int} (h0:p 0=1) (h1:p 1=1):(lfR y0 2 p).den=(SV.tup [twL 0 l0F,i6 10]).den:=by
 unfold lfR lfN
 rw [er_2 h0 h1,if_neg (by decide)]
 rfl
theorem in_1 {p:Nat→Int} (h0:p 0=3) (h1:p 1=1):(inR y0 2 p).den=(SV.tup [i6 41,iA 3 s0F,i6 0]).den:=by
 have e:inS y0 p=inQ (pl 3 1):=by
  rw [inS_0]
  unfold inQ
  rw [plX_congr (p':=pl 3 1) 2 (pl_eq h0 h1)]
 have ec:inI y0 2 p=41:=by
  unfold inI
  rw [er_1 h0 h1,if_pos rfl,e]
  show (inQ (pl 3 1)).c - (plX y0 p 2).c=41
  rw [plX_congr (p':=pl 3 1) 2 (pl_eq h0 h1)]
  decide +kernel
 unfold inR inN
 rw [er_1 h0 h1,if_pos rfl,ec,e]
 simp only [SV.den,SV.denL,iA,i6]
 congr 4
theorem pn_1:(pnR y0).den=(SV.tup [iA 2 p0F,i6 50,i6 0]).den:=by
 obtain ⟨e1,e2⟩:=pn_0
 have eN:pnN y0=2:=by unfold pnN; rw [if_pos y0_ok]; rfl
 have eE:pnE y0=0:=by unfold pnE; rw [if_pos y0_ok]
 unfold pnR
 rw [eN,eE,e1]
 simp only [SV.den,SV.denL,iA,i6]
 congr 3
 exact List.map_congr_left fun i hi=>by rw [e2 i (List.mem_range.1 hi)]
end Go.Proofs.Ytbedomoilakcaaa

set_option maxRecDepth 100000
namespace Go.Proofs.Ytbedomoilakcaaa
open Go Go.Lg
attribute [local irreducible] funS bodyH
theorem spn0_ok:spn0C.Ok Try.prog:=by
 refine ⟨by kernel_rfl,fun x k hk=>?_⟩
 simp only [spn0C] at hk
 split at hk
 ·rename_i a b
  have hh:spn0G a b:=by rw [spn0G_vc]; simp
  exact ⟨_,plainD nilS_cs nilS_x nilS_ic hh (by simp [plainS,plainS.plainL]),hk⟩
 ·exact hk.elim
theorem smp0_true:smp0G:=by
 rw [smp0G_vc]
 simp only [rI,rE,tt3,tt4,tt5,tt13,tt14,rI,rE,and_true,true_and,Nat.zero_lt_one,implies_true]
 refine ⟨fun i hi=>?_,fun i hi=>?_,fun i hi=>?_⟩
 ·match i,hi with
  | 0,_=>rfl
  | 1,_=>rfl
  | 2,_=>rfl
 ·match i,hi with
  | 0,_=>rfl
  | 1,_=>rfl
 ·match i,hi with
  | 0,_=>rfl
  | 1,_=>rfl
  | 2,_=>rfl
theorem smp0_ok:(smp0C y0).OkF Try.prog:=by
 refine ⟨by kernel_rfl,fun x k hk=>?_⟩
 simp only [smp0C] at hk
 split at hk
 ·exact ⟨_,funH_does (one_cs spn0_ok) nilS_x nilS_ic mixed smp0_true,hk⟩
 ·exact hk.elim
theorem lf0_ok:lf0C.Ok Try.prog:=by
 refine ⟨by kernel_rfl,fun x k hk=>?_⟩
 simp only [lf0C] at hk
 split at hk
 ·rename_i g st m sti q sal n p
  obtain ⟨h1,h2,⟨h3,rfl,h4,h5⟩,hk⟩:=hk
  obtain ⟨r,hd,hr⟩:=lf_ok.2 [.agg [.lst 1 g st,.lst 5 m sti,.lst 3 q sal],.lst 1 2 p] (fun r=>r.den=(lfR y0 2 (iOf p)).den) ⟨h1,h2,by rw [h3]⟩
  rcases h5 with h5 | h5
  ·rw [h5] at hk
   rw [hr,lf_1 h5 h4] at hd
   exact ⟨_,hd,hk⟩
  ·rw [h5] at hk
   rw [hr,lf_2 h5 h4] at hd
   exact ⟨_,hd,hk⟩
 ·exact hk.elim
theorem in0_ok:in0C.Ok Try.prog:=by
 refine ⟨by kernel_rfl,fun x k hk=>?_⟩
 simp only [in0C] at hk
 split at hk
 ·rename_i g st m sti q sal n p
  obtain ⟨h1,h2,⟨h3,rfl,h4,h5⟩,hk⟩:=hk
  obtain ⟨r,hd,hr⟩:=in_ok.2 [.agg [.lst 1 g st,.lst 5 m sti,.lst 3 q sal],.lst 1 2 p] (fun r=>r.den=(inR y0 2 (iOf p)).den) ⟨h1,h2,by rw [h3]⟩
  rw [hr,in_1 h5 h4] at hd
  exact ⟨_,hd,hk⟩
 ·exact hk.elim
theorem pn0_ok:pn0C.Ok Try.prog:=by
 refine ⟨by kernel_rfl,fun x k hk=>?_⟩
 simp only [pn0C] at hk
 split at hk
 ·rename_i g st m sti q sal
  obtain ⟨h1,h3,hk⟩:=hk
  obtain ⟨r,hd,hr⟩:=pn_ok.2 [.agg [.lst 1 g st,.lst 5 m sti,.lst 3 q sal]] (fun r=>r.den=(pnR y0).den) ⟨h1,by rw [h3]⟩
  rw [hr,pn_1] at hd
  exact ⟨_,hd,hk⟩
 ·exact hk.elim
theorem ca_1 {W:Wl} (hn:W.n=2) (hf:∀ i,i<2→W.f i=w0F i):(caR W).den=(SV.tup [twL 2 c0F,.agg [i6 18,i6 24],i6 0]).den:=by
 have hw:okWl W:=fun i hi=>by
  rw [hn] at hi
  rw [hf i hi]
  match i,hi with
  | 0,_=>exact ⟨⟨by decide,by decide,by decide⟩,⟨by decide,by decide,by decide⟩,by decide⟩
  | 1,_=>exact ⟨⟨by decide,by decide,by decide⟩,⟨by decide,by decide,by decide⟩,by decide⟩
 have e:erC W=0:=by unfold erC; rw [hn,if_neg (by decide),if_pos hw]
 have eA:caA W=⟨18,24⟩:=by
  unfold caA
  rw [e,if_pos rfl,hn]
  simp only [smJ,sumJ]
  rw [hf 0 (by decide),hf 1 (by decide)]
  rfl
 unfold caR caN
 rw [e,if_pos rfl,eA,hn]
 simp only [SV.den,SV.denL,twL,i6]
 congr 3
 exact List.map_congr_left fun i hi=>by
  have hi:i<2:=List.mem_range.1 hi
  show ((ldW (W.f i)).sv).den=_
  rw [hf i hi]
  match i,hi with
  | 0,_=>rfl
  | 1,_=>rfl
theorem ca0_ok:ca0C.Ok Try.prog:=by
 refine ⟨by kernel_rfl,fun x k hk=>?_⟩
 simp only [ca0C] at hk
 split at hk
 ·rename_i n f
  obtain ⟨h1,⟨rfl,h2⟩,hk⟩:=hk
  obtain ⟨r,hd,hr⟩:=ca_ok.2 [.lst 4 2 f] (fun r=>r.den=(caR (wlOf 2 f)).den) ⟨h1,by omega,rfl⟩
  rw [hr,ca_1 rfl h2] at hd
  exact ⟨_,hd,hk⟩
 ·exact hk.elim
theorem decT {p:Prop} (h:p):(SV.dec p (Classical.propDecidable _)).den=(SV.bool true).den:=by simp only [SV.den]; congr 2; simp [h]
theorem sq0_ok:sq0C.Ok Try.prog:=by
 refine ⟨by kernel_rfl,fun x k hk=>?_⟩
 simp only [sq0C] at hk
 split at hk
 ·rename_i n f m g
  obtain ⟨h1,h2,⟨h3,h4⟩,hk⟩:=hk
  obtain ⟨r,hd,hr⟩:=ssq_ok.2 [.lst 2 n f,.lst 2 m g] (fun r=>r.den=(SV.dec (eqTw n (ftOf f) m (ftOf g)) (Classical.propDecidable _)).den) ⟨h1,h2,h3,rfl⟩
  rw [hr,decT h4] at hd
  exact ⟨_,hd,hk⟩
 ·exact hk.elim
theorem is0_ok:is0C.Ok Try.prog:=by
 refine ⟨by kernel_rfl,fun x k hk=>?_⟩
 simp only [is0C] at hk
 split at hk
 ·rename_i n f m g
  obtain ⟨h1,h2,⟨h3,h4⟩,hk⟩:=hk
  obtain ⟨r,hd,hr⟩:=is_ok.2 [.lst 1 n f,.lst 1 m g] (fun r=>r.den=(SV.dec (eqN n (iOf f) m (iOf g)) (Classical.propDecidable _)).den) ⟨h1,h2,h3,rfl⟩
  rw [hr,decT h4] at hd
  exact ⟨_,hd,hk⟩
 ·exact hk.elim
theorem awk_true:awkG y0:=by
 rw [awkG_vc]
 simp only [awkG0,rI,rE,tt3,tt4,tt5,tt13,tt14,rI,rE,and_true,true_and,Nat.zero_lt_one,and_self,implies_true,Int.toNat_natCast,Classical.not_not,iff_self,Bool.false_eq_true,imp_false,and_imp,true_implies,forall_const]
 have two:∀ {f g:Nat→Tw},f 0=g 0→f 1=g 1→eqTw 2 f 2 g:=fun h0 h1=>⟨rfl,fun i hi=>by
  match i,hi with
  | 0,_=>rw [h0]; exact ⟨rfl,rfl⟩
  | 1,_=>rw [h1]; exact ⟨rfl,rfl⟩⟩
 have three:∀ {f g:Nat→Tw},f 0=g 0→f 1=g 1→f 2=g 2→eqTw 3 f 3 g:=fun h0 h1 h2=>⟨rfl,fun i hi=>by
  match i,hi with
  | 0,_=>rw [h0]; exact ⟨rfl,rfl⟩
  | 1,_=>rw [h1]; exact ⟨rfl,rfl⟩
  | 2,_=>rw [h2]; exact ⟨rfl,rfl⟩⟩
 have w2:∀ {f:Nat→Wg},f 0=w0F 0→f 1=w0F 1→∀ i,i<2→f i=w0F i:=fun h0 h1 i hi=>by
  match i,hi with
  | 0,_=>exact h0
  | 1,_=>exact h1
 have n2:∀ {f g:Nat→Int},f 0=g 0→f 1=g 1→eqN 2 f 2 g:=fun h0 h1=>⟨rfl,fun i hi=>by
  match i,hi with
  | 0,_=>exact h0
  | 1,_=>exact h1⟩
 have n3:∀ {f g:Nat→Int},f 0=g 0→f 1=g 1→f 2=g 2→eqN 3 f 3 g:=fun h0 h1 h2=>⟨rfl,fun i hi=>by
  match i,hi with
  | 0,_=>exact h0
  | 1,_=>exact h1
  | 2,_=>exact h2⟩
 repeat' (first
  | exact two rfl rfl
  | exact three rfl rfl rfl
  | exact n2 rfl rfl
  | exact n3 rfl rfl rfl
  | exact w2 rfl rfl
  | exact .inl rfl
  | exact .inr rfl
  | rfl
  | decide
  | apply And.intro
  | intro _)
theorem aw0_ok:awC.Ok Try.prog:=by
 refine ⟨by kernel_rfl,fun x k hk=>?_⟩
 simp only [awC] at hk
 split at hk
 ·have hh:=awk_true
  unfold awkG at hh
  refine ⟨_,Does.plain (funH_does (ctrsF_sound (ctrs_sound (by
   intro x hx
   simp only [List.mem_cons,List.not_mem_nil,or_false] at hx
   rcases hx with rfl | rfl | rfl | rfl | rfl | rfl | rfl
   ·exact spn0_ok
   ·exact lf0_ok
   ·exact in0_ok
   ·exact pn0_ok
   ·exact ca0_ok
   ·exact sq0_ok
   ·exact agC_ok is0_ok)) (by intro x hx; simp at hx; subst hx; exact smp0_ok)) nilS_x nilS_ic mixed hh) trivial,hk⟩
 ·exact hk.elim
end Go.Proofs.Ytbedomoilakcaaa

set_option maxRecDepth 100000
namespace Go.Proofs.Ytbedomoilakcaaa
open Go Go.Lg
attribute [local irreducible] funS bodyH
def zF:Nat→Int:=fun _=>0
def rowI (m:Nat) (O:List (Nat→Int)):Nat→SV:=fun i=>.lst 1 m fun q=>i6 (O.getD i zF q)
def upN (p:Nat→Int) (i:Nat) (t:Int):Nat→Int:=fun j=>if j<i then p j else t
def plS (f:Nat→Sti) (m:Nat):Nat→(Nat→Int)→List (Nat→Int)
 | 0,p=>[p]
 | d+1,p=>(List.range ((f (m - (d+1))).most+1).toNat).flatMap fun (t:Nat)=>plS f m d (upN p (m - (d+1)) (t:Int))
def plU (f:Nat→Sti) (m d:Nat) (p:Nat→Int) (k:Nat):List (Nat→Int):=(List.range k).flatMap fun (t:Nat)=>plS f m d (upN p (m - (d+1)) (t:Int))
structure pzI (f:Nat→Sti) (m d:Nat) (k:Nat):Prop where
 a:(k:Int)≤(f (m - (d+1))).most+1
noncomputable def pzM:FS→XS→Ms:=fun t X=>match sget 40 t 3,sget 40 t 2 with
 | .ptr a _ _,.sl b _ _=>[some a,some b]
 | _,_=>[]
noncomputable def pzN:FS→XS→Ms:=fun t X=>match sget 40 t 3,sget 40 t 2,sget 40 t 36 with
 | .ptr a _ _,.sl b _ _,.sl c _ _=>[some a,some b,some c]
 | _,_,_=>[]
noncomputable def pzF (p:Nat→Int) (n N k:Nat):FS:=mkF 40 [(1,iL n p),(2,.sl 1 0 N),(3,.ptr 0 0 0),(7,i6 n),(8,i6 k)]
noncomputable def pzF2 (Y:Yd) (p:Nat→Int) (n N k:Nat):FS:=mkF 40 [(1,iL n p),(2,.sl 1 0 N),(3,.ptr 0 0 0),(7,i6 n),(8,i6 k),(30,Y.sv),(36,.sl 2 0 (n+1)),(37,.sl 1 0 N)]
noncomputable def pzC (M:Nat):OCtr:=⟨30,2,1,fun j=>match j with
 | 1=>some 1
 | _=>none,fun args N h k=>match args with
 | [y,.lst 1 n b,.sl 0 0 x]=>∃ (Y:Yd) (O:List (Nat→Int)) (p:Nat→Int),(y=Y.sv∧x=N∧(∀ i,i<n→b i=i6 (p i))∧N=O.length∧(∀ i,i<N→h i=rowI Y.m O i)∧n≤Y.m∧Y.m - n≤M∧okYd Y∧(O ++ plS Y.sti Y.m (Y.m - n) p).length≤1000000)∧k (O ++ plS Y.sti Y.m (Y.m - n) p).length (rowI Y.m (O ++ plS Y.sti Y.m (Y.m - n) p))
 | _=>False⟩
noncomputable def pzL (Y:Yd) (d:Nat) (O:List (Nat→Int)) (p:Nat→Int):Nat→Option HSpec :=
 twoL 0 { toLSpec:={ σ:=Nat,inv:=pzI Y.sti Y.m d,μ:=fun k=>((Y.sti (Y.m - (d+1))).most+1).toNat - k,nr:=0,ms:=pzM,t:=fun k=>pzF p (Y.m - (d+1)) (O ++ plU Y.sti Y.m d p k).length k,X:=fun k=>mkX [vr 3 Y.sv,rw' 1 (O ++ plU Y.sti Y.m d p k).length (rowI Y.m (O ++ plU Y.sti Y.m d p k))],rd:=fun _ _ k=>∃ z,k z,rdOK:=fun _ _ _ h=>h } } <|
 oneL 1007 { toLSpec:={ σ:=Nat,inv:=fun _=>True,μ:=fun k=>0,nr:=0,ms:=pzN,t:=fun k=>pzF2 Y p (Y.m - (d+1)) (O ++ plU Y.sti Y.m d p k).length k,X:=fun k=>mkX [vr 3 Y.sv,rw' 1 (O ++ plU Y.sti Y.m d p k).length (rowI Y.m (O ++ plU Y.sti Y.m d p k)),rw' 1 (Y.m - (d+1)+1) fun q=>i6 (upN p (Y.m - (d+1)) k q)],rd:=fun _ _ k=>∃ z,k z,rdOK:=fun _ _ _ h=>h },D:=[(0,0)],E:=[(3,2),(6,2)],par:=some ⟨fun t _ k=>(match sget 40 t 8 with | .int _ z=>k z.toNat | _=>False),fun t X k h=>rdI t X k h⟩,kinv:=fun y z=>z=y }
noncomputable def pz0G (Y:Yd) (O:List (Nat→Int)) (p:Nat→Int):Prop:=funO Try.prog (ctrs []) noX (ictrs []) (octrs []) noL noL 30 [Y.sv,iL Y.m p,.sl 0 0 O.length] 1 O.length (rowI Y.m O) (O ++ [p]).length (rowI Y.m (O ++ [p]))
noncomputable def pzG (M:Nat) (Y:Yd) (d:Nat) (O:List (Nat→Int)) (p:Nat→Int):Prop:=funO Try.prog (ctrs []) noX (ictrs []) (octrs [pzC M]) (pzL Y d O p) noL 30 [Y.sv,iL (Y.m - (d+1)) p,.sl 0 0 O.length] 1 O.length (rowI Y.m O) (O ++ plS Y.sti Y.m (d+1) p).length (rowI Y.m (O ++ plS Y.sti Y.m (d+1) p))
end Go.Proofs.Ytbedomoilakcaaa

set_option maxRecDepth 100000
namespace Go.Proofs.Ytbedomoilakcaaa
open Go Go.Lg
theorem pz0G_vc (Y:Yd) (O:List (Nat→Int)) (p:Nat→Int):pz0G Y O p =
((0:Nat)<(1:Nat)∧(rE (↑Y.3:Int)→True∧(∀ (i:Nat),i<(1:Nat)→rE true)∧rE (0:Nat)∧rE O.length∧O.length+(1:Nat)≤(4611686018427387904:Nat)∧(O.length+(1:Nat))*(24:Nat)≤(140737488355328:Nat)∧O.length+(1:Nat)≤(4611686018427387904:Nat)∧(∀ (i:Nat),i<(O ++ [p]).length→∀ (i:Nat),i<Y.3→True)∧rE (0:Nat)∧O.length+(1:Nat)=(O ++ [p]).length∧(rowsK (Try.prog.cellsOf (22:Nat)) (O.length+(1:Nat)) (appP O.length (1:Nat) (rowO (1:Nat) O.length (rowI Y.m O)).f (chainF [SV.lst (1:Nat) Y.3 fun i=>i6 (p i)]))).f=appP O.length (1:Nat) (rowO (1:Nat) O.length (rowI Y.m O)).f (chainF [SV.lst (1:Nat) Y.3 fun i=>i6 (p i)])∧rE (O.length+(1:Nat))∧O.length+(1:Nat)≤(4611686018427387904:Nat)∧(O ++ [p]).length=O.length+(1:Nat)∧(∀ (i:Nat),i<O.length→rE (1:Nat)∧Y.3=Y.3∧(∀
(i_1:Nat),i_1<Y.3→(i6 (O.getD i zF i_1)).den=(i6 ((O ++ [p]).getD i zF i_1)).den∧True)∧True)∧(∀ (i:Nat),i<(1:Nat)→rE (1:Nat)∧Y.3=Y.3∧(∀ (i_1:Nat),i_1<Y.3→(i6 (p i_1)).den=(i6 ((O ++ [p]).getD (O.length+i) zF i_1)).den∧True)∧True)∧True)∧(¬(↑Y.3:Int)=(↑Y.3:Int)→False)):=by kernel_rfl
def pzG0 (Y:Yd):Prop:=(∀ (i:Nat),i<Y.3→rE ((Y.sti i).sv.den)∧True∧True∧(∀ (i_1:Nat),i_1<(Y.sti i).3→True∧True∧True)∧True∧True∧True)
theorem pzG_vc (M:Nat) (Y:Yd) (d:Nat) (O:List (Nat→Int)) (p:Nat→Int):pzG M Y d O p =
((0:Nat)<(1:Nat)∧((↑(Y.3 - (d+(1:Nat))):Int)=(↑Y.3:Int)→True∧(∀ (i:Nat),i<(1:Nat)→rE true)∧rE (0:Nat)∧rE O.length∧O.length+(1:Nat)≤(4611686018427387904:Nat)∧(O.length+(1:Nat))*(24:Nat)≤(140737488355328:Nat)∧O.length+(1:Nat)≤(4611686018427387904:Nat)∧(∀ (i:Nat),i<(O ++ plS Y.sti Y.m (d+(1:Nat)) p).length→∀ (i:Nat),i<Y.3→True)∧rE (0:Nat)∧O.length+(1:Nat)=(O ++ plS Y.sti Y.m (d+(1:Nat)) p).length∧(rowsK (Try.prog.cellsOf (22:Nat)) (O.length+(1:Nat)) (appP O.length (1:Nat) (rowO (1:Nat) O.length (rowI Y.m O)).f (chainF [SV.lst (1:Nat) (Y.3 - (d+(1:Nat))) fun i=>i6 (p i)]))).f=appP O.length (1:Nat) (rowO (1:Nat) O.length (rowI Y.m O)).f (chainF [SV.lst (1:Nat) (Y.3 - (d+(1:Nat))) fun i=>i6 (p i)])∧rE (O.length+(1:Nat))∧O.length+(1:Nat) ≤
(4611686018427387904:Nat)∧(O ++ plS Y.sti Y.m (d+(1:Nat)) p).length=O.length+(1:Nat)∧(∀ (i:Nat),i<O.length→rE (1:Nat)∧Y.3=Y.3∧(∀ (i_1:Nat),i_1<Y.3→(i6 (O.getD i zF i_1)).den=(i6 ((O ++ plS Y.sti Y.m (d+(1:Nat)) p).getD i zF i_1)).den∧True)∧True)∧(∀ (i:Nat),i<(1:Nat)→rE (1:Nat)∧Y.3 - (d+(1:Nat))=Y.3∧(∀ (i_1:Nat),i_1<Y.3→(i6 (p i_1)).den=(i6 ((O ++ plS Y.sti Y.m (d+(1:Nat)) p).getD (O.length+i) zF i_1)).den∧True)∧True)∧True)∧(¬(↑(Y.3 - (d+(1:Nat))):Int)=(↑Y.3:Int)→(∃ (z:Nat),pzI Y.sti Y.m d z∧rE (Y.3 - (d+(1:Nat)))∧(∀ (i:Nat),i<Y.3 - (d+(1:Nat))→rE ((i6 (p i)).den)∧True)∧rE (0:Nat)∧O.length=(O ++ plU Y.sti Y.m d p z).length∧rE (0:Nat)∧rE (0:Nat)∧rE (↑(Y.3 - (d+(1:Nat))):Int)∧(0:Int)=(↑z:Int)∧Y.1=Y.1∧(∀ (i:Nat),i<Y.1 →
rE ((i6 (Y.st i)).den)∧True)∧Y.3=Y.3∧(pzG0 Y)∧Y.5=Y.5∧(∀ (i:Nat),i<Y.5→rE ((Y.sal i).sv.den)∧True∧True∧True∧True)∧(O ++ plU Y.sti Y.m d p z).length=O.length∧(∀ (i:Nat),i<(O ++ plU Y.sti Y.m d p z).length→rE (1:Nat)∧Y.3=Y.3∧(∀ (i_1:Nat),i_1<Y.3→(i6 (O.getD i zF i_1)).den=(i6 ((O ++ plU Y.sti Y.m d p z).getD i zF i_1)).den∧True)∧True)∧True)∧∀ (z:Nat),pzI Y.sti Y.m d z→(0:Nat)<(1:Nat)∧(0:Int)≤(↑(Y.3 - (d+(1:Nat))):Int)∧(↑(Y.3 - (d+(1:Nat))):Int)<(↑Y.3:Int)∧((↑z:Int)≤(Y.sti (↑(Y.m - (d+(1:Nat))):Int).toNat).6→(True∧True∧(0:Nat)<(1:Nat)∧True∧True∧True∧True∧True∧True∧True∧True∧True∧(True∧True∧True∧True∧(∀ (i:Nat),i<Y.3 - (d+(1:Nat))→rE true)∧rE (0:Nat)∧rE (0:Nat)∧(∀ (i:Nat),rE true)∧((0:Nat)+(Y.3 - (d+(1 :
Nat))))*(8:Nat)≤(140737488355328:Nat)∧(0:Nat)+(Y.3 - (d+(1:Nat)))≤(4611686018427387904:Nat)∧True∧True∧(∀ (i:Nat),i<(1:Nat)→rE true)∧rE (0:Nat)∧rE ((0:Nat)+(Y.3 - (d+(1:Nat))))∧(∀ (i:Nat),rE true)∧((0:Nat)+(Y.3 - (d+(1:Nat)))+(1:Nat))*(8:Nat)≤(140737488355328:Nat)∧(0:Nat)+(Y.3 - (d+(1:Nat)))+(1:Nat)≤(4611686018427387904:Nat)∧∃ (z_1:Nat),(True∧z_1=(↑z:Int).toNat)∧rE (Y.3 - (d+(1:Nat)))∧(∀ (i:Nat),i<Y.3 - (d+(1:Nat))→rE ((i6 (p i)).den)∧True)∧rE (0:Nat)∧(O ++ plU Y.sti Y.m d p z).length=(O ++ plU Y.sti Y.m d p z_1).length∧rE (0:Nat)∧rE (0:Nat)∧rE (↑(Y.3 - (d+(1:Nat))):Int)∧(↑z:Int)=(↑z_1:Int)∧Y.1=Y.1∧(∀ (i:Nat),i<Y.1→rE ((i6 (Y.st i)).den)∧True)∧Y.3=Y.3∧(pzG0 Y)∧Y.5=Y.5∧(∀ (i:Nat),i<Y.5→rE ((Y.sal
i).sv.den)∧True∧True∧True∧True)∧rE (0:Nat)∧(0:Nat)+(Y.3 - (d+(1:Nat)))+(1:Nat)=Y.3 - (d+(1:Nat))+(1:Nat)∧rE (0:Nat)∧(O ++ plU Y.sti Y.m d p z).length=(O ++ plU Y.sti Y.m d p z_1).length∧Y.1=Y.1∧(∀ (i:Nat),i<Y.1→rE ((i6 (Y.st i)).den)∧True)∧Y.3=Y.3∧(pzG0 Y)∧Y.5=Y.5∧(∀ (i:Nat),i<Y.5→rE ((Y.sal i).sv.den)∧True∧True∧True∧True)∧(O ++ plU Y.sti Y.m d p z_1).length=(O ++ plU Y.sti Y.m d p z).length∧(∀ (i:Nat),i<(O ++ plU Y.sti Y.m d p z_1).length→rE (1:Nat)∧Y.3=Y.3∧(∀ (i_1:Nat),i_1<Y.3→(i6 ((O ++ plU Y.sti Y.m d p z).getD i zF i_1)).den=(i6 ((O ++ plU Y.sti Y.m d p z_1).getD i zF i_1)).den∧True)∧True)∧Y.3 - (d+(1:Nat))+(1:Nat)=(0:Nat)+(Y.3 - (d+(1:Nat)))+(1:Nat)∧(∀ (i:Nat),i<Y.3 - (d+(1:Nat))+(1:Nat)→rE (1:Nat)∧(if i<(0:Nat) +
(Y.3 - (d+(1:Nat))) then if i<(0:Nat) then (0:Int) else p (i - (0:Nat)) else (↑z:Int))=upN p (Y.3 - (d+(1:Nat))) (↑z_1:Int) i∧True)∧True)∧True)∧∀ (z_1:Nat),True∧z_1=(↑z:Int).toNat→rE (0:Nat)∧rE ((O ++ plU Y.sti Y.m d p z_1).length)∧(∀ (i:Nat),i<(O ++ plU Y.sti Y.m d p z_1).length→∀ (i:Nat),i<Y.3→True)∧(∀ (i:Nat),i<Y.1→True)∧(∀ (i:Nat),i<Y.3→True∧True∧(∀ (i_1:Nat),i_1<(Y.sti i).3→True∧True∧True)∧True∧True∧True)∧(∀ (i:Nat),i<Y.5→True∧True∧True∧True)∧(0:Nat)+(Y.3 - (d+(1:Nat))+(1:Nat))≤Y.3 - (d+(1:Nat))+(1:Nat)∧(∀ (i:Nat),i<Y.3 - (d+(1:Nat))+(1:Nat)→rE (1:Nat)∧True)∧∃ Y_1 O_1 p_1,(nilV ((pzC M).fn.ns (0:Nat)) (SV.agg [SV.lst (1:Nat) Y.g fun i=>i6 (Y.st i),SV.lst (5:Nat) Y.m fun i=>(Y.sti i).sv,SV.lst (3:Nat) Y.q fun
i=>(Y.sal i).sv])=Y_1.sv∧rE ((O ++ plU Y.sti Y.m d p z_1).length)∧(∀ (i:Nat),i<Y.3 - (d+(1:Nat))+(1:Nat)→i6 (upN p (Y.m - (d+(1:Nat))) (↑z_1:Int) (i+(0:Nat)))=i6 (p_1 i))∧(O ++ plU Y.sti Y.m d p z_1).length=O_1.length∧(∀ (i:Nat),i<(O ++ plU Y.sti Y.m d p z_1).length→rowI Y.m (O ++ plU Y.sti Y.m d p z_1) i=rowI Y_1.m O_1 i)∧Y.3 - (d+(1:Nat))+(1:Nat)≤Y_1.3∧Y_1.3 - (Y.3 - (d+(1:Nat))+(1:Nat))≤M∧okYd Y_1∧(O_1 ++ plS Y_1.sti Y_1.m (Y_1.m - (Y.m - (d+(1:Nat))+(1:Nat))) p_1).length≤(1000000:Nat))∧rI ((↑z_1:Int)+(1:Int))∧∃ (z_2:Nat),pzI Y.sti Y.m d z_2∧((Y.sti (Y.m - (d+(1:Nat)))).6+(1:Int)).toNat - z_2<((Y.sti (Y.m - (d+(1:Nat)))).6+(1:Int)).toNat - z∧rE (Y.3 - (d+(1:Nat)))∧(∀ (i:Nat),i<Y.3 - (d+(1:Nat))→rE ((i6 (p i)).den)∧True)∧rE (0:Nat)∧(O_1
++ plS Y_1.sti Y_1.m (Y_1.m - (Y.m - (d+(1:Nat))+(1:Nat))) p_1).length=(O ++ plU Y.sti Y.m d p z_2).length∧rE (0:Nat)∧rE (0:Nat)∧rE (↑(Y.3 - (d+(1:Nat))):Int)∧(↑z_1:Int)+(1:Int)=(↑z_2:Int)∧Y.1=Y.1∧(∀ (i:Nat),i<Y.1→rE ((i6 (Y.st i)).den)∧True)∧Y.3=Y.3∧(pzG0 Y)∧Y.5=Y.5∧(∀ (i:Nat),i<Y.5→rE ((Y.sal i).sv.den)∧True∧True∧True∧True)∧(O ++ plU Y.sti Y.m d p z_2).length=(O_1 ++ plS Y_1.sti Y_1.m (Y_1.m - (Y.m - (d+(1:Nat))+(1:Nat))) p_1).length∧(∀ (i:Nat),i<(O ++ plU Y.sti Y.m d p z_2).length→rE (1:Nat)∧Y_1.3=Y.3∧(∀ (i_1:Nat),i_1<Y.3→(i6 ((O_1 ++ plS Y_1.sti Y_1.m (Y_1.m - (Y.m - (d+(1:Nat))+(1:Nat))) p_1).getD i zF i_1)).den=(i6 ((O ++ plU Y.sti Y.m d p z_2).getD i zF i_1)).den∧True)∧True)∧True)∧(¬(↑z:Int)≤(Y.sti (↑(Y.m - (d+(1:Nat))):Int).toNat).6→(∀
(i:Nat),i<(O ++ plS Y.sti Y.m (d+(1:Nat)) p).length→∀ (i:Nat),i<Y.3→True)∧rE (0:Nat)∧(O ++ plU Y.sti Y.m d p z).length=(O ++ plS Y.sti Y.m (d+(1:Nat)) p).length∧(O ++ plS Y.sti Y.m (d+(1:Nat)) p).length=(O ++ plU Y.sti Y.m d p z).length∧(∀ (i:Nat),i<(O ++ plS Y.sti Y.m (d+(1:Nat)) p).length→rE (1:Nat)∧Y.3=Y.3∧(∀ (i_1:Nat),i_1<Y.3→(i6 ((O ++ plU Y.sti Y.m d p z).getD i zF i_1)).den=(i6 ((O ++ plS Y.sti Y.m (d+(1:Nat)) p).getD i zF i_1)).den∧True)∧True)∧True))):=by kernel_rfl
end Go.Proofs.Ytbedomoilakcaaa

set_option maxRecDepth 100000
namespace Go.Proofs.Ytbedomoilakcaaa
open Go Go.Lg
attribute [local irreducible] funS bodyH
theorem pu_succ {f:Nat→Sti} {m d:Nat} {p:Nat→Int} (k:Nat):plU f m d p (k+1)=plU f m d p k ++ plS f m d (upN p (m - (d+1)) k):=by
 unfold plU
 rw [List.range_succ,List.flatMap_append]
 simp
theorem pu_le {f:Nat→Sti} {m d:Nat} {p:Nat→Int} {k l:Nat} (h:k≤l):(plU f m d p k).length≤(plU f m d p l).length:=by
 induction l with
 | zero =>
  have:k=0:=by omega
  subst this; exact Nat.le_refl _
 | succ l ih =>
  by_cases e:k=l+1
  ·subst e; exact Nat.le_refl _
  ·rw [pu_succ,List.length_append]
   have:=ih (by omega)
   omega
theorem pz0_true {Y:Yd} {O:List (Nat→Int)} {p:Nat→Int} (hl:(O ++ [p]).length≤1000000):pz0G Y O p:=by
 rw [pz0G_vc]
 have e1:(O ++ [p]).length=O.length+1:=by simp
 rw [e1] at hl
 simp only [rI,rE,tt3,tt4,tt5,tt13,tt14,rI,rE,tt3,tt4,tt5,tt13,tt14,and_true,true_and,Nat.zero_lt_one,and_self,implies_true,Int.toNat_natCast,Nat.zero_add,Nat.add_zero,Nat.one_mul,Nat.mul_one,Classical.not_not,iff_self,Bool.false_eq_true,imp_false,and_imp,true_implies,forall_const,not_true]
 refine ⟨⟨by omega,by omega,by omega,e1.symm,rfl,by omega,e1,fun i hi j hj=>?_,fun i hi j hj=>?_⟩,id⟩
 ·simp [List.getD,List.getElem?_append_left hi]
 ·have:i=0:=by omega
  subst this
  simp [List.getD]
theorem pzG_true {M:Nat} {Y:Yd} {d:Nat} {O:List (Nat→Int)} {p:Nat→Int} (hY:okYd Y) (hd:d+1≤Y.m) (hM:d≤M) (hl:(O ++ plS Y.sti Y.m (d+1) p).length≤1000000):pzG M Y d O p:=by
 rw [pzG_vc]
 simp only [pzG0,rI,rE,tt3,tt4,tt5,tt13,tt14,rI,rE,tt3,tt4,tt5,tt13,tt14,and_true,true_and,Nat.zero_lt_one,and_self,implies_true,Int.toNat_natCast,Nat.zero_add,Nat.add_zero,Nat.one_mul,Nat.mul_one,Classical.not_not,iff_self,Bool.false_eq_true,imp_false,and_imp,true_implies,forall_const]
 have hm:=hY.s.a
 have hmost:=(hY.s.b (Y.m - (d+1)) (by omega)).2
 have m0:=hmost.m0
 have m1:=hmost.m1
 have ed:Y.m - (Y.m - (d+1)+1)=d:=by omega
 have eS:plS Y.sti Y.m (d+1) p=plU Y.sti Y.m d p ((Y.sti (Y.m - (d+1))).most+1).toNat:=rfl
 rw [eS] at hl ⊢
 rw [List.length_append] at hl
 refine ⟨fun h=>by omega,fun _=>⟨⟨0,⟨by omega⟩,by simp [plU],rfl,by simp [plU],fun i hi j hj=>by simp [plU]⟩,fun z hz=>⟨by omega,by omega,fun hle=>⟨⟨by omega,by omega,by omega,by omega,z,rfl,rfl,rfl,rfl,rfl,fun i hi j hj=>rfl,fun i hi=>?_⟩,?_⟩,fun hgt=>?_⟩⟩⟩
 ·unfold upN
  by_cases h:i<Y.m - (d+1)
  ·rw [if_pos h,if_pos h,if_neg (by omega)]; rfl
  ·rw [if_neg h,if_neg h]
 ·rintro z1 rfl
  have hlen:=pu_le (f:=Y.sti) (m:=Y.m) (d:=d) (p:=p) (k:=z1+1) (l:=((Y.sti (Y.m - (d+1))).most+1).toNat) (by omega)
  have e1:O ++ plU Y.sti Y.m d p z1 ++ plS Y.sti Y.m d (upN p (Y.m - (d+1)) z1)=O ++ plU Y.sti Y.m d p (z1+1):=by rw [pu_succ,List.append_assoc]
  refine ⟨Nat.le_refl _,Y,O ++ plU Y.sti Y.m d p z1,upN p (Y.m - (d+1)) z1,⟨rfl,fun i hi=>rfl,rfl,fun i hi=>rfl,by omega,by omega,hY,?_⟩,by omega,z1+1,⟨by omega⟩,by omega,?_,by omega,?_,?_⟩
  ·rw [ed,e1,List.length_append]; omega
  ·rw [ed,e1]
  ·rw [ed,e1]
  ·rw [ed,e1]; exact fun i hi=>⟨rfl,fun j hj=>rfl⟩
 ·have hz':=hz.a
  have:z=((Y.sti (Y.m - (d+1))).most+1).toNat:=by omega
  subst this
  exact ⟨rfl,rfl,fun i hi j hj=>rfl⟩
theorem pz_den {b:Nat→SV} {p:Nat→Int} {n:Nat} (h:∀ i,i<n→b i=i6 (p i)):(SV.lst 1 n b).den=(iL n p).den:=by
 simp only [iL,SV.den]; congr 1
 exact List.map_congr_left fun i hi=>by rw [h i (List.mem_range.1 hi)]; rfl
theorem pz_row {sz N:Nat} {f g:Nat→SV} (h:∀ i,i<N→f i=g i):denR (some (rowO sz N f))=denR (some (rowO sz N g)):=by
 have e:(rowO sz N f).els=(rowO sz N g).els:=List.map_congr_left fun i hi=>by
  show (f i).den=(g i).den
  rw [h i (List.mem_range.1 hi)]
 show some (rowO sz N f).den=some (rowO sz N g).den
 rw [rowO_den,rowO_den,e]
theorem pz_step {M:Nat} (hox:SoundO Try.prog (octrs [pzC M])) {args:List SV} {N:Nat} {h:Nat→SV} {k:Nat→(Nat→SV)→Prop} (hk:(pzC (M+1)).fn.c args N h k):∃ N' h',k N' h' ∧
  DoesO Try.prog 30 (SV.denL args) [denR (some (rowO 1 N h))] fun v ρ'=>∃ j n1 h1,v=.sl j 0 n1∧ρ'[j]?=some (denR (some (rowO 1 n1 h1)))∧(∀ i,i<n1→pureS (h1 i))∧n1=N'∧h1=h':=by
 simp only [pzC] at hk
 split at hk
 ·rename_i y n b x
  obtain ⟨Y,O,p,⟨rfl,rfl,hb,rfl,hh,hn,hM,hY,hl⟩,hk⟩:=hk
  refine ⟨_,_,hk,?_⟩
  have ea:SV.denL [Y.sv,SV.lst 1 n b,SV.sl 0 0 O.length]=SV.denL [Y.sv,iL n p,SV.sl 0 0 O.length]:=by simp only [SV.denL,pz_den hb]
  rw [ea,pz_row hh]
  by_cases e:n=Y.m
  ·subst e
   rw [Nat.sub_self] at hl ⊢
   exact funO_ok nilS_cs (fun Γ γ=>noX_sound) nilS_ic (octrs_sound (l:=[]) (by simp)) mixed (pz0_true hl)
  ·obtain ⟨d,hd⟩:∃ d,Y.m - n=d+1:=⟨Y.m - n - 1,by omega⟩
   have en:n=Y.m - (d+1):=by omega
   rw [hd] at hl ⊢
   subst en
   exact funO_ok nilS_cs (fun Γ γ=>noX_sound) nilS_ic hox mixed (pzG_true hY (by omega) (by omega) hl)
 ·exact hk.elim
theorem pz_ok:∀ M,(pzC M).Ok Try.prog
 | 0=>⟨by kernel_rfl,fun args N h k hk=>by
  simp only [pzC] at hk
  split at hk
  ·rename_i y n b x
   obtain ⟨Y,O,p,⟨rfl,rfl,hb,rfl,hh,hn,hM,hY,hl⟩,hk⟩:=hk
   refine ⟨_,_,hk,?_⟩
   have ea:SV.denL [Y.sv,SV.lst 1 n b,SV.sl 0 0 O.length]=SV.denL [Y.sv,iL n p,SV.sl 0 0 O.length]:=by simp only [SV.denL,pz_den hb]
   show DoesO Try.prog 30 _ [denR (some (rowO 1 O.length h))] _
   rw [ea,pz_row hh]
   have e:n=Y.m:=by omega
   subst e
   rw [Nat.sub_self] at hl ⊢
   exact funO_ok nilS_cs (fun Γ γ=>noX_sound) nilS_ic (octrs_sound (l:=[]) (by simp)) mixed (pz0_true hl)
  ·exact hk.elim⟩
 | M+1=>⟨by kernel_rfl,fun args N h k hk=>pz_step (octrs_sound (by
   intro x hx
   simp at hx
   subst hx
   exact pz_ok M)) hk⟩
end Go.Proofs.Ytbedomoilakcaaa

set_option maxRecDepth 100000
namespace Go.Proofs.Ytbedomoilakcaaa
open Go Go.Lg
attribute [local irreducible] funS bodyH
noncomputable def alQ (Y:Yd):List (Nat→Int):=plS Y.sti Y.m Y.m zF
structure Rb where
 n:Nat
 f:Nat→Int
 v:Int
 w:Prop
def isBt (Y:Yd) (b:Rb) (q:Nat→Int):Prop:=erP Y Y.m q=0∧(¬ b.w∨b.v<inI Y Y.m q)
open Classical in
noncomputable def rbA (Y:Yd):Nat→Rb
 | 0=>⟨0,zF,0,False⟩
 | i+1=>if isBt Y (rbA Y i) ((alQ Y).getD i zF) then ⟨Y.m,(alQ Y).getD i zF,inI Y Y.m ((alQ Y).getD i zF),True⟩ else rbA Y i
noncomputable def rpM:FS→XS→Ms:=fun t X=>match sget 52 t 1,sget 52 t 8 with
 | .ptr a _ _,.sl b _ _=>[some a,some b]
 | _,_=>[]
structure rpI (Y:Yd) (i:Nat):Prop where
 a:i≤(alQ Y).length
noncomputable def rpH (Y:Yd):HSpec :=
 { toLSpec:={ σ:=Nat,inv:=rpI Y,μ:=fun i=>(alQ Y).length - i,nr:=0,ms:=rpM,t:=fun i=>mkF 52 [(1,.ptr 0 0 0),(5,iL (rbA Y i).n (rbA Y i).f),(6,i6 (rbA Y i).v),(7,.dec (rbA Y i).w (Classical.propDecidable _)),(8,.sl 1 0 (alQ Y).length),(9,i6 i)],X:=fun i=>mkX [vr 3 Y.sv,rw' 1 (alQ Y).length (rowI Y.m (alQ Y))],rd:=fun _ _ k=>∃ z,k z,rdOK:=fun _ _ _ h=>h },fz:=true }
noncomputable def rpR (Y:Yd):SV:=.tup [iL (pnN Y) (pnF Y),i6 (pnI Y),i6 (pnE Y)]
noncomputable def rpG (Y:Yd):Prop:=funY Try.prog (ctrs [ydC 21,icC]) noX (ictrs []) (octrs [pzC 4]) (oneL 0 (rpH Y)) noL 12 [Y.sv] (rpR Y)
noncomputable def rpC:Ctr:=⟨12,fun args k=>match args with
 | [.agg [.lst 1 g st,.lst 5 m sti,.lst 3 q sal]]=>SV.agg [.lst 1 g st,.lst 5 m sti,.lst 3 q sal]=(ydOf g st m sti q sal).sv∧k (rpR (ydOf g st m sti q sal))
 | _=>False⟩
noncomputable def tpG (Y:Yd):Prop:=funH Try.prog (ctrsF [rpC] (ctrs [lgC,awC,pnC,agC 0 isC])) noX (ictrs []) noL noL 3 [Y.sv] (.bool true)
end Go.Proofs.Ytbedomoilakcaaa

set_option maxRecDepth 100000
namespace Go.Proofs.Ytbedomoilakcaaa
open Go Go.Lg
def rpG0 (Y:Yd):Prop:=(∀ (i:Nat),i<Y.3→rE ((Y.sti i).sv.den)∧True∧True∧(∀ (i_1:Nat),i_1<(Y.sti i).3→True∧True∧True)∧True∧True∧True)
def rpG1 (Y:Yd):Prop:=(∀ (i:Nat),i<(alQ Y).length→rE (1:Nat)∧Y.3=Y.3∧(∀ (i_1:Nat),i_1<Y.3→rE ((i6 ((alQ Y).getD i zF i_1)).den)∧True)∧True)
def rpG2 (Y:Yd):Prop:=(∀ (i:Nat),i<Y.5→rE ((Y.sal i).sv.den)∧True∧True∧True∧True)
theorem rpG_vc (Y:Yd):rpG Y =
((0:Nat)<(1:Nat)∧(∀ (i:Nat),i<Y.1→True)∧(∀ (i:Nat),i<Y.3→True∧True∧(∀ (i_1:Nat),i_1<(Y.sti i).3→True∧True∧True)∧True∧True∧True)∧(∀ (i:Nat),i<Y.5→True∧True∧True∧True)∧SV.agg [SV.lst (1:Nat) Y.g fun i=>i6 (Y.st i),SV.lst (5:Nat) Y.m fun i=>(Y.sti i).sv,SV.lst (3:Nat) Y.q fun i=>(Y.sal i).sv]=(ydOf Y.g (fun i=>i6 (Y.st i)) Y.m (fun i=>(Y.sti i).sv) Y.q fun i=>(Y.sal i).sv).sv∧(¬okYd (ydOf Y.g (fun i=>i6 (Y.st i)) Y.m (fun i=>(Y.sti i).sv) Y.q fun i=>(Y.sal i).sv)→(0:Nat)=pnN Y∧(0:Int)=pnI Y∧(1:Int)=pnE Y∧True)∧(¬¬okYd (ydOf Y.g (fun i=>i6 (Y.st i)) Y.m (fun i=>(Y.sti i).sv) Y.q fun i=>(Y.sal i).sv)→(0:Nat)<(1:Nat)∧(∀ (i:Nat),i<Y.1→True)∧(∀ (i:Nat),i<Y.3→True∧True∧(∀ (i_1:Nat),i_1<(Y.sti i).3→True∧True∧True)∧True∧True∧True) ∧
(∀ (i:Nat),i<Y.5→True∧True∧True∧True)∧∃ Y_1 O p,(nilV ((pzC (4:Nat)).fn.ns (0:Nat)) (SV.agg [SV.lst (1:Nat) Y.g fun i=>i6 (Y.st i),SV.lst (5:Nat) Y.m fun i=>(Y.sti i).sv,SV.lst (3:Nat) Y.q fun i=>(Y.sal i).sv])=Y_1.sv∧rE (0:Nat)∧(∀ (i:Nat),i<(0:Nat)→SV.any=i6 (p i))∧(0:Nat)=O.length∧(∀ (i:Nat),i<(0:Nat)→SV.any=rowI Y_1.m O i)∧(0:Nat)≤Y_1.3∧Y_1.3 - (0:Nat)≤(4:Nat)∧okYd Y_1∧(O ++ plS Y_1.sti Y_1.m (Y_1.m - (0:Nat)) p).length≤(1000000:Nat))∧(∃ (z:Nat),rpI Y z∧rE (0:Nat)∧rE (0:Nat)∧(0:Nat)=(rbA Y z).1∧(0:Int)=(rbA Y z).3∧(false=true↔(rbA Y z).4)∧rE (0:Nat)∧(O ++ plS Y_1.sti Y_1.m (Y_1.m - (0:Nat)) p).length=(alQ Y).length∧(0:Int)=(↑z:Int)∧Y.1=Y.1∧(∀ (i:Nat),i<Y.1→rE ((i6 (Y.st i)).den)∧True)∧Y.3=Y.3∧(rpG0 Y)∧Y.5=Y.5∧(rpG2
Y)∧(alQ Y).length=(O ++ plS Y_1.sti Y_1.m (Y_1.m - (0:Nat)) p).length∧(∀ (i:Nat),i<(alQ Y).length→rE (1:Nat)∧Y_1.3=Y.3∧(∀ (i_1:Nat),i_1<Y.3→(i6 ((O ++ plS Y_1.sti Y_1.m (Y_1.m - (0:Nat)) p).getD i zF i_1)).den=(i6 ((alQ Y).getD i zF i_1)).den∧True)∧True)∧True)∧∀ (z:Nat),rpI Y z→((↑z:Int)<(↑(alQ Y).length:Int)→(0:Nat)<(1:Nat)∧(0:Int)≤(↑z:Int)∧(↑z:Int)<(↑(alQ Y).length:Int)∧(0:Nat)+(↑z:Int).toNat<(alQ Y).length∧(∀ (i:Nat),i<Y.1→True)∧(∀ (i:Nat),i<Y.3→True∧True∧(∀ (i_1:Nat),i_1<(Y.sti i).3→True∧True∧True)∧True∧True∧True)∧(∀ (i:Nat),i<Y.5→True∧True∧True∧True)∧(∀ (i:Nat),i<Y.3→True)∧SV.agg [SV.lst (1:Nat) Y.g fun i=>i6 (Y.st i),SV.lst (5:Nat) Y.m fun i=>(Y.sti i).sv,SV.lst (3:Nat) Y.q fun i=>(Y.sal i).sv]=(ydOf Y.g (fun i =>
i6 (Y.st i)) Y.m (fun i=>(Y.sti i).sv) Y.q fun i=>(Y.sal i).sv).sv∧(SV.lst (1:Nat) Y.m fun q=>i6 ((alQ Y).getD ((0:Nat)+(↑z:Int).toNat) zF q))=iL Y.m (iOf fun q=>i6 ((alQ Y).getD ((0:Nat)+(↑z:Int).toNat) zF q))∧(erP (ydOf Y.g (fun i=>i6 (Y.st i)) Y.m (fun i=>(Y.sti i).sv) Y.q fun i=>(Y.sal i).sv) Y.3 (iOf fun q=>i6 ((alQ Y).getD ((0:Nat)+(↑z:Int).toNat) zF q))=(0:Int)→(¬(rbA Y z).4→(0:Int)≤(↑z:Int)∧(↑z:Int)<(↑(alQ Y).length:Int)∧(0:Nat)+(↑z:Int).toNat<(alQ Y).length∧rI ((↑z:Int)+(1:Int))∧∃ (z_1:Nat),rpI Y z_1∧(alQ Y).length - z_1<(alQ Y).length - z∧rE (0:Nat)∧rE (0:Nat)∧Y.3=(rbA Y z_1).1∧(∀ (i:Nat),i<(rbA Y z_1).1→(i6 ((alQ Y).getD ((0:Nat)+(↑z:Int).toNat) zF i)).den=(i6 ((rbA Y z_1).f i)).den∧True)∧inI (ydOf Y.g (fun i=>i6 (Y.st i)) Y.m (fun i=>(Y.sti i).sv)
Y.q fun i=>(Y.sal i).sv) Y.3 (iOf fun q=>i6 ((alQ Y).getD ((0:Nat)+(↑z:Int).toNat) zF q))=(rbA Y z_1).3∧(rE true↔(rbA Y z_1).4)∧rE (0:Nat)∧rE ((alQ Y).length)∧(↑z:Int)+(1:Int)=(↑z_1:Int)∧Y.1=Y.1∧(∀ (i:Nat),i<Y.1→rE ((i6 (Y.st i)).den)∧True)∧Y.3=Y.3∧(rpG0 Y)∧Y.5=Y.5∧(rpG2 Y)∧rE ((alQ Y).length)∧(rpG1 Y)∧True)∧(¬¬(rbA Y z).4→((rbA Y z).3<inI (ydOf Y.g (fun i=>i6 (Y.st i)) Y.m (fun i=>(Y.sti i).sv) Y.q fun i=>(Y.sal i).sv) Y.3 (iOf fun q=>i6 ((alQ Y).getD ((0:Nat)+(↑z:Int).toNat) zF q))→(0:Int)≤(↑z:Int)∧(↑z:Int)<(↑(alQ Y).length:Int)∧(0:Nat)+(↑z:Int).toNat<(alQ Y).length∧rI ((↑z:Int)+(1:Int))∧∃ (z_1:Nat),rpI Y z_1∧(alQ Y).length - z_1<(alQ Y).length - z∧rE (0:Nat)∧rE (0:Nat)∧Y.3=(rbA Y z_1).1∧(∀ (i:Nat),i<(rbA Y z_1).1→(i6 ((alQ Y).getD ((0
: Nat)+(↑z:Int).toNat) zF i)).den=(i6 ((rbA Y z_1).f i)).den∧True)∧inI (ydOf Y.g (fun i=>i6 (Y.st i)) Y.m (fun i=>(Y.sti i).sv) Y.q fun i=>(Y.sal i).sv) Y.3 (iOf fun q=>i6 ((alQ Y).getD ((0:Nat)+(↑z:Int).toNat) zF q))=(rbA Y z_1).3∧(rE true↔(rbA Y z_1).4)∧rE (0:Nat)∧rE ((alQ Y).length)∧(↑z:Int)+(1:Int)=(↑z_1:Int)∧Y.1=Y.1∧(∀ (i:Nat),i<Y.1→rE ((i6 (Y.st i)).den)∧True)∧Y.3=Y.3∧(rpG0 Y)∧Y.5=Y.5∧(rpG2 Y)∧rE ((alQ Y).length)∧(rpG1 Y)∧True)∧(¬(rbA Y z).3<inI (ydOf Y.g (fun i=>i6 (Y.st i)) Y.m (fun i=>(Y.sti i).sv) Y.q fun i=>(Y.sal i).sv) Y.3 (iOf fun q=>i6 ((alQ Y).getD ((0:Nat)+(↑z:Int).toNat) zF q))→rI ((↑z:Int)+(1:Int))∧∃ (z_1:Nat),rpI Y z_1∧(alQ Y).length - z_1<(alQ Y).length - z∧rE (0:Nat)∧rE (0:Nat)∧(rbA Y z).1=(rbA Y z_1).1∧(∀ (i:Nat),i<(rbA Y z_1).1 →
(i6 ((rbA Y z).f i)).den=(i6 ((rbA Y z_1).f i)).den∧True)∧(rbA Y z).3=(rbA Y z_1).3∧((rbA Y z).4↔(rbA Y z_1).4)∧rE (0:Nat)∧rE ((alQ Y).length)∧(↑z:Int)+(1:Int)=(↑z_1:Int)∧Y.1=Y.1∧(∀ (i:Nat),i<Y.1→rE ((i6 (Y.st i)).den)∧True)∧Y.3=Y.3∧(rpG0 Y)∧Y.5=Y.5∧(rpG2 Y)∧rE ((alQ Y).length)∧(rpG1 Y)∧True)))∧(¬erP (ydOf Y.g (fun i=>i6 (Y.st i)) Y.m (fun i=>(Y.sti i).sv) Y.q fun i=>(Y.sal i).sv) Y.3 (iOf fun q=>i6 ((alQ Y).getD ((0:Nat)+(↑z:Int).toNat) zF q))=(0:Int)→rI ((↑z:Int)+(1:Int))∧∃ (z_1:Nat),rpI Y z_1∧(alQ Y).length - z_1<(alQ Y).length - z∧rE (0:Nat)∧rE (0:Nat)∧(rbA Y z).1=(rbA Y z_1).1∧(∀ (i:Nat),i<(rbA Y z_1).1→(i6 ((rbA Y z).f i)).den=(i6 ((rbA Y z_1).f i)).den∧True)∧(rbA Y z).3=(rbA Y z_1).3∧((rbA Y z).4↔(rbA Y z_1).4)∧rE (0:Nat)∧rE ((alQ Y).length) ∧
(↑z:Int)+(1:Int)=(↑z_1:Int)∧Y.1=Y.1∧(∀ (i:Nat),i<Y.1→rE ((i6 (Y.st i)).den)∧True)∧Y.3=Y.3∧(rpG0 Y)∧Y.5=Y.5∧(rpG2 Y)∧rE ((alQ Y).length)∧(rpG1 Y)∧True))∧(¬(↑z:Int)<(↑(alQ Y).length:Int)→(rbA Y z).1=pnN Y∧(∀ (i:Nat),i<pnN Y→(i6 ((rbA Y z).f i)).den=(i6 (pnF Y i)).den∧True)∧(rbA Y z).3=pnI Y∧(0:Int)=pnE Y∧True))):=by kernel_rfl
theorem tpG_vc (Y:Yd):tpG Y =
((0:Nat)<(1:Nat)∧(∀ (i:Nat),i<Y.1→True)∧(∀ (i:Nat),i<Y.3→True∧True∧(∀ (i_1:Nat),i_1<(Y.sti i).3→True∧True∧True)∧True∧True∧True)∧(∀ (i:Nat),i<Y.5→True∧True∧True∧True)∧SV.agg [SV.lst (1:Nat) Y.g fun i=>i6 (Y.st i),SV.lst (5:Nat) Y.m fun i=>(Y.sti i).sv,SV.lst (3:Nat) Y.q fun i=>(Y.sal i).sv]=(ydOf Y.g (fun i=>i6 (Y.st i)) Y.m (fun i=>(Y.sti i).sv) Y.q fun i=>(Y.sal i).sv).sv∧(¬noLg (ydOf Y.g (fun i=>i6 (Y.st i)) Y.m (fun i=>(Y.sti i).sv) Y.q fun i=>(Y.sal i).sv) (1000:Int)→rE true∧True)∧(¬¬noLg (ydOf Y.g (fun i=>i6 (Y.st i)) Y.m (fun i=>(Y.sti i).sv) Y.q fun i=>(Y.sal i).sv) (1000:Int)→(0:Nat)<(1:Nat)∧(∀ (i:Nat),i<Y.1→True)∧(∀ (i:Nat),i<Y.3→True∧True∧(∀ (i_1:Nat),i_1<(Y.sti i).3→True∧True∧True)∧True∧True∧True)∧(∀ (i:Nat),i<Y.5 →
True∧True∧True∧True)∧SV.agg [SV.lst (1:Nat) Y.g fun i=>i6 (Y.st i),SV.lst (5:Nat) Y.m fun i=>(Y.sti i).sv,SV.lst (3:Nat) Y.q fun i=>(Y.sal i).sv]=(ydOf Y.g (fun i=>i6 (Y.st i)) Y.m (fun i=>(Y.sti i).sv) Y.q fun i=>(Y.sal i).sv).sv∧(0:Nat)<(1:Nat)∧(∀ (i:Nat),i<Y.1→True)∧(∀ (i:Nat),i<Y.3→True∧True∧(∀ (i_1:Nat),i_1<(Y.sti i).3→True∧True∧True)∧True∧True∧True)∧(∀ (i:Nat),i<Y.5→True∧True∧True∧True)∧SV.agg [SV.lst (1:Nat) Y.g fun i=>i6 (Y.st i),SV.lst (5:Nat) Y.m fun i=>(Y.sti i).sv,SV.lst (3:Nat) Y.q fun i=>(Y.sal i).sv]=(ydOf Y.g (fun i=>i6 (Y.st i)) Y.m (fun i=>(Y.sti i).sv) Y.q fun i=>(Y.sal i).sv).sv∧(∀ (i:Nat),i<pnN (ydOf Y.g (fun i=>i6 (Y.st i)) Y.m (fun i=>(Y.sti i).sv) Y.q fun i=>(Y.sal i).sv)→True∧True)∧(∀ (i:Nat),i<pnN (ydOf Y.g (fun i=>i6
(Y.st i)) Y.m (fun i=>(Y.sti i).sv) Y.q fun i=>(Y.sal i).sv)→True)∧(SV.lst (1:Nat) (pnN (ydOf Y.g (fun i=>i6 (Y.st i)) Y.m (fun i=>(Y.sti i).sv) Y.q fun i=>(Y.sal i).sv)) fun j=>agI (SV.agg [i6 (pnF (ydOf Y.g (fun i=>i6 (Y.st i)) Y.m (fun i=>(Y.sti i).sv) Y.q fun i=>(Y.sal i).sv) j)]))=iL (pnN (ydOf Y.g (fun i=>i6 (Y.st i)) Y.m (fun i=>(Y.sti i).sv) Y.q fun i=>(Y.sal i).sv)) (iOf fun j=>agI (SV.agg [i6 (pnF (ydOf Y.g (fun i=>i6 (Y.st i)) Y.m (fun i=>(Y.sti i).sv) Y.q fun i=>(Y.sal i).sv) j)]))∧(SV.lst (1:Nat) (pnN (ydOf Y.g (fun i=>i6 (Y.st i)) Y.m (fun i=>(Y.sti i).sv) Y.q fun i=>(Y.sal i).sv)) fun i=>i6 (pnF (ydOf Y.g (fun i=>i6 (Y.st i)) Y.m (fun i=>(Y.sti i).sv) Y.q fun i=>(Y.sal i).sv) i))=iL (pnN (ydOf Y.g (fun i=>i6 (Y.st i)) Y.m (fun i=>(Y.sti i).sv) Y.q fun i=>(Y.sal i).sv)) (iOf fun i=>i6 (pnF (ydOf Y.g (fun i
=> i6 (Y.st i)) Y.m (fun i=>(Y.sti i).sv) Y.q fun i=>(Y.sal i).sv) i))∧pnN (ydOf Y.g (fun i=>i6 (Y.st i)) Y.m (fun i=>(Y.sti i).sv) Y.q fun i=>(Y.sal i).sv)≤(1000:Nat)∧(eqN (pnN (ydOf Y.g (fun i=>i6 (Y.st i)) Y.m (fun i=>(Y.sti i).sv) Y.q fun i=>(Y.sal i).sv)) (iOf fun j=>agI (SV.agg [i6 (pnF (ydOf Y.g (fun i=>i6 (Y.st i)) Y.m (fun i=>(Y.sti i).sv) Y.q fun i=>(Y.sal i).sv) j)])) (pnN (ydOf Y.g (fun i=>i6 (Y.st i)) Y.m (fun i=>(Y.sti i).sv) Y.q fun i=>(Y.sal i).sv)) (iOf fun i=>i6 (pnF (ydOf Y.g (fun i=>i6 (Y.st i)) Y.m (fun i=>(Y.sti i).sv) Y.q fun i=>(Y.sal i).sv) i))→(rE (pnI (ydOf Y.g (fun i=>i6 (Y.st i)) Y.m (fun i=>(Y.sti i).sv) Y.q fun i=>(Y.sal i).sv))→(rE (pnE (ydOf Y.g (fun i=>i6 (Y.st i)) Y.m (fun i=>(Y.sti i).sv) Y.q fun i=>(Y.sal i).sv))→rE true∧True)∧(¬pnE (ydOf Y.g (fun i=>i6 (Y.st i)) Y.m (fun i =>
(Y.sti i).sv) Y.q fun i=>(Y.sal i).sv)=pnE (ydOf Y.g (fun i=>i6 (Y.st i)) Y.m (fun i=>(Y.sti i).sv) Y.q fun i=>(Y.sal i).sv)→false=true∧True))∧(¬pnI (ydOf Y.g (fun i=>i6 (Y.st i)) Y.m (fun i=>(Y.sti i).sv) Y.q fun i=>(Y.sal i).sv)=pnI (ydOf Y.g (fun i=>i6 (Y.st i)) Y.m (fun i=>(Y.sti i).sv) Y.q fun i=>(Y.sal i).sv)→false=true∧True))∧(¬eqN (pnN (ydOf Y.g (fun i=>i6 (Y.st i)) Y.m (fun i=>(Y.sti i).sv) Y.q fun i=>(Y.sal i).sv)) (iOf fun j=>agI (SV.agg [i6 (pnF (ydOf Y.g (fun i=>i6 (Y.st i)) Y.m (fun i=>(Y.sti i).sv) Y.q fun i=>(Y.sal i).sv) j)])) (pnN (ydOf Y.g (fun i=>i6 (Y.st i)) Y.m (fun i=>(Y.sti i).sv) Y.q fun i=>(Y.sal i).sv)) (iOf fun i=>i6 (pnF (ydOf Y.g (fun i=>i6 (Y.st i)) Y.m (fun i=>(Y.sti i).sv) Y.q fun i=>(Y.sal i).sv) i))→false=true∧True))):=by kernel_rfl
end Go.Proofs.Ytbedomoilakcaaa

set_option maxRecDepth 100000
namespace Go.Proofs.Ytbedomoilakcaaa
open Go Go.Lg
attribute [local irreducible] funS bodyH
theorem ps_mem {f:Nat→Sti} {m:Nat}:∀ (d:Nat) (p x:Nat→Int),d≤m→x ∈ plS f m d p→(∀ i,i<m - d→x i=p i)∧∀ i,m - d≤i→i<m→okNb (f i).most (x i)
 | 0,p,x,_,hx=>by
  simp only [plS,List.mem_singleton] at hx
  subst hx
  exact ⟨fun _ _=>rfl,fun i h1 h2=>by omega⟩
 | d+1,p,x,hd,hx=>by
  simp only [plS,List.mem_flatMap,List.mem_range] at hx
  obtain ⟨t,ht,hx⟩:=hx
  obtain ⟨h1,h2⟩:=ps_mem d _ x (by omega) hx
  refine ⟨fun i hi=>?_,fun i hi1 hi2=>?_⟩
  ·rw [h1 i (by omega)]
   unfold upN
   rw [if_pos hi]
  ·by_cases e:i=m - (d+1)
   ·subst e
    rw [h1 _ (by omega)]
    unfold upN
    rw [if_neg (by omega)]
    unfold okNb
    omega
   ·exact h2 i (by omega) hi2
theorem ps_of {f:Nat→Sti} {m:Nat} {q:Nat→Int}:∀ (d:Nat) (p:Nat→Int),d≤m→(∀ i,i<m - d→q i=p i)→(∀ i,m - d≤i→i<m→okNb (f i).most (q i))→∃ x,x ∈ plS f m d p∧∀ i,i<m→x i=q i
 | 0,p,_,h1,_=>⟨p,by simp [plS],fun i hi=>(h1 i (by omega)).symm⟩
 | d+1,p,hd,h1,h2=>by
  have b:=h2 (m - (d+1)) (by omega) (by omega)
  unfold okNb at b
  obtain ⟨x,hx,h3⟩:=ps_of (f:=f) (q:=q) d (upN p (m - (d+1)) (q (m - (d+1)))) (by omega) (fun i hi=>by
   unfold upN
   by_cases e:i<m - (d+1)
   ·rw [if_pos e]; exact h1 i e
   ·rw [if_neg e,show i=m - (d+1) by omega]) (fun i h3 h4=>h2 i (by omega) h4)
  refine ⟨x,?_,h3⟩
  simp only [plS,List.mem_flatMap,List.mem_range]
  exact ⟨(q (m - (d+1))).toNat,by omega,by rw [show ((q (m - (d+1))).toNat:Int)=q (m - (d+1)) by omega]; exact hx⟩
theorem ps_lex {f:Nat→Sti} {m:Nat}:∀ (d:Nat) (p:Nat→Int),d≤m→List.Pairwise (lexC m) (plS f m d p)
 | 0,p,_=>by simp [plS]
 | d+1,p,hd=>by
  simp only [plS]
  rw [List.pairwise_flatMap]
  refine ⟨fun t ht=>ps_lex d _ (by omega),?_⟩
  refine List.Pairwise.imp ?_ List.pairwise_lt_range
  intro t1 t2 ht x hx y hy
  obtain ⟨a1,_⟩:=ps_mem d _ x (by omega) hx
  obtain ⟨b1,_⟩:=ps_mem d _ y (by omega) hy
  refine ⟨m - (d+1),by omega,fun k hk=>?_,?_⟩
  ·rw [a1 k (by omega),b1 k (by omega)]
   unfold upN
   rw [if_pos hk,if_pos hk]
  ·rw [a1 _ (by omega),b1 _ (by omega)]
   unfold upN
   rw [if_neg (by omega),if_neg (by omega)]
   omega
theorem fm_len {α β:Type} {g:α→List β} {B:Nat}:∀ (l:List α),(∀ x ∈ l,(g x).length≤B)→(l.flatMap g).length≤l.length*B
 | [],_=>by simp
 | x :: l,h=>by
  have h1:=fm_len (g:=g) (B:=B) l fun y hy=>h y (by simp [hy])
  have h2:=h x (by simp)
  simp only [List.flatMap_cons,List.length_append,List.length_cons,Nat.succ_mul]
  omega
theorem ps_len {f:Nat→Sti} {m:Nat} (hm:∀ i,i<m→(f i).most≤8):∀ (d:Nat) (p:Nat→Int),d≤m→(plS f m d p).length≤9 ^ d
 | 0,p,_=>by simp [plS]
 | d+1,p,hd=>by
  simp only [plS]
  have h1:=fm_len (g:=fun (t:Nat)=>plS f m d (upN p (m - (d+1)) (t:Int))) (B:=9 ^ d) (List.range ((f (m - (d+1))).most+1).toNat) fun t _=>ps_len hm d _ (by omega)
  have h2:=hm (m - (d+1)) (by omega)
  rw [List.length_range] at h1
  have h3:((f (m - (d+1))).most+1).toNat*9 ^ d≤9*9 ^ d:=Nat.mul_le_mul_right _ (by omega)
  rw [Nat.pow_succ]
  omega
section
variable {Y:Yd} (h:okYd Y)
include h
theorem aq_len:(alQ Y).length≤6561:=by
 have h1:=ps_len (f:=Y.sti) (m:=Y.m) (fun i hi=>(h.s.b i hi).2.m1) Y.m zF (Nat.le_refl _)
 have h2:9 ^ Y.m≤9 ^ 4:=Nat.pow_le_pow_right (by omega) h.s.a
 show (plS Y.sti Y.m Y.m zF).length≤6561
 omega
omit h in
theorem aq_get {i:Nat} (hi:i<(alQ Y).length):(alQ Y).getD i zF ∈ plS Y.sti Y.m Y.m zF:=by
 show (alQ Y).getD i zF ∈ alQ Y
 simp only [List.getD,List.getElem?_eq_getElem hi,Option.getD_some]
 exact List.getElem_mem hi
omit h in
theorem aq_ok {i:Nat} (hi:i<(alQ Y).length):okPl Y.m Y.sti Y.m ((alQ Y).getD i zF):=⟨rfl,fun j hj=>(ps_mem Y.m _ _ (Nat.le_refl _) (aq_get hi)).2 j (by omega) hj⟩
omit h in
theorem aq_of {q:Nat→Int} (hq:okPl Y.m Y.sti Y.m q):∃ i,i<(alQ Y).length∧∀ j,j<Y.m→(alQ Y).getD i zF j=q j:=by
 obtain ⟨x,hx,h1⟩:=ps_of (f:=Y.sti) (m:=Y.m) (q:=q) Y.m zF (Nat.le_refl _) (fun i hi=>by omega) (fun i _ hi=>hq.h i hi)
 obtain ⟨i,hi,e⟩:=List.getElem_of_mem hx
 refine ⟨i,hi,fun j hj=>?_⟩
 have:(alQ Y).getD i zF=x:=by
  show (plS Y.sti Y.m Y.m zF).getD i zF=x
  simp [List.getD,List.getElem?_eq_getElem hi,e]
 rw [this]; exact h1 j hj
omit h in
theorem aq_lex {i j:Nat} (hij:i<j) (hj:j<(alQ Y).length):lexC Y.m ((alQ Y).getD i zF) ((alQ Y).getD j zF):=by
 have hp:List.Pairwise (lexC Y.m) (alQ Y):=ps_lex (f:=Y.sti) (m:=Y.m) Y.m zF (Nat.le_refl _)
 have:=List.pairwise_iff_getElem.1 hp i j (by omega) hj hij
 simp only [List.getD]
 rw [List.getElem?_eq_getElem (by omega),List.getElem?_eq_getElem hj]
 exact this
theorem er_of {q:Nat→Int} (hq:okPl Y.m Y.sti Y.m q):erP Y Y.m q=0↔canL Y q Y.m:=by
 unfold erP
 rw [if_pos h,if_pos hq]
 constructor
 ·intro e
  exact Classical.byContradiction fun hn=>by rw [if_neg hn] at e; omega
 ·intro hc
  rw [if_pos hc]
omit h in
theorem rb_inv (Y:Yd):∀ i,i≤(alQ Y).length→(¬ (rbA Y i).w∧rbA Y i=⟨0,zF,0,False⟩∧∀ j,j<i→erP Y Y.m ((alQ Y).getD j zF)≠0) ∨
  ((rbA Y i).w∧(rbA Y i).n=Y.m∧∃ j,j<i∧(rbA Y i).f=(alQ Y).getD j zF∧erP Y Y.m ((alQ Y).getD j zF)=0∧(rbA Y i).v=inI Y Y.m ((alQ Y).getD j zF)∧∀ k,k<i→erP Y Y.m ((alQ Y).getD k zF)=0→inI Y Y.m ((alQ Y).getD k zF)≤(rbA Y i).v∧(k<j→inI Y Y.m ((alQ Y).getD k zF)<(rbA Y i).v))
 | 0,_=>.inl ⟨fun h=>h,rfl,fun j hj=>by omega⟩
 | i+1,hi=>by
  have ih:=rb_inv Y i (by omega)
  by_cases hb:isBt Y (rbA Y i) ((alQ Y).getD i zF)
  ·have e:rbA Y (i+1)=⟨Y.m,(alQ Y).getD i zF,inI Y Y.m ((alQ Y).getD i zF),True⟩:=by rw [rbA,if_pos hb]
   rw [e]
   refine .inr ⟨trivial,rfl,i,by omega,rfl,hb.1,rfl,fun k hk he=>?_⟩
   by_cases ek:k=i
   ·subst ek; exact ⟨Int.le_refl _,fun h=>by omega⟩
   ·rcases ih with ⟨_,_,h3⟩ | ⟨h1,_,j,h2,h3,h4,h5,h6⟩
    ·exact absurd he (h3 k (by omega))
    ·have h7:=(h6 k (by omega) he).1
     rcases hb.2 with h8 | h8
     ·exact absurd h1 h8
     ·have:inI Y Y.m ((alQ Y).getD k zF)<inI Y Y.m ((alQ Y).getD i zF):=by omega
      exact ⟨by show _≤inI Y Y.m _; omega,fun _=>this⟩
  ·have e:rbA Y (i+1)=rbA Y i:=by rw [rbA,if_neg hb]
   rw [e]
   rcases ih with ⟨h1,h2,h3⟩ | ⟨h1,hn,j,h2,h3,h4,h5,h6⟩
   ·refine .inl ⟨h1,h2,fun j hj=>?_⟩
    by_cases ej:j=i
    ·subst ej; exact fun he=>hb ⟨he,.inl h1⟩
    ·exact h3 j (by omega)
   ·refine .inr ⟨h1,hn,j,by omega,h3,h4,h5,fun k hk he=>?_⟩
    by_cases ek:k=i
    ·subst ek
     refine ⟨?_,fun h=>by omega⟩
     have:¬ (rbA Y k).v<inI Y Y.m ((alQ Y).getD k zF):=fun hlt=>hb ⟨he,.inr hlt⟩
     omega
    ·exact h6 k (by omega) he
theorem rb_end:(rbA Y (alQ Y).length).n=Y.m∧(∀ i,i<Y.m→(rbA Y (alQ Y).length).f i=pnF Y i)∧(rbA Y (alQ Y).length).v=pnI Y:=by
 obtain ⟨b1,b2,b3,b4⟩:=best_spec h
 obtain ⟨i0,hi0,h0⟩:=aq_of b1
 have c0:canL Y ((alQ Y).getD i0 zF) Y.m:=(canL_congr h0).2 b2
 have e0:=(er_of h (aq_ok hi0)).2 c0
 have v0:inI Y Y.m ((alQ Y).getD i0 zF)=pnI Y:=by rw [inI_of e0,inO_congr h0,b3]
 rcases rb_inv Y (alQ Y).length (Nat.le_refl _) with ⟨_,_,h3⟩ | ⟨h1,hn,j,h2,h3,h4,h5,h6⟩
 ·exact absurd e0 (h3 i0 hi0)
 ·have hc:=(er_of h (aq_ok h2)).1 h4
  obtain ⟨u1,u2⟩:=b4 _ (aq_ok h2) hc
  rw [inI_of h4] at h5
  obtain ⟨w1,w2⟩:=h6 i0 hi0 e0
  have ev:(rbA Y (alQ Y).length).v=pnI Y:=by omega
  refine ⟨hn,?_,ev⟩
  have nl:=u2 (by omega)
  have ej:i0=j:=by
   rcases Nat.lt_trichotomy i0 j with e | e | e
   ·have:=w2 e; omega
   ·exact e
   ·obtain ⟨k,hk,hk1,hk2⟩:=aq_lex e hi0
    exact absurd ⟨k,hk,fun a ha=>by rw [hk1 a ha,h0 a (by omega)],by rw [← h0 k hk]; exact hk2⟩ nl
  subst ej
  intro i hi
  rw [h3,h0 i hi]
end
end Go.Proofs.Ytbedomoilakcaaa

set_option maxRecDepth 100000
namespace Go.Proofs.Ytbedomoilakcaaa
open Go Go.Lg
attribute [local irreducible] funS bodyH
theorem rb_yes {Y:Yd} {z:Nat} (h:isBt Y (rbA Y z) ((alQ Y).getD z zF)):rbA Y (z+1)=⟨Y.m,(alQ Y).getD z zF,inI Y Y.m ((alQ Y).getD z zF),True⟩:=by rw [rbA,if_pos h]
theorem rb_not {Y:Yd} {z:Nat} (h:¬ isBt Y (rbA Y z) ((alQ Y).getD z zF)):rbA Y (z+1)=rbA Y z:=by rw [rbA,if_neg h]
theorem rp_true (Y:Yd):rpG Y:=by
 rw [rpG_vc]
 simp only [rpG0,rpG1,rpG2,rI,rE,tt3,tt4,tt5,tt13,tt14,rI,rE,tt3,tt4,tt5,tt13,tt14,and_true,true_and,Nat.zero_lt_one,and_self,implies_true,Int.toNat_natCast,Nat.zero_add,Nat.add_zero,Nat.one_mul,Nat.mul_one,Classical.not_not,iff_self,Bool.false_eq_true,imp_false,and_imp,true_implies,forall_const,ft_fold,sti_fold,sal_fold,yd_fold,iOf_fold,stiOf_fold,salOf_fold,yv_fold]
 refine ⟨fun h=>⟨by unfold pnN; rw [if_neg h],by unfold pnI; rw [if_neg h],by unfold pnE; rw [if_neg h]⟩,fun h=>?_⟩
 have hm:=h.s.a
 have hlen:=aq_len h
 obtain ⟨e1,e2,e3⟩:=rb_end h
 refine ⟨Y,[],zF,⟨rfl,fun i hi=>by omega,rfl,fun i hi=>by omega,by omega,by omega,h,?_⟩,⟨0,⟨by omega⟩,rfl,rfl,⟨fun e=>e,fun e=>e⟩,rfl,rfl,rfl,fun i hi=>⟨rfl,fun j hj=>rfl⟩⟩,fun z hz=>⟨fun hl=>⟨by omega,hl,by omega,rfl,fun he=>⟨fun hw=>?_,fun hw=>⟨fun hv=>?_,fun hv=>?_⟩⟩,fun he=>?_⟩,fun hl=>?_⟩⟩
 ·show (alQ Y).length≤1000000
  omega
 ·have e:=rb_yes (Y:=Y) (z:=z) ⟨he,.inl hw⟩
  refine ⟨by omega,hl,by omega,by omega,z+1,⟨by omega⟩,by omega,?_⟩
  rw [e]
  exact ⟨rfl,fun i hi=>rfl,rfl,⟨fun _=>trivial,fun _=>trivial⟩,by omega⟩
 ·have e:=rb_yes (Y:=Y) (z:=z) ⟨he,.inr hv⟩
  refine ⟨by omega,hl,by omega,by omega,z+1,⟨by omega⟩,by omega,?_⟩
  rw [e]
  exact ⟨rfl,fun i hi=>rfl,rfl,⟨fun _=>trivial,fun _=>trivial⟩,by omega⟩
 ·have e:=rb_not (Y:=Y) (z:=z) fun hb=>hb.2.elim (fun h=>h hw) hv
  refine ⟨by omega,z+1,⟨by omega⟩,by omega,?_⟩
  rw [e]
  exact ⟨rfl,fun i hi=>rfl,rfl,Iff.rfl,by omega⟩
 ·have e:=rb_not (Y:=Y) (z:=z) fun hb=>he hb.1
  refine ⟨by omega,z+1,⟨by omega⟩,by omega,?_⟩
  rw [e]
  exact ⟨rfl,fun i hi=>rfl,rfl,Iff.rfl,by omega⟩
 ·have:=hz.a
  obtain rfl:z=(alQ Y).length:=by omega
  have eN:pnN Y=Y.m:=by unfold pnN; rw [if_pos h]
  have eE:pnE Y=0:=by unfold pnE; rw [if_pos h]
  rw [eN,eE,e1,e3]
  exact ⟨rfl,fun i hi=>by rw [e2 i hi],rfl,rfl⟩
theorem rp_ok:rpC.OkF Try.prog:=by
 refine ⟨by kernel_rfl,fun x k hk=>?_⟩
 simp only [rpC] at hk
 split at hk
 ·rename_i g st m sti q sal
  obtain ⟨hf,hk⟩:=hk
  have hh:=rp_true (ydOf g st m sti q sal)
  unfold rpG at hh
  rw [← hf] at hh
  exact ⟨_,funY_does (two_cs ry_ok ic_ok) nilS_x nilS_ic (octrs_sound (by
   intro x hx
   simp at hx
   subst hx
   exact pz_ok 4)) mixed hh,hk⟩
 ·exact hk.elim
theorem tp_true (Y:Yd):tpG Y:=by
 rw [tpG_vc]
 simp only [rI,rE,tt3,tt4,tt5,tt13,tt14,rI,rE,tt3,tt4,tt5,tt13,tt14,and_true,true_and,Nat.zero_lt_one,and_self,implies_true,Int.toNat_natCast,Nat.zero_add,Nat.add_zero,Nat.one_mul,Nat.mul_one,Classical.not_not,iff_self,Bool.false_eq_true,imp_false,and_imp,true_implies,forall_const,ft_fold,sti_fold,sal_fold,yd_fold,iOf_fold,stiOf_fold,salOf_fold,yv_fold,ag_fold]
 intro _
 have hN:pnN Y≤1000:=by
  unfold pnN
  split
  ·rename_i h; have:=h.s.a; omega
  ·omega
 exact ⟨rfl,rfl,hN,rfl,fun i hi=>rfl⟩
theorem tp_cs:SoundS Try.prog (ctrsF [rpC] (ctrs [lgC,awC,pnC,agC 0 isC])):=ctrsF_sound (ctrs_sound (by
 intro x hx
 simp only [List.mem_cons,List.not_mem_nil,or_false] at hx
 rcases hx with rfl | rfl | rfl | rfl
 ·exact lg_ok
 ·exact aw0_ok
 ·exact pn_ok
 ·exact agC_ok is_ok)) (by intro x hx; simp at hx; subst hx; exact rp_ok)
end Go.Proofs.Ytbedomoilakcaaa
