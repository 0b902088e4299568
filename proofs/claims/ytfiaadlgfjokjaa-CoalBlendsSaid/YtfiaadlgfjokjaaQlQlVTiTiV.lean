import Derived.Test.YtfiaadlgfjokjaaQmUaUaVUbUcUcVSaSaVSbSc
import Derived.Test.YtfiaadlgfjokjaaUdTaTaVTbTcTdTdVTeVTeTfTgTgVTh
set_option linter.unusedVariables false
set_option linter.unusedSimpArgs false
namespace Go.Proofs.Ytfiaadlgfjokjaa
open Go Go.Lg
attribute [local irreducible] bodyH funS
def awC:Ctr:=⟨10,fun args k=>match args with
 | []=>k (.bool true)
 | _=>False⟩
noncomputable def lgC:Ctr:=⟨9,fun args k=>match args with
 | [.agg [.lst 8 n f,.lst 3 m g]]=>SV.lst 8 n f=(clOf n f).sv∧SV.lst 3 m g=(msOf m g).sv∧k (.dec ((10:Int)<n∨(36:Int)<m) (Classical.propDecidable _))
 | _=>False⟩
noncomputable def lgG (Y:Yd):Prop:=funH Try.prog (ctrs []) noX (ictrs []) noL noL 9 [Y.sv] (.dec ((10:Int)<Y.c.n∨(36:Int)<Y.m.n) (Classical.propDecidable _))
noncomputable def ptS (l:List Pn) (j:Nat):Int:=sumJ (fun i=>(l.getD i zP).tn) j
structure lwI (Y:Yd) (k:Nat):Prop where
 c:ckY Y=0
 k:k≤Y.m.n
structure lwJ (Y:Yd) (s:Nat × Nat):Prop where
 c:ckY Y=0
 k:s.1<Y.m.n
 d:(Y.m.f s.1).co=-1
 z:s.2≤(dwL Y (dn Y.m s.1)).length
structure lwK (Y:Yd) (z:Nat):Prop where
 c:ckY Y=0
 z:z≤(lfL Y).length
structure lwS (Y:Yd) (b:Int):Prop where
 c:ckY Y=0
 n:2≤Y.m.n
 b:0≤b∧b≤255
end Go.Proofs.Ytfiaadlgfjokjaa

set_option maxRecDepth 100000
namespace Go.Proofs.Ytfiaadlgfjokjaa
open Go Go.Lg
theorem lgG_vc (Y:Yd):lgG Y=((0:Nat)<(1:Nat)∧((10:Int)<(↑Y.c.1:Int)→(true=true↔(10:Int)<(↑Y.c.n:Int)∨(36:Int)<(↑Y.m.n:Int))∧True)∧(¬(10:Int)<(↑Y.c.1:Int)→(0:Nat)<(1:Nat)∧((36:Int)<(↑Y.m.1:Int)↔(10:Int)<(↑Y.c.n:Int)∨(36:Int)<(↑Y.m.n:Int))∧True)):=by kernel_rfl
end Go.Proofs.Ytfiaadlgfjokjaa

namespace Go.Proofs.Ytfiaadlgfjokjaa
open Go Go.Lg
attribute [local irreducible] bodyH bodyZ funS
end Go.Proofs.Ytfiaadlgfjokjaa

set_option maxRecDepth 100000
namespace Go.Proofs.Ytfiaadlgfjokjaa
open Go Go.Lg
end Go.Proofs.Ytfiaadlgfjokjaa
