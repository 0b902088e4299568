import Derived.Test.YtfiaadlgfjokjaaQmQnUaUaVUbUcUcVSaSaVSbSc
import Derived.Test.YtfiaadlgfjokjaaUdTaTaVTbTcTdTdVTeVTeTfTgTgVTh
set_option linter.unusedVariables false
set_option linter.unusedSimpArgs false
namespace Go.Proofs.Ytfiaadlgfjokjaa
open Go Go.Lg
attribute [local irreducible] bodyH funS
def awC:Ctr:=⟨10,fun args k=>match args with
 | []=>k (.bool true)
 | _=>False⟩
noncomputable def lgC:Ctr:=⟨9,fun args k=>match args with
 | [.agg [.lst 8 n f,.lst 3 m g]]=>SV.lst 8 n f=(clOf n f).sv∧SV.lst 3 m g=(msOf m g).sv∧k (.dec ((10:Int)<n∨(36:Int)<m) (Classical.propDecidable _))
 | _=>False⟩
noncomputable def lgG (Y:Yd):Prop:=funH Try.prog (ctrs []) noX (ictrs []) noL noL 9 [Y.sv] (.dec ((10:Int)<Y.c.n∨(36:Int)<Y.m.n) (Classical.propDecidable _))
structure lwI (Y:Yd) (k:Nat):Prop where
 c:ckY Y=0
 k:k≤Y.m.n
structure lwJ (Y:Yd) (s:Nat × Nat):Prop where
 c:ckY Y=0
 k:s.1<Y.m.n
 d:(Y.m.f s.1).co=-1
 z:s.2≤(dwL Y (dn Y.m s.1)).length
structure lwK (Y:Yd) (z:Nat):Prop where
 c:ckY Y=0
 z:z≤(lfL Y).length
structure lwS (Y:Yd) (b:Int):Prop where
 c:ckY Y=0
 n:2≤Y.m.n
 b:0≤b∧b≤255
end Go.Proofs.Ytfiaadlgfjokjaa

set_option maxRecDepth 100000
namespace Go.Proofs.Ytfiaadlgfjokjaa
open Go Go.Lg
theorem lgG_vc (Y:Yd):lgG Y=((0:Nat)<(1:Nat)∧((10:Int)<(↑Y.c.1:Int)→(true=true↔(10:Int)<(↑Y.c.n:Int)∨(36:Int)<(↑Y.m.n:Int))∧True)∧(¬(10:Int)<(↑Y.c.1:Int)→(0:Nat)<(1:Nat)∧((36:Int)<(↑Y.m.1:Int)↔(10:Int)<(↑Y.c.n:Int)∨(36:Int)<(↑Y.m.n:Int))∧True)):=by kernel_rfl
end Go.Proofs.Ytfiaadlgfjokjaa

set_option maxRecDepth 100000
namespace Go.Proofs.Ytfiaadlgfjokjaa
open Go Go.Lg
attribute [local irreducible] funS bodyH
theorem lg_true (Y:Yd):lgG Y:=by
 rw [lgG_vc]
 simp only [rI,rE,tA,tB,tC,tD,and_true,true_and,Nat.zero_lt_one,and_self,implies_true]
 refine ⟨fun h=>⟨fun _=>.inl h,fun _=>trivial⟩,fun h=>⟨fun h2=>.inr h2,fun h2=>h2.elim (fun h3=>absurd h3 h) id⟩⟩
theorem lg_ok:lgC.Ok Try.prog:=by
 refine ⟨by kernel_rfl,fun x k hk=>?_⟩
 simp only [lgC] at hk
 split at hk
 ·rename_i n f m g
  obtain ⟨h1,h2,hk⟩:=hk
  have hh:=lg_true ⟨clOf n f,msOf m g⟩
  unfold lgG at hh
  simp only [Yd.sv] at hh
  rw [← h1,← h2] at hh
  have hh:funH Try.prog (ctrs []) noX (ictrs []) noL noL 9 [.agg [.lst 8 n f,.lst 3 m g]] _:=hh
  exact ⟨_,plainD nilS_cs nilS_x nilS_ic hh trivial,hk⟩
 ·exact hk.elim
theorem aw_ok:awC.Ok Try.prog:=by
 refine ⟨by kernel_rfl,fun x k hk=>?_⟩
 simp only [awC] at hk
 split at hk
 ·exact ⟨.bool true,Does.plain (res:=.bool true) aw_does trivial,hk⟩
 ·exact hk.elim
end Go.Proofs.Ytfiaadlgfjokjaa

namespace Go.Proofs.Ytfiaadlgfjokjaa
open Go Go.Lg
attribute [local irreducible] bodyH bodyZ funS
end Go.Proofs.Ytfiaadlgfjokjaa

set_option maxRecDepth 100000
namespace Go.Proofs.Ytfiaadlgfjokjaa
open Go Go.Lg
end Go.Proofs.Ytfiaadlgfjokjaa
