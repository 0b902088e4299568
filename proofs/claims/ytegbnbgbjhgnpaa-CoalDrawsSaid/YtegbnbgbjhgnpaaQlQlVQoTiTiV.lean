import Derived.Test.YtegbnbgbjhgnpaaQmQn
import Derived.Test.YtegbnbgbjhgnpaaZc4Zc
import Derived.Test.YtegbnbgbjhgnpaaUaUaVUbUcUcVUdTaTaVTbTcTdTdVTeVTeTfTgTgVTh
set_option linter.unusedVariables false
set_option linter.unusedSimpArgs false
namespace Go.Proofs.Ytegbnbgbjhgnpaa
open Go Go.Lg
attribute [local irreducible] bodyH funS
def awC:Ctr:=⟨10,fun args k=>match args with
 | []=>k (.bool true)
 | _=>False⟩
noncomputable def lgC:Ctr:=⟨9,fun args k=>match args with
 | [.agg [.lst 8 n f,.lst 3 m g]]=>SV.lst 8 n f=(clOf n f).sv∧SV.lst 3 m g=(msOf m g).sv∧k (.dec ((10:Int)<n∨(36:Int)<m) (Classical.propDecidable _))
 | _=>False⟩
noncomputable def lgG (Y:Yd):Prop:=funH Try.prog (ctrs []) noX (ictrs []) noL noL 9 [Y.sv] (.dec ((10:Int)<Y.c.n∨(36:Int)<Y.m.n) (Classical.propDecidable _))
structure lwI (Y:Yd) (k:Nat):Prop where
 c:ckY Y=0
 k:k≤Y.m.n
structure lwJ (Y:Yd) (s:Nat × Nat):Prop where
 c:ckY Y=0
 k:s.1<Y.m.n
 d:(Y.m.f s.1).co=-1
 z:s.2≤(dwL Y (dn Y.m s.1)).length
structure lwK (Y:Yd) (z:Nat):Prop where
 c:ckY Y=0
 z:z≤(lfL Y).length
structure lwS (Y:Yd) (b:Int):Prop where
 c:ckY Y=0
 n:2≤Y.m.n
 b:0≤b∧b≤255
end Go.Proofs.Ytegbnbgbjhgnpaa

set_option maxRecDepth 100000
namespace Go.Proofs.Ytegbnbgbjhgnpaa
open Go Go.Lg
theorem lgG_vc (Y:Yd):lgG Y =
((0:Nat)<(1:Nat) ∧
 ((10:Int)<(↑Y.c.1:Int)→(true=true↔(10:Int)<(↑Y.c.n:Int)∨(36:Int)<(↑Y.m.n:Int))∧True) ∧
  (¬(10:Int)<(↑Y.c.1:Int) →
   (0:Nat)<(1:Nat) ∧
    ((36:Int)<(↑Y.m.1:Int)↔(10:Int)<(↑Y.c.n:Int)∨(36:Int)<(↑Y.m.n:Int))∧True)):=by kernel_rfl
end Go.Proofs.Ytegbnbgbjhgnpaa

set_option maxRecDepth 100000
namespace Go.Proofs.Ytegbnbgbjhgnpaa
open Go Go.Lg
attribute [local irreducible] funS bodyH
theorem lg_true (Y:Yd):lgG Y:=by
 rw [lgG_vc]
 simp only [rI,rE,and_true,true_and,Nat.zero_lt_one,and_self,implies_true]
 refine ⟨fun h=>⟨fun _=>.inl h,fun _=>trivial⟩,fun h=>⟨fun h2=>.inr h2,fun h2=>h2.elim (fun h3=>absurd h3 h) id⟩⟩
theorem lg_ok:lgC.Ok Try.prog:=by
 refine ⟨by kernel_rfl,fun x k hk=>?_⟩
 simp only [lgC] at hk
 split at hk
 ·rename_i n f m g
  obtain ⟨h1,h2,hk⟩:=hk
  have hh:=lg_true ⟨clOf n f,msOf m g⟩
  unfold lgG at hh
  simp only [Yd.sv] at hh
  rw [← h1,← h2] at hh
  have hh:funH Try.prog (ctrs []) noX (ictrs []) noL noL 9 [.agg [.lst 8 n f,.lst 3 m g]] _:=hh
  exact ⟨_,plainD nilS_cs nilS_x nilS_ic hh trivial,hk⟩
 ·exact hk.elim
theorem aw_ok:awC.Ok Try.prog:=by
 refine ⟨by kernel_rfl,fun x k hk=>?_⟩
 simp only [awC] at hk
 split at hk
 ·exact ⟨.bool true,Does.plain (res:=.bool true) Zc_does trivial,hk⟩
 ·exact hk.elim
end Go.Proofs.Ytegbnbgbjhgnpaa

namespace Go.Proofs.Ytegbnbgbjhgnpaa
open Go Go.Lg
attribute [local irreducible] bodyH bodyZ funS
noncomputable def csK:CSpec:=ctrsF [dwC,rdC,lfC,rlC] (ctrs [lgC,awC,ltC 15])
noncomputable def cdG (Y:Yd) (a:Int):Prop:=funH Try.prog csK noX (ictrs []) noL noL 3 [Y.sv,i6 a] (.bool true)
end Go.Proofs.Ytegbnbgbjhgnpaa

set_option maxRecDepth 100000
namespace Go.Proofs.Ytegbnbgbjhgnpaa
open Go Go.Lg
theorem cdG_vc (Y:Yd) (a:Int):cdG Y a =
((0:Nat)<(1:Nat)∧(∀ (i:Nat),i<Y.c.1→True∧True∧True∧True∧True∧True∧True∧True∧True)∧(∀ (i:Nat),i<Y.m.1→True∧True∧True∧True)∧(SV.lst (8:Nat) Y.c.n fun i=>(Y.c.f i).sv)=(clOf Y.c.n fun i=>(Y.c.f i).sv).sv∧(SV.lst (3:Nat) Y.m.n fun i=>(Y.m.f i).sv)=(msOf Y.m.n fun i=>(Y.m.f i).sv).sv∧((10:Int)<(↑Y.c.n:Int)∨(36:Int)<(↑Y.m.n:Int)→rE true∧True)∧(¬((10:Int)<(↑Y.c.n:Int)∨(36:Int)<(↑Y.m.n:Int))→(0:Nat)<(1:Nat)∧(∀ (i:Nat),i<Y.c.1→True∧True∧True∧True∧True∧True∧True∧True∧True)∧(∀ (i:Nat),i<Y.m.1→True∧True∧True∧True)∧(SV.lst (8:Nat) Y.c.n fun i=>(Y.c.f i).sv)=(clOf Y.c.n fun i=>(Y.c.f i).sv).sv∧(SV.lst (3:Nat) Y.m.n fun i=>(Y.m.f i).sv)=(msOf Y.m.n fun i=>(Y.m.f i).sv).sv∧(0:Nat)<(1:Nat)∧(∀ (i:Nat),i<Y.c.1→True∧True
∧ True∧True∧True∧True∧True∧True∧True)∧(∀ (i:Nat),i<Y.m.1→True∧True∧True∧True)∧(SV.lst (8:Nat) Y.c.n fun i=>(Y.c.f i).sv)=(clOf Y.c.n fun i=>(Y.c.f i).sv).sv∧(SV.lst (3:Nat) Y.m.n fun i=>(Y.m.f i).sv)=(msOf Y.m.n fun i=>(Y.m.f i).sv).sv∧(Y.c.1≤(1000:Nat)∧Y.m.1≤(1000:Nat))∧(0:Nat)<(1:Nat)∧(∀ (i:Nat),i<Y.c.1→True∧True∧True∧True∧True∧True∧True∧True∧True)∧(∀ (i:Nat),i<Y.m.1→True∧True∧True∧True)∧(SV.lst (8:Nat) Y.c.n fun i=>(Y.c.f i).sv)=(clOf Y.c.n fun i=>(Y.c.f i).sv).sv∧(SV.lst (3:Nat) Y.m.n fun i=>(Y.m.f i).sv)=(msOf Y.m.n fun i=>(Y.m.f i).sv).sv∧(0:Nat)<(1:Nat)∧(∀ (i:Nat),i<Y.c.1→True∧True∧True∧True∧True∧True∧True∧True∧True)∧(∀ (i:Nat),i<Y.m.1→True∧True∧True∧True)∧(SV.lst (8:Nat) Y.c.n fun i=>(Y.c.f i).sv) =
(clOf Y.c.n fun i=>(Y.c.f i).sv).sv∧(SV.lst (3:Nat) Y.m.n fun i=>(Y.m.f i).sv)=(msOf Y.m.n fun i=>(Y.m.f i).sv).sv∧(Y.c.1≤(1000:Nat)∧Y.m.1≤(1000:Nat))∧(∀ (i:Nat),i<(dwL (Yd.mk (clOf Y.c.n fun i=>(Y.c.f i).sv) (msOf Y.m.n fun i=>(Y.m.f i).sv)) a).length→True∧True∧True)∧(∀ (i:Nat),i<(rdL (Yd.mk (clOf Y.c.n fun i=>(Y.c.f i).sv) (msOf Y.m.n fun i=>(Y.m.f i).sv)) a).length→True∧True∧True)∧((SV.lst (2:Nat) (dwL (Yd.mk (clOf Y.c.n fun i=>(Y.c.f i).sv) (msOf Y.m.n fun i=>(Y.m.f i).sv)) a).length fun i=>((dwL (Yd.mk (clOf Y.c.n fun i=>(Y.c.f i).sv) (msOf Y.m.n fun i=>(Y.m.f i).sv)) a).getD i zP).pt.sv)=twL (dwL (Yd.mk (clOf Y.c.n fun i=>(Y.c.f i).sv) (msOf Y.m.n fun i=>(Y.m.f i).sv)) a).length fun i=>tOf ((dwL (Yd.mk (clOf Y.c.n fun i=>(Y.c.f i).sv) (msOf Y.m.n fun i=>(Y.m.f i).sv)) a).getD i zP).pt.sv) ∧
((SV.lst (2:Nat) (rdL (Yd.mk (clOf Y.c.n fun i=>(Y.c.f i).sv) (msOf Y.m.n fun i=>(Y.m.f i).sv)) a).length fun i=>((rdL (Yd.mk (clOf Y.c.n fun i=>(Y.c.f i).sv) (msOf Y.m.n fun i=>(Y.m.f i).sv)) a).getD i zT).sv)=twL (rdL (Yd.mk (clOf Y.c.n fun i=>(Y.c.f i).sv) (msOf Y.m.n fun i=>(Y.m.f i).sv)) a).length fun i=>tOf ((rdL (Yd.mk (clOf Y.c.n fun i=>(Y.c.f i).sv) (msOf Y.m.n fun i=>(Y.m.f i).sv)) a).getD i zT).sv)∧(dwL (Yd.mk (clOf Y.c.n fun i=>(Y.c.f i).sv) (msOf Y.m.n fun i=>(Y.m.f i).sv)) a).length≤(1000:Nat)∧(((dwL (Yd.mk (clOf Y.c.n fun i=>(Y.c.f i).sv) (msOf Y.m.n fun i=>(Y.m.f i).sv)) a).length=(rdL (Yd.mk (clOf Y.c.n fun i=>(Y.c.f i).sv) (msOf Y.m.n fun i=>(Y.m.f i).sv)) a).length∧eqT (dwL (Yd.mk (clOf Y.c.n fun i=>(Y.c.f i).sv) (msOf Y.m.n fun i=>(Y.m.f i).sv)) a).length (fun i=>tOf ((dwL (Yd.mk (clOf Y.c.n fun i=>(Y.c.f i).sv)
(msOf Y.m.n fun i=>(Y.m.f i).sv)) a).getD i zP).pt.sv) fun i=>tOf ((rdL (Yd.mk (clOf Y.c.n fun i=>(Y.c.f i).sv) (msOf Y.m.n fun i=>(Y.m.f i).sv)) a).getD i zT).sv)→(drE (Yd.mk (clOf Y.c.n fun i=>(Y.c.f i).sv) (msOf Y.m.n fun i=>(Y.m.f i).sv)) a a=rdE (Yd.mk (clOf Y.c.n fun i=>(Y.c.f i).sv) (msOf Y.m.n fun i=>(Y.m.f i).sv)) a→(∀ (i:Nat),i<(lfL (Yd.mk (clOf Y.c.n fun i=>(Y.c.f i).sv) (msOf Y.m.n fun i=>(Y.m.f i).sv))).length→True∧True∧True)∧(∀ (i:Nat),i<(rlL (Yd.mk (clOf Y.c.n fun i=>(Y.c.f i).sv) (msOf Y.m.n fun i=>(Y.m.f i).sv))).length→True∧True∧True)∧((SV.lst (2:Nat) (lfL (Yd.mk (clOf Y.c.n fun i=>(Y.c.f i).sv) (msOf Y.m.n fun i=>(Y.m.f i).sv))).length fun i=>((lfL (Yd.mk (clOf Y.c.n fun i=>(Y.c.f i).sv) (msOf Y.m.n fun i=>(Y.m.f i).sv))).getD i zP).pt.sv)=twL (lfL (Yd.mk (clOf Y.c.n fun i=>(Y.c.f i).sv) (msOf
Y.m.n fun i=>(Y.m.f i).sv))).length fun i=>tOf ((lfL (Yd.mk (clOf Y.c.n fun i=>(Y.c.f i).sv) (msOf Y.m.n fun i=>(Y.m.f i).sv))).getD i zP).pt.sv)∧((SV.lst (2:Nat) (rlL (Yd.mk (clOf Y.c.n fun i=>(Y.c.f i).sv) (msOf Y.m.n fun i=>(Y.m.f i).sv))).length fun i=>((rlL (Yd.mk (clOf Y.c.n fun i=>(Y.c.f i).sv) (msOf Y.m.n fun i=>(Y.m.f i).sv))).getD i zT).sv)=twL (rlL (Yd.mk (clOf Y.c.n fun i=>(Y.c.f i).sv) (msOf Y.m.n fun i=>(Y.m.f i).sv))).length fun i=>tOf ((rlL (Yd.mk (clOf Y.c.n fun i=>(Y.c.f i).sv) (msOf Y.m.n fun i=>(Y.m.f i).sv))).getD i zT).sv)∧(lfL (Yd.mk (clOf Y.c.n fun i=>(Y.c.f i).sv) (msOf Y.m.n fun i=>(Y.m.f i).sv))).length≤(1000:Nat)∧(((lfL (Yd.mk (clOf Y.c.n fun i=>(Y.c.f i).sv) (msOf Y.m.n fun i=>(Y.m.f i).sv))).length=(rlL (Yd.mk (clOf Y.c.n fun i=>(Y.c.f i).sv) (msOf Y.m.n fun i=>(Y.m.f i).sv))).length∧eqT (lfL (Yd.mk
(clOf Y.c.n fun i=>(Y.c.f i).sv) (msOf Y.m.n fun i=>(Y.m.f i).sv))).length (fun i=>tOf ((lfL (Yd.mk (clOf Y.c.n fun i=>(Y.c.f i).sv) (msOf Y.m.n fun i=>(Y.m.f i).sv))).getD i zP).pt.sv) fun i=>tOf ((rlL (Yd.mk (clOf Y.c.n fun i=>(Y.c.f i).sv) (msOf Y.m.n fun i=>(Y.m.f i).sv))).getD i zT).sv)→(ckY (Yd.mk (clOf Y.c.n fun i=>(Y.c.f i).sv) (msOf Y.m.n fun i=>(Y.m.f i).sv))=stE (Yd.mk (clOf Y.c.n fun i=>(Y.c.f i).sv) (msOf Y.m.n fun i=>(Y.m.f i).sv))→rE true∧True)∧(¬ckY (Yd.mk (clOf Y.c.n fun i=>(Y.c.f i).sv) (msOf Y.m.n fun i=>(Y.m.f i).sv))=stE (Yd.mk (clOf Y.c.n fun i=>(Y.c.f i).sv) (msOf Y.m.n fun i=>(Y.m.f i).sv))→false=true∧True))∧(¬((lfL (Yd.mk (clOf Y.c.n fun i=>(Y.c.f i).sv) (msOf Y.m.n fun i=>(Y.m.f i).sv))).length=(rlL (Yd.mk (clOf Y.c.n fun i=>(Y.c.f i).sv) (msOf Y.m.n fun i=>(Y.m.f i).sv))).length∧eqT (lfL (Yd.mk
(clOf Y.c.n fun i=>(Y.c.f i).sv) (msOf Y.m.n fun i=>(Y.m.f i).sv))).length (fun i=>tOf ((lfL (Yd.mk (clOf Y.c.n fun i=>(Y.c.f i).sv) (msOf Y.m.n fun i=>(Y.m.f i).sv))).getD i zP).pt.sv) fun i=>tOf ((rlL (Yd.mk (clOf Y.c.n fun i=>(Y.c.f i).sv) (msOf Y.m.n fun i=>(Y.m.f i).sv))).getD i zT).sv)→false=true∧True))∧(¬drE (Yd.mk (clOf Y.c.n fun i=>(Y.c.f i).sv) (msOf Y.m.n fun i=>(Y.m.f i).sv)) a a=rdE (Yd.mk (clOf Y.c.n fun i=>(Y.c.f i).sv) (msOf Y.m.n fun i=>(Y.m.f i).sv)) a→false=true∧True))∧(¬((dwL (Yd.mk (clOf Y.c.n fun i=>(Y.c.f i).sv) (msOf Y.m.n fun i=>(Y.m.f i).sv)) a).length=(rdL (Yd.mk (clOf Y.c.n fun i=>(Y.c.f i).sv) (msOf Y.m.n fun i=>(Y.m.f i).sv)) a).length∧eqT (dwL (Yd.mk (clOf Y.c.n fun i=>(Y.c.f i).sv) (msOf Y.m.n fun i=>(Y.m.f i).sv)) a).length (fun i=>tOf ((dwL (Yd.mk (clOf Y.c.n fun i=>(Y.c.f i).sv) (msOf Y.m.n
fun i=>(Y.m.f i).sv)) a).getD i zP).pt.sv) fun i=>tOf ((rdL (Yd.mk (clOf Y.c.n fun i=>(Y.c.f i).sv) (msOf Y.m.n fun i=>(Y.m.f i).sv)) a).getD i zT).sv)→false=true∧True))):=by kernel_rfl
end Go.Proofs.Ytegbnbgbjhgnpaa
