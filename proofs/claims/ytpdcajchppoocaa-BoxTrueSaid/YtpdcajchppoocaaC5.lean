import Derived.Test.YtpdcajchppoocaaEmVEn
import Derived.Test.YtpdcajchppoocaaPfPgPhPiPjPkPnPxPu
set_option linter.unusedVariables false
set_option linter.unusedSimpArgs false
set_option maxRecDepth 100000
namespace Go.Proofs.Ytpdcajchppoocaa
open Go Go.Lg
attribute [local irreducible] bodyH
structure okR (T:Tn) (w:Nat→Bool):Prop where
 t:okT T
 w:fwA T w=T.nl
noncomputable def ruC:Ctr:=⟨15,fun args k=>match args with
 | [x,.lst 1 n f]=>∃ (T:Tn) (w:Nat→Bool),(x=tV T∧SV.lst 1 n f=twL T.nl w∧okR T w)∧k (.tup [ruV T w,b6 T.nl,b6 0])
 | _=>False⟩
noncomputable def bdC:Ctr:=⟨17,fun args k=>match args with
 | [x,.lst 1 n f]=>∃ (T:Tn) (w:Nat→Bool),(x=tV T∧SV.lst 1 n f=twL T.nl w∧okR T w)∧k (.tup [bdV T (fsA T w (coL T)) (fsA T w (coH T 0)),b6 0])
 | _=>False⟩
noncomputable def ruD:Ctr:=⟨15,fun args k=>match args with
 | [x,.lst 1 n f]=>∃ (T:Tn) (w:Nat→Bool),(x=tV T∧SV.lst 1 n f=twL n w∧chE T n w≠0)∧k (.tup [.val (.slice none 0 0),b6 (chH T n w),b6 (chE T n w)])
 | _=>False⟩
noncomputable def bdD:Ctr:=⟨17,fun args k=>match args with
 | [x,.lst 1 n f]=>∃ (T:Tn) (w:Nat→Bool),(x=tV T∧SV.lst 1 n f=twL n w∧chE T n w≠0)∧k (.tup [.val (.slice none 0 0),b6 (chE T n w)])
 | _=>False⟩
theorem ruC_ok:ruC.Ok Try.prog:=by
 refine ⟨by kernel_rfl,fun args k hk=>?_⟩
 simp only [ruC] at hk
 split at hk
 ·obtain ⟨T,w,⟨rfl,hw,h⟩,hk⟩:=hk
  rw [hw]
  exact ⟨_,funN_does pgm_cs nil_x nil_ic mixed (ru_true h.t h.w) (by simp [flatS,flatSL,ruV,SV.cells,scS,b6]),hk⟩
 ·exact hk.elim
theorem bdC_ok:bdC.Ok Try.prog:=by
 refine ⟨by kernel_rfl,fun args k hk=>?_⟩
 simp only [bdC] at hk
 split at hk
 ·obtain ⟨T,w,⟨rfl,hw,h⟩,hk⟩:=hk
  rw [hw]
  exact ⟨_,funN_does pgm_cs nil_x nil_ic mixed (bed_true h.t h.w) (by simp [flatS,flatSL,bdV,SV.cells,scS,b6]),hk⟩
 ·exact hk.elim
theorem ruD_ok:ruD.Ok Try.prog:=by
 refine ⟨by kernel_rfl,fun args k hk=>?_⟩
 simp only [ruD] at hk
 split at hk
 ·obtain ⟨T,w,⟨rfl,hw,h⟩,hk⟩:=hk
  rw [hw]
  exact ⟨_,funN_does pgm_cs nil_x nil_ic mixed (ruB_true T _ w h) (by simp [flatS,flatSL,SV.cells,scS,b6]),hk⟩
 ·exact hk.elim
theorem bdD_ok:bdD.Ok Try.prog:=by
 refine ⟨by kernel_rfl,fun args k hk=>?_⟩
 simp only [bdD] at hk
 split at hk
 ·obtain ⟨T,w,⟨rfl,hw,h⟩,hk⟩:=hk
  rw [hw]
  exact ⟨_,funN_does pgm_cs nil_x nil_ic mixed (bedB_true T _ w h) (by simp [flatS,flatSL,SV.cells,scS,b6]),hk⟩
 ·exact hk.elim
noncomputable def grG (T:Tn) (m:Int):Prop:=funH Try.prog (ctrs []) noX (ictrs []) noL noL 13 [tV T,b6 m] (.dec ((m<T.nl∧T.nl≤16)∨24<T.nl∨9<T.nb) inferInstance)
noncomputable def grC:Ctr:=⟨13,fun args k=>match args with
 | [x,.int .i64 m]=>∃ T:Tn,x=tV T∧k (.dec ((m<T.nl∧T.nl≤16)∨24<T.nl∨9<T.nb) inferInstance)
 | _=>False⟩
noncomputable def spnG (a b:Int):Prop:=funH Try.prog (ctrs []) noX (ictrs []) noL noL 31 [b6 a,b6 b] (.agg [b6 a,b6 b])
def spnC:Ctr:=⟨31,fun args k=>match args with
 | [.int .i64 a,.int .i64 b]=>k (.agg [b6 a,b6 b])
 | _=>False⟩
def alvC:Ctr:=⟨14,fun args k=>match args with
 | []=>k (.bool true)
 | _=>False⟩
end Go.Proofs.Ytpdcajchppoocaa

set_option maxRecDepth 100000
namespace Go.Proofs.Ytpdcajchppoocaa
open Go Go.Lg
theorem grG_vc (T:Tn) (m:Int):grG T m=((0:Nat)<(1:Nat)∧(m<(↑T.10:Int)→(0:Nat)<(1:Nat)∧((↑T.10:Int)≤(16:Int)→(true=true↔m<(↑T.nl:Int)∧T.nl≤(16:Nat)∨(24:Nat)<T.nl∨(9:Nat)<T.nb)∧True)∧(¬(↑T.10:Int)≤(16:Int)→(0:Nat)<(1:Nat)∧((24:Int)<(↑T.10:Int)→(true=true↔m<(↑T.nl:Int)∧T.nl≤(16:Nat)∨(24:Nat)<T.nl∨(9:Nat)<T.nb)∧True)∧(¬(24:Int)<(↑T.10:Int)→(0:Nat)<(1:Nat)∧((9:Int)<(↑T.1:Int)↔m<(↑T.nl:Int)∧T.nl≤(16:Nat)∨(24:Nat)<T.nl∨(9:Nat)<T.nb) ∧
True)))∧(¬m<(↑T.10:Int)→(0:Nat)<(1:Nat)∧((24:Int)<(↑T.10:Int)→(true=true↔m<(↑T.nl:Int)∧T.nl≤(16:Nat)∨(24:Nat)<T.nl∨(9:Nat)<T.nb)∧True)∧(¬(24:Int)<(↑T.10:Int)→(0:Nat)<(1:Nat)∧((9:Int)<(↑T.1:Int)↔m<(↑T.nl:Int)∧T.nl≤(16:Nat)∨(24:Nat)<T.nl∨(9:Nat)<T.nb)∧True))):=by kernel_rfl
theorem spnG_vc (a:Int) (b:Int):spnG a b=((0:Nat)<(1:Nat)∧a=a∧b=b∧True):=by kernel_rfl
end Go.Proofs.Ytpdcajchppoocaa

set_option maxRecDepth 100000
namespace Go.Proofs.Ytpdcajchppoocaa
open Go Go.Lg
attribute [local irreducible] bodyH
theorem gr_true (T:Tn) (m:Int):grG T m:=by
 rw [grG_vc]
 simp only [rI,rE,tt3,tt4,tt5,tt13,tt14,and_true,true_and,implies_true,true_iff]
 refine ⟨by omega,fun h=>⟨by omega,fun h1=>by omega,fun h1=>⟨by omega,fun h2=>by omega,fun h2=>by omega⟩⟩,fun h=>⟨by omega,fun h2=>by omega,fun h2=>by omega⟩⟩
theorem gr_ok:grC.Ok Try.prog:=by
 refine ⟨by kernel_rfl,fun args k hk=>?_⟩
 simp only [grC] at hk
 split at hk
 ·obtain ⟨T,rfl,hk⟩:=hk
  exact ⟨_,Does.plain (funH_does nil_cs nil_x nil_ic mixed (gr_true T _)) trivial,hk⟩
 ·exact hk.elim
theorem spn_true (a b:Int):spnG a b:=by
 rw [spnG_vc]
 exact ⟨by omega,rfl,rfl,trivial⟩
theorem spn_ok:spnC.Ok Try.prog:=by
 refine ⟨by kernel_rfl,fun args k hk=>?_⟩
 simp only [spnC] at hk
 split at hk
 ·exact ⟨_,Does.plain (funH_does nil_cs nil_x nil_ic mixed (spn_true _ _)) (by simp [plainS,plainS.plainL,b6]),hk⟩
 ·exact hk.elim
end Go.Proofs.Ytpdcajchppoocaa

namespace Go.Lg
section
variable (lo hi:(Nat→Int)→Nat→Int) (F:(Nat→Int)→Prop) (m:Nat)
end
section
variable {lo hi:(Nat→Int)→Nat→Int} {F:(Nat→Int)→Prop} {m:Nat}
end
end Go.Lg
