import Derived.Test.YtpdcajchppoocaaEmVEn
import Derived.Test.YtpdcajchppoocaaPfPgPhPiPjPkPnPxPu
set_option linter.unusedVariables false
set_option linter.unusedSimpArgs false
set_option maxRecDepth 100000
namespace Go.Proofs.Ytpdcajchppoocaa
open Go Go.Lg
attribute [local irreducible] bodyH
structure okR (T:Tn) (w:Nat→Bool):Prop where
 t:okT T
 w:fwA T w=T.nl
noncomputable def ruC:Ctr:=⟨15,fun args k=>match args with
 | [x,.lst 1 n f]=>∃ (T:Tn) (w:Nat→Bool),(x=tV T∧SV.lst 1 n f=twL T.nl w∧okR T w)∧k (.tup [ruV T w,b6 T.nl,b6 0])
 | _=>False⟩
noncomputable def bdC:Ctr:=⟨17,fun args k=>match args with
 | [x,.lst 1 n f]=>∃ (T:Tn) (w:Nat→Bool),(x=tV T∧SV.lst 1 n f=twL T.nl w∧okR T w)∧k (.tup [bdV T (fsA T w (coL T)) (fsA T w (coH T 0)),b6 0])
 | _=>False⟩
noncomputable def ruD:Ctr:=⟨15,fun args k=>match args with
 | [x,.lst 1 n f]=>∃ (T:Tn) (w:Nat→Bool),(x=tV T∧SV.lst 1 n f=twL n w∧chE T n w≠0)∧k (.tup [.val (.slice none 0 0),b6 (chH T n w),b6 (chE T n w)])
 | _=>False⟩
noncomputable def bdD:Ctr:=⟨17,fun args k=>match args with
 | [x,.lst 1 n f]=>∃ (T:Tn) (w:Nat→Bool),(x=tV T∧SV.lst 1 n f=twL n w∧chE T n w≠0)∧k (.tup [.val (.slice none 0 0),b6 (chE T n w)])
 | _=>False⟩
theorem ruC_ok:ruC.Ok Try.prog:=by
 refine ⟨by kernel_rfl,fun args k hk=>?_⟩
 simp only [ruC] at hk
 split at hk
 ·obtain ⟨T,w,⟨rfl,hw,h⟩,hk⟩:=hk
  rw [hw]
  exact ⟨_,funN_does pgm_cs nil_x nil_ic mixed (ru_true h.t h.w) (by simp [flatS,flatSL,ruV,SV.cells,scS,b6]),hk⟩
 ·exact hk.elim
theorem bdC_ok:bdC.Ok Try.prog:=by
 refine ⟨by kernel_rfl,fun args k hk=>?_⟩
 simp only [bdC] at hk
 split at hk
 ·obtain ⟨T,w,⟨rfl,hw,h⟩,hk⟩:=hk
  rw [hw]
  exact ⟨_,funN_does pgm_cs nil_x nil_ic mixed (bed_true h.t h.w) (by simp [flatS,flatSL,bdV,SV.cells,scS,b6]),hk⟩
 ·exact hk.elim
theorem ruD_ok:ruD.Ok Try.prog:=by
 refine ⟨by kernel_rfl,fun args k hk=>?_⟩
 simp only [ruD] at hk
 split at hk
 ·obtain ⟨T,w,⟨rfl,hw,h⟩,hk⟩:=hk
  rw [hw]
  exact ⟨_,funN_does pgm_cs nil_x nil_ic mixed (ruB_true T _ w h) (by simp [flatS,flatSL,SV.cells,scS,b6]),hk⟩
 ·exact hk.elim
theorem bdD_ok:bdD.Ok Try.prog:=by
 refine ⟨by kernel_rfl,fun args k hk=>?_⟩
 simp only [bdD] at hk
 split at hk
 ·obtain ⟨T,w,⟨rfl,hw,h⟩,hk⟩:=hk
  rw [hw]
  exact ⟨_,funN_does pgm_cs nil_x nil_ic mixed (bedB_true T _ w h) (by simp [flatS,flatSL,SV.cells,scS,b6]),hk⟩
 ·exact hk.elim
noncomputable def grG (T:Tn) (m:Int):Prop:=funH Try.prog (ctrs []) noX (ictrs []) noL noL 13 [tV T,b6 m] (.dec ((m<T.nl∧T.nl≤16)∨24<T.nl∨9<T.nb) inferInstance)
noncomputable def grC:Ctr:=⟨13,fun args k=>match args with
 | [x,.int .i64 m]=>∃ T:Tn,x=tV T∧k (.dec ((m<T.nl∧T.nl≤16)∨24<T.nl∨9<T.nb) inferInstance)
 | _=>False⟩
noncomputable def spnG (a b:Int):Prop:=funH Try.prog (ctrs []) noX (ictrs []) noL noL 31 [b6 a,b6 b] (.agg [b6 a,b6 b])
def spnC:Ctr:=⟨31,fun args k=>match args with
 | [.int .i64 a,.int .i64 b]=>k (.agg [b6 a,b6 b])
 | _=>False⟩
def alvC:Ctr:=⟨14,fun args k=>match args with
 | []=>k (.bool true)
 | _=>False⟩
end Go.Proofs.Ytpdcajchppoocaa

set_option maxRecDepth 100000
namespace Go.Proofs.Ytpdcajchppoocaa
open Go Go.Lg
theorem grG_vc (T:Tn) (m:Int):grG T m=((0:Nat)<(1:Nat)∧(m<(↑T.10:Int)→(0:Nat)<(1:Nat)∧((↑T.10:Int)≤(16:Int)→(true=true↔m<(↑T.nl:Int)∧T.nl≤(16:Nat)∨(24:Nat)<T.nl∨(9:Nat)<T.nb)∧True)∧(¬(↑T.10:Int)≤(16:Int)→(0:Nat)<(1:Nat)∧((24:Int)<(↑T.10:Int)→(true=true↔m<(↑T.nl:Int)∧T.nl≤(16:Nat)∨(24:Nat)<T.nl∨(9:Nat)<T.nb)∧True)∧(¬(24:Int)<(↑T.10:Int)→(0:Nat)<(1:Nat)∧((9:Int)<(↑T.1:Int)↔m<(↑T.nl:Int)∧T.nl≤(16:Nat)∨(24:Nat)<T.nl∨(9:Nat)<T.nb) ∧
True)))∧(¬m<(↑T.10:Int)→(0:Nat)<(1:Nat)∧((24:Int)<(↑T.10:Int)→(true=true↔m<(↑T.nl:Int)∧T.nl≤(16:Nat)∨(24:Nat)<T.nl∨(9:Nat)<T.nb)∧True)∧(¬(24:Int)<(↑T.10:Int)→(0:Nat)<(1:Nat)∧((9:Int)<(↑T.1:Int)↔m<(↑T.nl:Int)∧T.nl≤(16:Nat)∨(24:Nat)<T.nl∨(9:Nat)<T.nb)∧True))):=by kernel_rfl
theorem spnG_vc (a:Int) (b:Int):spnG a b=((0:Nat)<(1:Nat)∧a=a∧b=b∧True):=by kernel_rfl
end Go.Proofs.Ytpdcajchppoocaa

set_option maxRecDepth 100000
namespace Go.Proofs.Ytpdcajchppoocaa
open Go Go.Lg
attribute [local irreducible] bodyH
theorem gr_true (T:Tn) (m:Int):grG T m:=by
 rw [grG_vc]
 simp only [rI,rE,tt3,tt4,tt5,tt13,tt14,and_true,true_and,implies_true,true_iff]
 refine ⟨by omega,fun h=>⟨by omega,fun h1=>by omega,fun h1=>⟨by omega,fun h2=>by omega,fun h2=>by omega⟩⟩,fun h=>⟨by omega,fun h2=>by omega,fun h2=>by omega⟩⟩
theorem gr_ok:grC.Ok Try.prog:=by
 refine ⟨by kernel_rfl,fun args k hk=>?_⟩
 simp only [grC] at hk
 split at hk
 ·obtain ⟨T,rfl,hk⟩:=hk
  exact ⟨_,Does.plain (funH_does nil_cs nil_x nil_ic mixed (gr_true T _)) trivial,hk⟩
 ·exact hk.elim
theorem spn_true (a b:Int):spnG a b:=by
 rw [spnG_vc]
 exact ⟨by omega,rfl,rfl,trivial⟩
theorem spn_ok:spnC.Ok Try.prog:=by
 refine ⟨by kernel_rfl,fun args k hk=>?_⟩
 simp only [spnC] at hk
 split at hk
 ·exact ⟨_,Does.plain (funH_does nil_cs nil_x nil_ic mixed (spn_true _ _)) (by simp [plainS,plainS.plainL,b6]),hk⟩
 ·exact hk.elim
end Go.Proofs.Ytpdcajchppoocaa

namespace Go.Lg
section
variable (lo hi:(Nat→Int)→Nat→Int) (F:(Nat→Int)→Prop) (m:Nat)
end
section
variable {lo hi:(Nat→Int)→Nat→Int} {F:(Nat→Int)→Prop} {m:Nat}
end
end Go.Lg

set_option maxRecDepth 100000
namespace Go.Proofs.Ytpdcajchppoocaa
open Go Go.Lg
attribute [local irreducible] bodyH
structure Bx where
 b:Int
 f:Int
 r:Int
 k:Int
def Bx.sv (x:Bx):SV:=.agg [b6 x.b,b6 x.f,b6 x.r,b6 x.k]
def nlS:SV:=.val (.slice none 0 0)
end Go.Proofs.Ytpdcajchppoocaa

set_option maxRecDepth 100000
namespace Go.Proofs.Ytpdcajchppoocaa
open Go Go.Lg
end Go.Proofs.Ytpdcajchppoocaa

set_option maxRecDepth 100000
namespace Go.Proofs.Ytpdcajchppoocaa
open Go Go.Lg
attribute [local irreducible] bodyH
end Go.Proofs.Ytpdcajchppoocaa

set_option maxRecDepth 100000
namespace Go.Proofs.Ytpdcajchppoocaa
open Go Go.Lg
attribute [local irreducible] bodyH
structure Rs where
  n : Nat
  S : Nat → Bx
  m : Nat
  O : Nat → Bx
  c : Int
def Rs.sv (s : Rs) : SV := .agg [.lst 4 s.n fun i => (s.S i).sv, .lst 4 s.m fun i => (s.O i).sv, b6 s.c]
noncomputable def cbQ (s : Rs) (h : Int) : Nat := open Classical in if 0 < s.m ∧ (s.O 0).k = h then 1 else 0
def S1 (s : Rs) (i : Nat) : Bx := if i < s.n then s.S i else s.O 0
noncomputable def nQ (s : Rs) (h : Int) (i : Nat) : Nat := s.n + min i (cbQ s h)
noncomputable def O1 (s : Rs) (h : Int) (i : Nat) : Bx := s.O (i + cbQ s h)
open Classical in
noncomputable def wtQ (T : Tn) (s : Rs) (h : Int) (w : Bool) : Rs := match w with
  | false => ⟨s.n + cbQ s h, S1 s, s.m - cbQ s h, O1 s h, s.c⟩
  | true => ⟨s.n + cbQ s h - 1, fun i => S1 s (i + 1), s.m - cbQ s h + 1, fun i => if i < s.m - cbQ s h then O1 s h i else ⟨(S1 s 0).b, 0, if (S1 s 0).r < T.rv then (S1 s 0).r + 1 else 0, h + T.re⟩, s.c + if (S1 s 0).r < T.rv then T.wo else T.ti⟩
def lvQ (T : Tn) (s : Rs) (a : Int) : Nat → Int
  | 0 => a
  | j + 1 => lvQ T s a j - min (min (lvQ T s a j) (T.rt (s.S j).b.toNat)) (T.rm (s.S j).b.toNat - T.we * (s.S j).r - (s.S j).f)
def tkQ (T : Tn) (s : Rs) (a : Int) (j : Nat) : Int := min (min (lvQ T s a j) (T.rt (s.S j).b.toNat)) (T.rm (s.S j).b.toNat - T.we * (s.S j).r - (s.S j).f)
def psQ (T : Tn) (s : Rs) (a : Int) (j : Nat) (i : Nat) : Bx := ⟨(s.S i).b, if i < j then (s.S i).f + tkQ T s a i else (s.S i).f, (s.S i).r, (s.S i).k⟩
end Go.Proofs.Ytpdcajchppoocaa

set_option maxRecDepth 100000
namespace Go.Proofs.Ytpdcajchppoocaa
open Go Go.Lg
end Go.Proofs.Ytpdcajchppoocaa

set_option maxRecDepth 100000
namespace Go.Proofs.Ytpdcajchppoocaa
open Go Go.Lg
end Go.Proofs.Ytpdcajchppoocaa

set_option maxRecDepth 100000
namespace Go.Proofs.Ytpdcajchppoocaa
open Go Go.Lg
attribute [local irreducible] bodyH
end Go.Proofs.Ytpdcajchppoocaa

set_option maxRecDepth 100000
namespace Go.Proofs.Ytpdcajchppoocaa
open Go Go.Lg
attribute [local irreducible] bodyH
end Go.Proofs.Ytpdcajchppoocaa

set_option maxRecDepth 100000
namespace Go.Proofs.Ytpdcajchppoocaa
open Go Go.Lg
attribute [local irreducible] bodyH
end Go.Proofs.Ytpdcajchppoocaa

set_option maxRecDepth 100000
namespace Go.Proofs.Ytpdcajchppoocaa
open Go Go.Lg
attribute [local irreducible] bodyH
noncomputable def nxQ (T:Tn) (s:Rs) (h:Int) (w:Bool) (a:Int):Rs:=⟨(wtQ T s h w).n,psQ T (wtQ T s h w) a (wtQ T s h w).n,(wtQ T s h w).m,(wtQ T s h w).O,(wtQ T s h w).c⟩
def beQ (T:Tn):Rs:=⟨T.nb,fun i=>⟨i,T.fo i,0,0⟩,0,fun _=>⟨0,0,0,0⟩,0⟩
noncomputable def qA (T:Tn) (w:Nat→Bool) (c:Nat→Int):Nat→Rs
 | 0=>beQ T
 | z+1=>nxQ T (qA T w c z) z (w z) (c z)
noncomputable def slQ (T:Tn) (w:Nat→Bool) (c:Nat→Int) (z:Nat):Int:=lvQ T (wtQ T (qA T w c z) z (w z)) (c z) (wtQ T (qA T w c z) z (w z)).n
def wrQ (T:Tn) (w:Nat→Bool) (c:Nat→Int) (z:Nat):Prop:=w z=true∧(qA T w c z).n+cbQ (qA T w c z) z<2
end Go.Proofs.Ytpdcajchppoocaa
