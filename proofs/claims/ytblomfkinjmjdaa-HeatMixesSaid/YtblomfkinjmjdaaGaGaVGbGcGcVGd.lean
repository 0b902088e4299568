import Derived.ProofKit
import Derived.Test.YtblomfkinjmjdaaProg
import Derived.Test.YtblomfkinjmjdaaPfPgPhPiPjPkPnPu
set_option linter.unusedVariables false
set_option linter.unusedSimpArgs false
namespace Go.Proofs.Ytblomfkinjmjdaa
open Go Go.Lg
attribute [local irreducible] bodyH
def rI (x:Int):Prop:=-9223372036854775808≤x∧x≤9223372036854775807
def rE {α:Type} (a:α):Prop:=a=a
def tt3:Prop:=True∧True∧True
def tt4:Prop:=True∧True∧True∧True
def tt5:Prop:=True∧True∧True∧True∧True
def tt13:Prop:=True∧True∧True∧True∧True∧True∧True∧True∧True∧True∧True∧True∧True
def tt14:Prop:=True∧tt13
structure Tst where
 h:Int
 s:Int
 lo:Int
 hi:Int
def Tst.sv (t:Tst):SV:=.agg [i6 t.h,i6 t.s,i6 t.lo,i6 t.hi]
structure Tl where
 n:Nat
 f:Nat→Tst
def Tl.sv (T:Tl):SV:=.lst 4 T.n fun i=>(T.f i).sv
structure De where
 w:Int
 d:Int
 sl:Int
 pay:Int
def De.cells (d:De):List SV:=[i6 d.w,i6 d.d,i6 d.sl,i6 d.pay]
def De.sv (d:De):SV:=.agg d.cells
structure okSp (lo hi:Int):Prop where
 a:0≤lo
 b:lo≤hi
 c:hi≤10000
structure okTs (t:Tst):Prop where
 h0:0≤t.h
 h1:t.h≤1048576
 s0:0≤t.s
 s1:t.s≤15
 sp:okSp t.lo t.hi
structure okDe (d:De):Prop where
 w0:1≤d.w
 w1:d.w≤10000
 d0:0≤d.d
 d1:d.d≤10000
 l0:0≤d.sl
 l1:d.sl≤d.d
 p0:0≤d.pay
 p1:d.pay≤1000000
def frC:Ctr:=⟨33,fun args k=>match args with
 | [.int .i64 n,.int .i64 a,.int .i64 b]=>k (.dec (a≤n∧n≤b) (Classical.propDecidable _))
 | _=>False⟩
noncomputable def frG (n a b:Int):Prop:=funH Try.prog (ctrs []) noX (ictrs []) noL noL 33 [i6 n,i6 a,i6 b] (.dec (a≤n∧n≤b) (Classical.propDecidable _))
def vhC:Ctr:=⟨34,fun args k=>match args with
 | [.agg [.int .i64 a,.int .i64 b]]=>k (.dec (okSp a b) (Classical.propDecidable _))
 | _=>False⟩
noncomputable def vhG (a b:Int):Prop:=funH Try.prog (ctrs [frC]) noX (ictrs []) noL noL 34 [.agg [i6 a,i6 b]] (.dec (okSp a b) (Classical.propDecidable _))
structure okHs (lo hi:Int):Prop where
 a:0≤lo
 b:lo≤hi
 c:hi≤1048576
end Go.Proofs.Ytblomfkinjmjdaa

set_option maxRecDepth 100000
namespace Go.Proofs.Ytblomfkinjmjdaa
open Go Go.Lg
theorem frG_vc (n:Int) (a:Int) (b:Int):frG n a b =
((a≤n→(n≤b↔a≤n∧n≤b)∧True)∧(¬a≤n→(false=true↔a≤n∧n≤b)∧True)):=by kernel_rfl
theorem vhG_vc (a:Int) (b:Int):vhG a b =
((0:Nat)<(1:Nat) ∧
 (0:Nat)<(1:Nat) ∧
  ((0:Int)≤a∧a≤b→(0:Nat)<(1:Nat)∧(b≤(10000:Int)↔okSp a b)∧True) ∧
   (¬((0:Int)≤a∧a≤b)→(false=true↔okSp a b)∧True)):=by kernel_rfl
end Go.Proofs.Ytblomfkinjmjdaa

set_option maxRecDepth 100000
namespace Go.Proofs.Ytblomfkinjmjdaa
open Go Go.Lg
attribute [local irreducible] funS bodyH
theorem mixed:Try.prog.follows .mixedOrders=true:=by kernel_rfl
theorem nilS_x {γ:GS→noGhost.S}:SoundXH Try.prog noGhost γ noX:=noX_sound
theorem nilS_ic:SoundIH Try.prog (ictrs []):=ictrs_sound (by intro x hx; simp at hx)
theorem nilS_cs:SoundS Try.prog (ctrs []):=ctrs_sound (by intro x hx; simp at hx)
theorem fr_true (n a b:Int):frG n a b:=by
 rw [frG_vc]
 simp only [and_true,Bool.false_eq_true,false_iff]
 exact ⟨fun h=>⟨fun h2=>⟨h,h2⟩,fun h2=>h2.2⟩,fun h h2=>h h2.1⟩
theorem fr_ok:frC.Ok Try.prog:=by
 refine ⟨by kernel_rfl,fun x k hk=>?_⟩
 simp only [frC] at hk
 split at hk
 ·rename_i n a b
  have hh:=fr_true n a b
  unfold frG at hh
  exact ⟨_,Does.plain (funH_does nilS_cs nilS_x nilS_ic mixed hh) trivial,hk⟩
 ·exact hk.elim
theorem fr_cs:SoundS Try.prog (ctrs [frC]):=ctrs_sound (by intro x hx; simp at hx; subst hx; exact fr_ok)
theorem vh_true (a b:Int):vhG a b:=by
 rw [vhG_vc]
 simp only [and_true,true_and,Nat.zero_lt_one,Bool.false_eq_true,false_iff]
 exact ⟨fun h=>⟨fun h2=>⟨h.1,h.2,h2⟩,fun h2=>h2.c⟩,fun h h2=>h ⟨h2.a,h2.b⟩⟩
theorem vh_ok:vhC.Ok Try.prog:=by
 refine ⟨by kernel_rfl,fun x k hk=>?_⟩
 simp only [vhC] at hk
 split at hk
 ·rename_i a b
  have hh:=vh_true a b
  unfold vhG at hh
  exact ⟨_,Does.plain (funH_does fr_cs nilS_x nilS_ic mixed hh) trivial,hk⟩
 ·exact hk.elim
theorem vt_cs:SoundS Try.prog (ctrs [frC,vhC]):=ctrs_sound (by intro x hx; simp at hx; rcases hx with rfl | rfl; exact fr_ok; exact vh_ok)
end Go.Proofs.Ytblomfkinjmjdaa

namespace Go.Proofs.Ytblomfkinjmjdaa
open Go Go.Lg
attribute [local irreducible] bodyH funS
noncomputable def sumJ (g:Nat→Int):Nat→Int
 | 0=>0
 | j+1=>sumJ g j+g j
def inW (t:Tst) (hour hrs:Int):Prop:=hour - hrs<t.h∧t.h≤hour
structure Oc where
 sum:Int
 by':Int
 must:Int
 pay:Int
def Oc.cells (o:Oc):List SV:=[i6 o.sum,i6 o.by',i6 o.must,i6 o.pay]
def Oc.sv (o:Oc):SV:=.agg o.cells
structure okOc (o:Oc):Prop where
 s0:0≤o.sum
 s1:o.sum≤1000000
 b0:0≤o.by'
 b1:o.by'≤1000
 m0:0≤o.must
 m1:o.must≤10000
 p0:0≤o.pay
 p1:o.pay≤1000000
end Go.Proofs.Ytblomfkinjmjdaa

set_option maxRecDepth 100000
namespace Go.Proofs.Ytblomfkinjmjdaa
open Go Go.Lg
end Go.Proofs.Ytblomfkinjmjdaa

set_option maxRecDepth 100000
namespace Go.Proofs.Ytblomfkinjmjdaa
open Go Go.Lg
attribute [local irreducible] funS bodyH
theorem sum_bd {g:Nat→Int} {B:Int}:∀ {m:Nat},(∀ j,j<m→0≤g j∧g j≤B)→0≤sumJ g m∧sumJ g m≤m*B
 | 0,_=>by simp [sumJ]
 | m+1,h=>by
  have h1:=sum_bd (g:=g) (B:=B) (m:=m) fun j hj=>h j (by omega)
  have h2:=h m (by omega)
  have:((m+1:Nat):Int)*B=m*B+B:=by push_cast; rw [Int.add_mul,Int.one_mul]
  rw [this]
  show 0≤sumJ g m+g m∧sumJ g m+g m≤_
  omega
theorem mul_bd {a b A B:Int} (h1:0≤a) (h2:a≤A) (h3:0≤b) (h4:b≤B):0≤a*b∧a*b≤A*B:=⟨Int.mul_nonneg h1 h3,Int.mul_le_mul h2 h4 h3 (by omega)⟩
end Go.Proofs.Ytblomfkinjmjdaa
