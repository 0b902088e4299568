import Derived.ProofKit
import Derived.Test.YtlhdlkplgafolaaProg
import Derived.Test.YtlhdlkplgafolaaPfPgPhPiPjPk
import Derived.Test.YtlhdlkplgafolaaPn
set_option linter.unusedVariables false
set_option linter.unusedSimpArgs false
namespace Go.Proofs.Ytlhdlkplgafolaa
open Go Go.Lg
attribute [local irreducible] bodyH
def rI (x : Int) : Prop := -9223372036854775808 ≤ x ∧ x ≤ 9223372036854775807
def rE {α : Type} (a : α) : Prop := a = a
def tt3 : Prop := True ∧ True ∧ True
def tt4 : Prop := True ∧ True ∧ True ∧ True
def tt5 : Prop := True ∧ True ∧ True ∧ True ∧ True
def tt13 : Prop := True ∧ True ∧ True ∧ True ∧ True ∧ True ∧ True ∧ True ∧ True ∧ True ∧ True ∧ True ∧ True
def tt14 : Prop := True ∧ tt13
structure Wg where
  elo : Int
  ehi : Int
  flo : Int
  fhi : Int
def Wg.sv (w : Wg) : SV := .agg [i6 w.elo, i6 w.ehi, i6 w.flo, i6 w.fhi]
structure Wl where
  n : Nat
  f : Nat → Wg
def Wl.sv (W : Wl) : SV := .lst 4 W.n fun i => (W.f i).sv
structure Tw where
  lo : Int
  hi : Int
def Tw.sv (t : Tw) : SV := .agg [i6 t.lo, i6 t.hi]
def tOf : SV → Tw
  | .agg [.int _ a, .int _ b] => ⟨a, b⟩
  | _ => ⟨0, 0⟩
structure okSp (m lo hi : Int) : Prop where
  a : 0 ≤ lo
  b : lo ≤ hi
  c : hi ≤ m
structure okW (w : Wg) : Prop where
  e : okSp 100000 w.elo w.ehi
  f : okSp 100000 w.flo w.fhi
  c : w.elo ≤ w.fhi
noncomputable def sumJ (g : Nat → Int) : Nat → Int
  | 0 => 0
  | j + 1 => sumJ g j + g j
def frC (g : FuncId) : Ctr := ⟨g, fun args k => match args with
  | [.int .i64 n, .int .i64 a, .int .i64 b] => k (.dec (a ≤ n ∧ n ≤ b) (Classical.propDecidable _))
  | _ => False⟩
noncomputable def frG (n a b : Int) : Prop := funH Try.prog (ctrs []) noX (ictrs []) noL noL 50 [i6 n, i6 a, i6 b] (.dec (a ≤ n ∧ n ≤ b) (Classical.propDecidable _))
noncomputable def rfrG (n a b : Int) : Prop := funH Try.prog (ctrs []) noX (ictrs []) noL noL 33 [i6 n, i6 a, i6 b] (.dec (a ≤ n ∧ n ≤ b) (Classical.propDecidable _))
def vhC (g : FuncId) : Ctr := ⟨g, fun args k => match args with
  | [.agg [.int .i64 a, .int .i64 b], .int .i64 m] => k (.dec (okSp m a b) (Classical.propDecidable _))
  | _ => False⟩
noncomputable def vhG (m a b : Int) : Prop := funH Try.prog (ctrs [frC 50]) noX (ictrs []) noL noL 49 [.agg [i6 a, i6 b], i6 m] (.dec (okSp m a b) (Classical.propDecidable _))
noncomputable def rvhG (m a b : Int) : Prop := funH Try.prog (ctrs []) noX (ictrs []) noL noL 39 [.agg [i6 a, i6 b], i6 m] (.dec (okSp m a b) (Classical.propDecidable _))
def plC : Ctr := ⟨78, fun args k => match args with
  | [.agg [.int .i64 a, .int .i64 b], .agg [.int .i64 c, .int .i64 d]] => (rI (a + c) ∧ rI (b + d)) ∧ k (.agg [i6 (a + c), i6 (b + d)])
  | _ => False⟩
noncomputable def plG (a b c d : Int) : Prop := funH Try.prog (ctrs []) noX (ictrs []) noL noL 78 [.agg [i6 a, i6 b], .agg [i6 c, i6 d]] (.agg [i6 (a + c), i6 (b + d)])
def twL (n : Nat) (f : Nat → Tw) : SV := .lst 2 n fun i => (f i).sv
def ftOf (f : Nat → SV) (i : Nat) : Tw := tOf (f i)
end Go.Proofs.Ytlhdlkplgafolaa

set_option maxRecDepth 100000
namespace Go.Proofs.Ytlhdlkplgafolaa
open Go Go.Lg
theorem frG_vc (n:Int) (a:Int) (b:Int):frG n a b =
((a≤n→(n≤b↔a≤n∧n≤b)∧True)∧(¬a≤n→(false=true↔a≤n∧n≤b)∧True)):=by kernel_rfl
theorem rfrG_vc (n:Int) (a:Int) (b:Int):rfrG n a b =
((a≤n→(n≤b↔a≤n∧n≤b)∧True)∧(¬a≤n→(false=true↔a≤n∧n≤b)∧True)):=by kernel_rfl
theorem vhG_vc (m:Int) (a:Int) (b:Int):vhG m a b =
((0:Nat)<(1:Nat) ∧
 (0:Nat)<(1:Nat) ∧
  ((0:Int)≤a∧a≤b→(0:Nat)<(1:Nat)∧(b≤m↔okSp m a b)∧True) ∧
   (¬((0:Int)≤a∧a≤b)→(false=true↔okSp m a b)∧True)):=by kernel_rfl
theorem rvhG_vc (m:Int) (a:Int) (b:Int):rvhG m a b =
((0:Nat)<(1:Nat) ∧
 ((0:Int)≤a →
   (0:Nat)<(1:Nat) ∧
    (0:Nat)<(1:Nat) ∧
     (a≤b→(0:Nat)<(1:Nat)∧(b≤m↔okSp m a b)∧True) ∧
      (¬a≤b→(false=true↔okSp m a b)∧True)) ∧
  (¬(0:Int)≤a→(false=true↔okSp m a b)∧True)):=by kernel_rfl
theorem plG_vc (a:Int) (b:Int) (c:Int) (d:Int):plG a b c d =
((0:Nat)<(1:Nat) ∧
 (0:Nat)<(1:Nat) ∧
  ((-9223372036854775808:Int)≤a+c∧a+c≤(9223372036854775807:Int)) ∧
   (0:Nat)<(1:Nat) ∧
    (0:Nat)<(1:Nat) ∧
     ((-9223372036854775808:Int)≤b+d∧b+d≤(9223372036854775807:Int)) ∧
      (0:Nat)<(1:Nat)∧a+c=a+c∧b+d=b+d∧True):=by kernel_rfl
end Go.Proofs.Ytlhdlkplgafolaa

set_option maxRecDepth 100000
namespace Go.Proofs.Ytlhdlkplgafolaa
open Go Go.Lg
attribute [local irreducible] funS bodyH
theorem mixed:Try.prog.follows .mixedOrders=true:=by kernel_rfl
theorem nilS_x {γ:GS→noGhost.S}:SoundXH Try.prog noGhost γ noX:=noX_sound
theorem nilS_ic:SoundIH Try.prog (ictrs []):=ictrs_sound (by intro x hx; simp at hx)
theorem nilS_cs:SoundS Try.prog (ctrs []):=ctrs_sound (by intro x hx; simp at hx)
theorem plainD {cs:CSpec} {cx:CX} {ic:IC} {sp isp f args res} (hcs:SoundS Try.prog cs) (hcx:SoundXH Try.prog noGhost γ0 cx) (hic:SoundIH Try.prog ic) (h:funH Try.prog cs cx ic sp isp f args res) (hp:plainS res):Does Try.prog f true (SV.denL args) res.den :=
 Does.plain (funH_does hcs hcx hic mixed h) hp
theorem newD {cs:CSpec} {cx:CX} {ic:IC} {sp isp f args res} (hcs:SoundS Try.prog cs) (hcx:SoundXH Try.prog noGhost γ0 cx) (hic:SoundIH Try.prog ic) (h:funN Try.prog cs cx ic sp isp f args res) (hp:flatS res):Does Try.prog f true (SV.denL args) res.den :=
 funN_does hcs hcx hic mixed h hp
theorem fr_true (n a b:Int):frG n a b:=by
 rw [frG_vc]
 simp only [and_true,Bool.false_eq_true,false_iff]
 exact ⟨fun h=>⟨fun h2=>⟨h,h2⟩,fun h2=>h2.2⟩,fun h h2=>h h2.1⟩
theorem rfr_true (n a b:Int):rfrG n a b:=by
 rw [rfrG_vc]
 simp only [and_true,Bool.false_eq_true,false_iff]
 exact ⟨fun h=>⟨fun h2=>⟨h,h2⟩,fun h2=>h2.2⟩,fun h h2=>h h2.1⟩
theorem fr_ok:(frC 50).Ok Try.prog:=by
 refine ⟨by kernel_rfl,fun x k hk=>?_⟩
 simp only [frC] at hk
 split at hk
 ·rename_i n a b
  exact ⟨_,plainD nilS_cs nilS_x nilS_ic (fr_true n a b) trivial,hk⟩
 ·exact hk.elim
theorem rfr_ok:(frC 33).Ok Try.prog:=by
 refine ⟨by kernel_rfl,fun x k hk=>?_⟩
 simp only [frC] at hk
 split at hk
 ·rename_i n a b
  exact ⟨_,plainD nilS_cs nilS_x nilS_ic (rfr_true n a b) trivial,hk⟩
 ·exact hk.elim
theorem one_cs {x:Ctr} (h:x.Ok Try.prog):SoundS Try.prog (ctrs [x]):=ctrs_sound (by intro y hy; simp at hy; subst hy; exact h)
theorem two_cs {x y:Ctr} (h:x.Ok Try.prog) (h2:y.Ok Try.prog):SoundS Try.prog (ctrs [x,y]):=ctrs_sound (by intro z hz; simp at hz; rcases hz with rfl | rfl; exact h; exact h2)
theorem three_cs {x y z:Ctr} (h:x.Ok Try.prog) (h2:y.Ok Try.prog) (h3:z.Ok Try.prog):SoundS Try.prog (ctrs [x,y,z]):=ctrs_sound (by intro u hu; simp at hu; rcases hu with rfl | rfl | rfl; exact h; exact h2; exact h3)
theorem vh_true (m a b:Int):vhG m a b:=by
 rw [vhG_vc]
 simp only [and_true,true_and,Nat.zero_lt_one,Bool.false_eq_true,false_iff]
 exact ⟨fun h=>⟨fun h2=>⟨h.1,h.2,h2⟩,fun h2=>h2.c⟩,fun h h2=>h ⟨h2.a,h2.b⟩⟩
theorem rvh_true (m a b:Int):rvhG m a b:=by
 rw [rvhG_vc]
 simp only [and_true,true_and,Nat.zero_lt_one,Bool.false_eq_true,false_iff]
 exact ⟨fun h=>⟨fun h1=>⟨fun h2=>⟨h,h1,h2⟩,fun h2=>h2.c⟩,fun h1 h2=>h1 h2.b⟩,fun h h2=>h h2.a⟩
theorem vh_ok:(vhC 49).Ok Try.prog:=by
 refine ⟨by kernel_rfl,fun x k hk=>?_⟩
 simp only [vhC] at hk
 split at hk
 ·rename_i a b m
  exact ⟨_,plainD (one_cs fr_ok) nilS_x nilS_ic (vh_true m a b) trivial,hk⟩
 ·exact hk.elim
theorem rvh_ok:(vhC 39).Ok Try.prog:=by
 refine ⟨by kernel_rfl,fun x k hk=>?_⟩
 simp only [vhC] at hk
 split at hk
 ·rename_i a b m
  exact ⟨_,plainD nilS_cs nilS_x nilS_ic (rvh_true m a b) trivial,hk⟩
 ·exact hk.elim
theorem pl_true {a b c d:Int} (h:rI (a+c)∧rI (b+d)):plG a b c d:=by
 rw [plG_vc]
 simp only [rI] at h
 simp only [and_true,true_and,Nat.zero_lt_one]
 exact h
theorem pl_ok:plC.Ok Try.prog:=by
 refine ⟨by kernel_rfl,fun x k hk=>?_⟩
 simp only [plC] at hk
 split at hk
 ·rename_i a b c d
  obtain ⟨h1,hk⟩:=hk
  exact ⟨_,plainD nilS_cs nilS_x nilS_ic (pl_true h1) (by simp [plainS,plainS.plainL]),hk⟩
 ·exact hk.elim
end Go.Proofs.Ytlhdlkplgafolaa

namespace Go.Proofs.Ytlhdlkplgafolaa
open Go Go.Lg
attribute [local irreducible] bodyH funS
end Go.Proofs.Ytlhdlkplgafolaa

set_option maxRecDepth 100000
namespace Go.Proofs.Ytlhdlkplgafolaa
open Go Go.Lg
end Go.Proofs.Ytlhdlkplgafolaa

set_option maxRecDepth 100000
namespace Go.Proofs.Ytlhdlkplgafolaa
open Go Go.Lg
attribute [local irreducible] funS bodyH
end Go.Proofs.Ytlhdlkplgafolaa
