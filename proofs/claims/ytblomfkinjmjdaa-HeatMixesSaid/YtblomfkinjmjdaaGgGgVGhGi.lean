import Derived.Test.YtblomfkinjmjdaaGeGeVGf
set_option linter.unusedVariables false
set_option linter.unusedSimpArgs false
namespace Go.Proofs.Ytblomfkinjmjdaa
open Go Go.Lg
attribute [local irreducible] bodyH funS
noncomputable def rinG (n a b:Int):Prop:=funH Try.prog (ctrs []) noX (ictrs []) noL noL 31 [i6 n,i6 a,i6 b] (.dec (a≤n∧n≤b) (Classical.propDecidable _))
noncomputable def rinC:Ctr:={ frC with f:=31 }
noncomputable def rspG (a b:Int):Prop:=funH Try.prog (ctrs []) noX (ictrs []) noL noL 30 [.agg [i6 a,i6 b]] (.dec (okSp a b) (Classical.propDecidable _))
noncomputable def rspC:Ctr:={ vhC with f:=30 }
end Go.Proofs.Ytblomfkinjmjdaa

set_option maxRecDepth 100000
namespace Go.Proofs.Ytblomfkinjmjdaa
open Go Go.Lg
theorem rinG_vc (n:Int) (a:Int) (b:Int):rinG n a b =
((a≤n→(n≤b↔a≤n∧n≤b)∧True)∧(¬a≤n→(false=true↔a≤n∧n≤b)∧True)):=by kernel_rfl
theorem rspG_vc (a:Int) (b:Int):rspG a b =
((0:Nat)<(1:Nat) ∧
 ((0:Int)≤a →
   (0:Nat)<(1:Nat) ∧
    (0:Nat)<(1:Nat) ∧
     (a≤b→(0:Nat)<(1:Nat)∧(b≤(10000:Int)↔okSp a b)∧True) ∧
      (¬a≤b→(false=true↔okSp a b)∧True)) ∧
  (¬(0:Int)≤a→(false=true↔okSp a b)∧True)):=by kernel_rfl
end Go.Proofs.Ytblomfkinjmjdaa

set_option maxRecDepth 100000
namespace Go.Proofs.Ytblomfkinjmjdaa
open Go Go.Lg
attribute [local irreducible] funS bodyH
theorem rin_true (n a b:Int):rinG n a b:=by
 rw [rinG_vc]
 simp only [and_true,Bool.false_eq_true,false_iff]
 exact ⟨fun h=>⟨fun h2=>⟨h,h2⟩,fun h2=>h2.2⟩,fun h h2=>h h2.1⟩
theorem rin_ok:rinC.Ok Try.prog:=by
 refine ⟨by kernel_rfl,fun x k hk=>?_⟩
 simp only [rinC,frC] at hk
 split at hk
 ·rename_i n a b
  have hh:=rin_true n a b
  unfold rinG at hh
  exact ⟨_,Does.plain (funH_does nilS_cs nilS_x nilS_ic mixed hh) trivial,hk⟩
 ·exact hk.elim
theorem rin_cs:SoundS Try.prog (ctrs [rinC]):=ctrs_sound (by intro x hx; simp at hx; subst hx; exact rin_ok)
theorem rsp_true (a b:Int):rspG a b:=by
 rw [rspG_vc]
 simp only [and_true,true_and,Nat.zero_lt_one,Bool.false_eq_true,false_iff]
 refine ⟨fun h=>⟨fun h1=>⟨fun h2=>⟨h,h1,h2⟩,fun h2=>h2.c⟩,fun h1 h2=>h1 h2.b⟩,fun h h2=>h h2.a⟩
theorem rsp_ok:rspC.Ok Try.prog:=by
 refine ⟨by kernel_rfl,fun x k hk=>?_⟩
 simp only [rspC,vhC] at hk
 split at hk
 ·rename_i a b
  have hh:=rsp_true a b
  unfold rspG at hh
  exact ⟨_,Does.plain (funH_does nilS_cs nilS_x nilS_ic mixed hh) trivial,hk⟩
 ·exact hk.elim
end Go.Proofs.Ytblomfkinjmjdaa

set_option maxRecDepth 100000
namespace Go.Proofs.Ytblomfkinjmjdaa
open Go Go.Lg
attribute [local irreducible] funS bodyH
end Go.Proofs.Ytblomfkinjmjdaa
