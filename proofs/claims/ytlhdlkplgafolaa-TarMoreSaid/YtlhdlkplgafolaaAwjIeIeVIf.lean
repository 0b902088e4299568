import Derived.Test.YtlhdlkplgafolaaRows
import Derived.Test.YtlhdlkplgafolaaMkMl
import Derived.Test.YtlhdlkplgafolaaIaIaVIbIcIcVId
set_option linter.unusedVariables false
set_option linter.unusedSimpArgs false
namespace Go.Proofs.Ytlhdlkplgafolaa
open Go Go.Lg
abbrev I (n:Nat):AV:=.sc (.int .i64 (.ofNat n))
abbrev J (n:Nat):AV:=.sc (.int .i64 (.negSucc n))
abbrev q1:List AV:=[I 1,I 4,.isl 2 [.agg [I 0,I 0],.agg [I 0,I 0],.agg [I 3,I 3]],I 1,I 2]
abbrev q2:List AV:=[I 0,I 0,I 0,I 0,I 20,I 20,I 0,I 0,I 1,I 1,I 0,I 0,I 0,I 0,I 0,I 0,I 0]
abbrev q3:List AV:=[I 0,I 0,I 0,I 0,I 0,I 0,I 0,I 0,I 0,I 0,I 0,I 0,I 0,I 0,I 0,I 0,I 0]
abbrev q4:List AV:=[I 3,I 0,I 0,I 0,I 2,I 2,I 6,I 9,I 4,I 7,I 0,I 0,I 0,I 0,I 0,I 0,I 15]
abbrev q5:List AV:=[I 2,I 0,I 0,I 0,I 8,I 8,I 4,I 6,I 3,I 5,I 0,I 0,I 0,I 0,I 0,I 0,I 10]
abbrev q6:List AV:=[I 0,I 6,.isl 2 [.agg [I 0,I 0],.agg [I 2,I 3],.agg [I 1,I 2]],I 5,I 4]
abbrev q0:List AV:=[.agg [.isl 1 [I 20,I 0,I 1],.isl 5 [.agg q6,.agg q1],.isl 3 [.agg [I 2,I 5,I 9],.agg [I 1,I 10,I 4],.agg [I 0,I 30,I 2]]]]
def Aw0:Fact:=⟨25,q0,4,(.node (.node (.node (.leaf (some ⟨3,q0,none⟩)) .nil .nil .nil .nil .nil .nil .nil) .nil .nil .nil .nil .nil .nil .nil) (.node (.node (.leaf (some ⟨3,q0,none⟩)) .nil .nil .nil .nil .nil .nil .nil) .nil .nil .nil .nil .nil .nil .nil) (.node (.node (.leaf (some ⟨3,q0,none⟩)) .nil .nil .nil .nil .nil .nil .nil) .nil .nil .nil .nil .nil .nil .nil) (.node (.node (.leaf (some ⟨17,[.agg q3],none⟩)) .nil .nil .nil .nil .nil .nil .nil) .nil .nil .nil .nil .nil .nil .nil) .nil .nil .nil .nil),.sc (.bool true),4,4,(.node (.node (.node (.leaf (some ⟨3,q0,none⟩)) .nil .nil .nil .nil .nil .nil .nil) .nil .nil .nil .nil .nil .nil .nil) (.node (.node (.leaf (some ⟨3,q0,none⟩)) .nil .nil .nil .nil .nil .nil .nil) .nil .nil .nil .nil .nil .nil .nil) (.node (.node (.leaf (some ⟨3,q0,none⟩)) .nil .nil .nil .nil .nil .nil .nil) .nil .nil .nil .nil .nil .nil .nil) (.node (.node (.leaf (some ⟨17,[.agg q3],none⟩)) .nil .nil .nil .nil .nil .nil .nil) .nil .nil .nil .nil .nil .nil .nil) .nil .nil .nil .nil)⟩
theorem Aw0_ok:FactOK Try.prog Aw0:=chkF_ok (k:=300) (by kernel_rfl) (T:=[]) facts_nil (by kernel_rfl)
def Aw1:Fact:=⟨46,[.agg q2,I 0,.agg q6,I 3],0,.nil,.tup [.agg q4,.sc (.bool true)],0,0,.nil⟩
theorem Aw1_ok:FactOK Try.prog Aw1:=chkF_ok (k:=300) (by kernel_rfl) (T:=[]) facts_nil (by kernel_rfl)
def Aw2:Fact:=⟨46,[.agg q4,I 1,.agg q1,I 1],0,.nil,.tup [.agg [I 3,I 1,I 0,I 0,I 2,I 2,I 2,I 5,I 7,I 10,I 0,I 0,I 0,I 0,I 0,I 0,I 16],.sc (.bool true)],0,0,.nil⟩
theorem Aw2_ok:FactOK Try.prog Aw2:=chkF_ok (k:=300) (by kernel_rfl) (T:=[]) facts_nil (by kernel_rfl)
def Aw3:Fact:=⟨25,q0,5,(.node (.node (.node (.leaf (some ⟨3,q0,none⟩)) .nil .nil .nil .nil .nil .nil .nil) .nil .nil .nil .nil .nil .nil .nil) (.node (.node (.leaf (some ⟨2,[.agg [I 2,I 2],.agg [I 2,I 5],.agg [I 7,I 10]],none⟩)) .nil .nil .nil .nil .nil .nil .nil) .nil .nil .nil .nil .nil .nil .nil) (.node (.node (.leaf (some ⟨3,q0,none⟩)) .nil .nil .nil .nil .nil .nil .nil) .nil .nil .nil .nil .nil .nil .nil) (.node (.node (.leaf (some ⟨3,q0,none⟩)) .nil .nil .nil .nil .nil .nil .nil) .nil .nil .nil .nil .nil .nil .nil) (.node (.node (.leaf (some ⟨17,[.agg q3],none⟩)) .nil .nil .nil .nil .nil .nil .nil) .nil .nil .nil .nil .nil .nil .nil) .nil .nil .nil),.sc (.bool true),5,5,(.node (.node (.node (.leaf (some ⟨3,q0,none⟩)) .nil .nil .nil .nil .nil .nil .nil) .nil .nil .nil .nil .nil .nil .nil) (.node (.node (.leaf (some ⟨2,[.agg [I 2,I 2],.agg [I 2,I 5],.agg [I 7,I 10]],none⟩)) .nil .nil .nil .nil .nil .nil .nil) .nil .nil .nil .nil .nil .nil .nil) (.node (.node (.leaf (some ⟨3,q0,none⟩)) .nil .nil .nil .nil .nil .nil .nil) .nil .nil .nil .nil .nil .nil .nil) (.node (.node (.leaf (some ⟨3,q0,none⟩)) .nil .nil .nil .nil .nil .nil .nil) .nil .nil .nil .nil .nil .nil .nil) (.node (.node (.leaf (some ⟨17,[.agg q3],none⟩)) .nil .nil .nil .nil .nil .nil .nil) .nil .nil .nil .nil .nil .nil .nil) .nil .nil .nil)⟩
theorem Aw3_ok:FactOK Try.prog Aw3:=chkF_ok (k:=300) (by kernel_rfl) (T:=[]) facts_nil (by kernel_rfl)
def Aw4:Fact:=⟨46,[.agg q2,I 0,.agg q6,I 1],0,.nil,.tup [.agg [I 1,I 0,I 0,I 0,I 14,I 14,I 2,I 3,I 2,I 3,I 0,I 0,I 0,I 0,I 0,I 0,I 5],.sc (.bool true)],0,0,.nil⟩
theorem Aw4_ok:FactOK Try.prog Aw4:=chkF_ok (k:=300) (by kernel_rfl) (T:=[]) facts_nil (by kernel_rfl)
def Aw5:Fact:=⟨46,[.agg [I 1,I 0,I 0,I 0,I 14,I 14,I 2,I 3,I 2,I 3,I 0,I 0,I 0,I 0,I 0,I 0,I 5],I 1,.agg q1,I 1],0,.nil,.tup [.agg q3,.sc (.bool false)],0,0,.nil⟩
theorem Aw5_ok:FactOK Try.prog Aw5:=chkF_ok (k:=300) (by kernel_rfl) (T:=[]) facts_nil (by kernel_rfl)
def Aw6:Fact:=⟨25,q0,5,(.node (.node (.node (.leaf (some ⟨3,q0,none⟩)) .nil .nil .nil .nil .nil .nil .nil) .nil .nil .nil .nil .nil .nil .nil) (.node (.node (.leaf (some ⟨2,[.agg [I 2,I 2],.agg [I 2,I 5],.agg [I 7,I 10]],none⟩)) .nil .nil .nil .nil .nil .nil .nil) .nil .nil .nil .nil .nil .nil .nil) (.node (.node (.leaf (some ⟨1,[.agg [I 5],.agg [I 2],.agg [I 2]],none⟩)) .nil .nil .nil .nil .nil .nil .nil) .nil .nil .nil .nil .nil .nil .nil) (.node (.node (.leaf (some ⟨3,q0,none⟩)) .nil .nil .nil .nil .nil .nil .nil) .nil .nil .nil .nil .nil .nil .nil) (.node (.node (.leaf (some ⟨1,[I 0],none⟩)) .nil .nil .nil .nil .nil .nil .nil) .nil .nil .nil .nil .nil .nil .nil) .nil .nil .nil),.sc (.bool true),5,5,(.node (.node (.node (.leaf (some ⟨3,q0,none⟩)) .nil .nil .nil .nil .nil .nil .nil) .nil .nil .nil .nil .nil .nil .nil) (.node (.node (.leaf (some ⟨2,[.agg [I 2,I 2],.agg [I 2,I 5],.agg [I 7,I 10]],none⟩)) .nil .nil .nil .nil .nil .nil .nil) .nil .nil .nil .nil .nil .nil .nil) (.node (.node (.leaf (some ⟨1,[.agg [I 5],.agg [I 2],.agg [I 2]],none⟩)) .nil .nil .nil .nil .nil .nil .nil) .nil .nil .nil .nil .nil .nil .nil) (.node (.node (.leaf (some ⟨3,q0,none⟩)) .nil .nil .nil .nil .nil .nil .nil) .nil .nil .nil .nil .nil .nil .nil) (.node (.node (.leaf (some ⟨1,[I 0],none⟩)) .nil .nil .nil .nil .nil .nil .nil) .nil .nil .nil .nil .nil .nil .nil) .nil .nil .nil)⟩
theorem Aw6_ok:FactOK Try.prog Aw6:=chkF_ok (k:=300) (by kernel_rfl) (T:=[]) facts_nil (by kernel_rfl)
def Aw7:Fact:=⟨46,[.agg q2,I 0,.agg q6,I 0],0,.nil,.tup [.agg q2,.sc (.bool true)],0,0,.nil⟩
theorem Aw7_ok:FactOK Try.prog Aw7:=chkF_ok (k:=300) (by kernel_rfl) (T:=[]) facts_nil (by kernel_rfl)
def Aw8:Fact:=⟨46,[.agg q2,I 1,.agg q1,I 0],0,.nil,.tup [.agg q2,.sc (.bool true)],0,0,.nil⟩
theorem Aw8_ok:FactOK Try.prog Aw8:=chkF_ok (k:=300) (by kernel_rfl) (T:=[]) facts_nil (by kernel_rfl)
def Aw9:Fact:=⟨46,[.agg q2,I 1,.agg q1,I 1],0,.nil,.tup [.agg q3,.sc (.bool false)],0,0,.nil⟩
theorem Aw9_ok:FactOK Try.prog Aw9:=chkF_ok (k:=300) (by kernel_rfl) (T:=[]) facts_nil (by kernel_rfl)
def Aw10:Fact:=⟨46,[.agg [I 1,I 0,I 0,I 0,I 14,I 14,I 2,I 3,I 2,I 3,I 0,I 0,I 0,I 0,I 0,I 0,I 5],I 1,.agg q1,I 0],0,.nil,.tup [.agg [I 1,I 0,I 0,I 0,I 14,I 14,I 2,I 3,I 2,I 3,I 0,I 0,I 0,I 0,I 0,I 0,I 5],.sc (.bool true)],0,0,.nil⟩
theorem Aw10_ok:FactOK Try.prog Aw10:=chkF_ok (k:=300) (by kernel_rfl) (T:=[]) facts_nil (by kernel_rfl)
def Aw11:Fact:=⟨46,[.agg q2,I 0,.agg q6,I 2],0,.nil,.tup [.agg q5,.sc (.bool true)],0,0,.nil⟩
theorem Aw11_ok:FactOK Try.prog Aw11:=chkF_ok (k:=300) (by kernel_rfl) (T:=[]) facts_nil (by kernel_rfl)
def Aw12:Fact:=⟨46,[.agg q5,I 1,.agg q1,I 0],0,.nil,.tup [.agg q5,.sc (.bool true)],0,0,.nil⟩
theorem Aw12_ok:FactOK Try.prog Aw12:=chkF_ok (k:=300) (by kernel_rfl) (T:=[]) facts_nil (by kernel_rfl)
def Aw13:Fact:=⟨46,[.agg q5,I 1,.agg q1,I 1],0,.nil,.tup [.agg [I 2,I 1,I 0,I 0,I 8,I 8,I 0,I 2,I 6,I 8,I 0,I 0,I 0,I 0,I 0,I 0,I 11],.sc (.bool true)],0,0,.nil⟩
theorem Aw13_ok:FactOK Try.prog Aw13:=chkF_ok (k:=300) (by kernel_rfl) (T:=[]) facts_nil (by kernel_rfl)
def Aw14:Fact:=⟨46,[.agg q5,I 1,.agg q1,I 2],0,.nil,.tup [.agg q3,.sc (.bool false)],0,0,.nil⟩
theorem Aw14_ok:FactOK Try.prog Aw14:=chkF_ok (k:=300) (by kernel_rfl) (T:=[]) facts_nil (by kernel_rfl)
def Aw15:Fact:=⟨46,[.agg q4,I 1,.agg q1,I 0],0,.nil,.tup [.agg q4,.sc (.bool true)],0,0,.nil⟩
theorem Aw15_ok:FactOK Try.prog Aw15:=chkF_ok (k:=300) (by kernel_rfl) (T:=[]) facts_nil (by kernel_rfl)
def Aw16:Fact:=⟨46,[.agg q4,I 1,.agg q1,I 2],0,.nil,.tup [.agg q3,.sc (.bool false)],0,0,.nil⟩
theorem Aw16_ok:FactOK Try.prog Aw16:=chkF_ok (k:=300) (by kernel_rfl) (T:=[]) facts_nil (by kernel_rfl)
def Aw17:Fact:=⟨46,[.agg q2,I 0,.agg q6,I 4],0,.nil,.tup [.agg q3,.sc (.bool false)],0,0,.nil⟩
theorem Aw17_ok:FactOK Try.prog Aw17:=chkF_ok (k:=300) (by kernel_rfl) (T:=[]) facts_nil (by kernel_rfl)
theorem Aw_mixed:Try.prog.follows .mixedOrders=true:=by kernel_rfl
theorem Aw_does:Does Try.prog 10 false [] (.sc (.bool true)):=runTrueT_does (k:=300) Aw_mixed (T:=[Aw0,Aw1,Aw2,Aw3,Aw4,Aw5,Aw6,Aw7,Aw8,Aw9,Aw10,Aw11,Aw12,Aw13,Aw14,Aw15,Aw16,Aw17]) (facts_cons Aw0_ok (facts_cons Aw1_ok (facts_cons Aw2_ok (facts_cons Aw3_ok (facts_cons Aw4_ok (facts_cons Aw5_ok (facts_cons Aw6_ok (facts_cons Aw7_ok (facts_cons Aw8_ok (facts_cons Aw9_ok (facts_cons Aw10_ok (facts_cons Aw11_ok (facts_cons Aw12_ok (facts_cons Aw13_ok (facts_cons Aw14_ok (facts_cons Aw15_ok (facts_cons Aw16_ok (facts_cons Aw17_ok facts_nil)))))))))))))))))) (by kernel_rfl)
end Go.Proofs.Ytlhdlkplgafolaa

namespace Go.Proofs.Ytlhdlkplgafolaa
open Go Go.Lg
attribute [local irreducible] bodyH funS
def awC:Ctr:=⟨10,fun args k=>match args with
 | []=>k (.bool true)
 | _=>False⟩
end Go.Proofs.Ytlhdlkplgafolaa

set_option maxRecDepth 100000
namespace Go.Proofs.Ytlhdlkplgafolaa
open Go Go.Lg
end Go.Proofs.Ytlhdlkplgafolaa

set_option maxRecDepth 100000
namespace Go.Proofs.Ytlhdlkplgafolaa
open Go Go.Lg
attribute [local irreducible] funS bodyH
theorem tm_bd {a b:Int} (ha:0≤a) (hb:0<b):0≤a.tmod b∧a.tmod b<b:=by
 rw [Int.tmod_eq_emod_of_nonneg ha]
 exact ⟨Int.emod_nonneg _ (by omega),Int.emod_lt_of_pos _ hb⟩
theorem aw_ok:awC.Ok Try.prog:=by
 refine ⟨by kernel_rfl,fun x k hk=>?_⟩
 simp only [awC] at hk
 split at hk
 ·exact ⟨.bool true,Does.plain (res:=.bool true) Aw_does trivial,hk⟩
 ·exact hk.elim
end Go.Proofs.Ytlhdlkplgafolaa
