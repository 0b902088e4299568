import Derived.Test.YtblomfkinjmjdaaProg
import Derived.Test.YtblomfkinjmjdaaRaRn
import Derived.Test.YtblomfkinjmjdaaGgGgVGhGi
set_option linter.unusedVariables false
set_option linter.unusedSimpArgs false
set_option maxRecDepth 100000
namespace Go.Proofs.Ytblomfkinjmjdaa
open Go Go.Lg
def l3 (a b c:Int):SV:=.lst 1 3 fun i=>.agg [i6 (match i with | 0=>a | 1=>b | _=>c)]
theorem g_mixed:Try.prog.follows .mixedOrders=true:=by kernel_rfl
def sA (p:Nat):AV:=.isl 5 [.agg [I 50,I 55,I 1,I 10,I p],.agg [I 30,I 30,I 1,I 8,I 1],.agg [I 10,I 12,I 0,I 5,I 3]]
def tA:AV:=.isl 4 [.agg [I 3,I 0,I 40,I 48],.agg [I 8,I 1,I 44,I 46],.agg [I 20,I 0,I 30,I 35]]
def dA:AV:=.agg [I 10,I 50,I 5,I 6]
theorem d14_does:Does Try.prog 14 false [dA,tA,I 8] (.tup [I 1,I 0]):=runVT_does (k:=300) g_mixed (T:=[]) facts_nil (by kernel_rfl)
theorem d16_does:Does Try.prog 16 false [dA,tA,I 8] (.tup [.agg [I 0,I 18],I 0]):=runVT_does (k:=300) g_mixed (T:=[]) facts_nil (by kernel_rfl)
theorem d18_does:Does Try.prog 18 false [dA,tA] (.tup [I 20,I 0,I 0]):=runVT_does (k:=300) g_mixed (T:=[]) facts_nil (by kernel_rfl)
theorem d20_does:Does Try.prog 20 false [tA,I 2,I 12,.agg [I 0,I 30]] (.tup [I 15,I 0,I 0]):=runVT_does (k:=300) g_mixed (T:=[]) facts_nil (by kernel_rfl)
theorem d11a_does:Does Try.prog 11 true [sA 4,I 10,I 40,I 60] (.tup [.isl 1 [.agg [I 5],.agg [I 5],.agg [I 0]],I 25,I 0]):=runVN_does (hq:=flatS_spec (.tup [l3 5 5 0,i6 25,i6 0]) (by simp [flatS,flatSL,l3,SV.cells,scS])) (k:=300) g_mixed (T:=[]) facts_nil (by kernel_rfl)
theorem d11b_does:Does Try.prog 11 true [sA 9,I 10,I 40,I 60] (.tup [.isl 1 [.agg [I 3],.agg [I 7],.agg [I 4]],I 46,I 0]):=runVN_does (hq:=flatS_spec (.tup [l3 3 7 4,i6 46,i6 0]) (by simp [flatS,flatSL,l3,SV.cells,scS])) (k:=300) g_mixed (T:=[]) facts_nil (by kernel_rfl)
theorem d13a_does:Does Try.prog 13 false [.isl 1 [.agg [I 5],.agg [I 5],.agg [I 0]],.isl 1 [I 5,I 5,I 0]] (.sc (.bool true)):=runVT_does (k:=300) g_mixed (T:=[]) facts_nil (by kernel_rfl)
theorem d13b_does:Does Try.prog 13 false [.isl 1 [.agg [I 3],.agg [I 7],.agg [I 4]],.isl 1 [I 3,I 7,I 4]] (.sc (.bool true)):=runVT_does (k:=300) g_mixed (T:=[]) facts_nil (by kernel_rfl)
end Go.Proofs.Ytblomfkinjmjdaa

namespace Go.Proofs.Ytblomfkinjmjdaa
open Go Go.Lg
attribute [local irreducible] bodyH
def factC (g:FuncId) (a:List AV) (r:SV):Ctr:=⟨g,fun x k=>SV.denL x=a∧k r⟩
def fstP (x:SV):Int:=prI (nth' (cells' (eltV x 0)) 4)
def isZ (a b:Int):Bool:=match a,b with
 | .ofNat m,.ofNat n=>Nat.beq m n
 | _,_=>false
def aw11:Ctr:=⟨11,fun x k=>match x with
 | [l,a,b,c]=>(match isZ (fstP l) 4 with
  | true=>SV.denL [l,a,b,c]=[sA 4,I 10,I 40,I 60]∧k (.tup [l3 5 5 0,i6 25,i6 0])
  | false=>SV.denL [l,a,b,c]=[sA 9,I 10,I 40,I 60]∧k (.tup [l3 3 7 4,i6 46,i6 0]))
 | _=>False⟩
def aw14:Ctr:=factC 14 [dA,tA,I 8] (.tup [i6 1,i6 0])
def aw16:Ctr:=factC 16 [dA,tA,I 8] (.tup [.agg [i6 0,i6 18],i6 0])
def aw18:Ctr:=factC 18 [dA,tA] (.tup [i6 20,i6 0,i6 0])
def aw20:Ctr:=factC 20 [tA,I 2,I 12,.agg [I 0,I 30]] (.tup [i6 15,i6 0,i6 0])
def aw13:Ctr:=⟨13,fun x k=>match x with
 | [_,l]=>(match isZ (prI (eltV l 0)) 5 with
  | true=>SV.denL x=[.isl 1 [.agg [I 5],.agg [I 5],.agg [I 0]],.isl 1 [I 5,I 5,I 0]]∧k (.bool true)
  | false=>SV.denL x=[.isl 1 [.agg [I 3],.agg [I 7],.agg [I 4]],.isl 1 [I 3,I 7,I 4]]∧k (.bool true))
 | _=>False⟩
def spnC:Ctr:=⟨29,fun x k=>match x with
 | [.int .i64 a,.int .i64 b]=>k (.agg [i6 a,i6 b])
 | _=>False⟩
noncomputable def spnG (a b:Int):Prop:=funH Try.prog (ctrs []) noX (ictrs []) noL noL 29 [i6 a,i6 b] (.agg [i6 a,i6 b])
noncomputable def csA:CSpec:=ctrs [spnC,aw11,aw14,aw16,aw18,aw20,aw13]
noncomputable def cxA:CX:=inl Try.prog csA none (ictrs []) 28 noL noL (litX noX)
noncomputable def awakeG:Prop:=funH Try.prog csA cxA (ictrs []) noL noL 9 [] (.bool true)
end Go.Proofs.Ytblomfkinjmjdaa

set_option maxRecDepth 100000
namespace Go.Proofs.Ytblomfkinjmjdaa
open Go Go.Lg
attribute [local irreducible] bodyH
theorem spnG_vc (a b:Int):spnG a b=((0:Nat)<1∧a=a∧b=b∧True):=by kernel_rfl
theorem spn_true (a b:Int):spnG a b:=by
 rw [spnG_vc]; simp
theorem awakeG_vc:awakeG=(((∀ i:Nat,(@Eq Bool (true) (true)))∧((∀ i:Nat,(@Eq Bool (true) (true)))∧True))∧(((∀ i:Nat,(@Eq Bool (true) (true)))∧((∀ i:Nat,(@Eq Bool (true) (true)))∧True))∧((1≤1)∧((3≤3)∧((∀ i:Nat,((i+1≤3)→(((5:Nat)=5)∧(True∧(True∧(True∧(True∧(True∧True))))))))∧((@Eq (List AV) [sA 4,I 10,I 40,I 60] [sA 4,I 10,I 40,I 60])∧((Int.NonNeg (Int.ofNat 0))∧((Int.NonNeg (Int.ofNat 2))∧((5≤5)∧((1≤3)∧((∀ i':Nat,(@Eq Bool (true) (true)))∧((3≤3)∧((∀ i:Nat,((i+1≤3)→(((5:Nat)=5)∧(True∧(True∧(True∧(True∧(True∧True))))))))∧((@Eq (List AV) [sA 9,I 10,I 40,I 60] [sA 9,I 10,I 40,I 60])∧((1≤1)∧((3≤3)∧((∀ i:Nat,((i+1≤3)→(((4:Nat)=4)∧(True∧(True∧(True∧(True∧True)))))))∧((@Eq (List AV) [dA,tA,I 8] [dA,tA,I 8])∧((1≤1)∧((3≤3)∧((∀ i:Nat,((i+1≤3)→(((4:Nat)=4)∧(True∧(True∧(True∧(True∧True)))))))∧((@Eq (List AV) [dA,tA,I 8] [dA,tA,I 8])∧((1≤1)∧((3≤3)∧((∀ i:Nat,((i+1≤3)→(((4:Nat)=4)∧(True∧(True∧(True∧(True∧True)))))))∧((@Eq (List AV) [dA,tA] [dA,tA])∧((3≤3)∧((∀ i:Nat,((i+1≤3)→(((4:Nat)=4)∧(True∧(True∧(True∧(True∧True)))))))∧((@Eq (List AV) [tA,I 2,I 12,AV.agg [I 0,I 30]] [tA,I 2,I 12,AV.agg [I 0,I 30]])∧(((∀ i:Nat,(@Eq Bool (true) (true)))∧((∀ i:Nat,(@Eq Bool (true) (true)))∧True))∧((∀ i:Nat,((i+1≤3)→(True∧True)))∧((∀ i:Nat,((i+1≤3)→True))∧((@Eq (List AV) [AV.isl 1 [AV.agg [I 5],AV.agg [I 5],AV.agg [I 0]],AV.isl 1 [I 5,I 5,I 0]] [AV.isl 1 [AV.agg [I 5],AV.agg [I 5],AV.agg [I 0]],AV.isl 1 [I 5,I 5,I 0]])∧(((@Eq Int (Int.ofNat 25) (Int.ofNat 25))→(((@Eq Int (Int.ofNat 0) (Int.ofNat 0))→(((∀ i:Nat,(@Eq Bool (true) (true)))∧((∀ i:Nat,(@Eq Bool (true) (true)))∧True))∧((∀ i:Nat,((i+1≤3)→(True∧True)))∧((∀ i:Nat,((i+1≤3)→True))∧((@Eq (List AV) [AV.isl 1 [AV.agg [I 3],AV.agg [I 7],AV.agg [I 4]],AV.isl 1 [I 3,I 7,I 4]] [AV.isl 1 [AV.agg [I 3],AV.agg [I 7],AV.agg [I 4]],AV.isl 1 [I 3,I 7,I 4]])∧(((@Eq Int (Int.ofNat 46) (Int.ofNat 46))→(((@Eq Int (Int.ofNat 0) (Int.ofNat 0))→(((@Eq Int (Int.ofNat 1) (Int.ofNat 1))→(((@Eq Int (Int.ofNat 0) (Int.ofNat 0))→((1≤1)∧((((@Eq Int (Int.ofNat 0) (Int.ofNat 0))∧(@Eq Int (Int.ofNat 18) (Int.ofNat 18)))→(((@Eq Int (Int.ofNat 0) (Int.ofNat 0))→(((@Eq Int (Int.ofNat 20) (Int.ofNat 20))→(((@Eq Int (Int.ofNat 0) (Int.ofNat 0))→(((@Eq Int (Int.ofNat 0) (Int.ofNat 0))→(((@Eq Int (Int.ofNat 15) (Int.ofNat 15))→(((@Eq Int (Int.ofNat 0) (Int.ofNat 0))→(((@Eq Int (Int.ofNat 0) (Int.ofNat 0))↔(@Eq Bool (true) (true)))∧True))∧((¬ (@Eq Int (Int.ofNat 0) (Int.ofNat 0)))→((@Eq Bool (false) (true))∧True))))∧((¬ (@Eq Int (Int.ofNat 15) (Int.ofNat 15)))→((@Eq Bool (false) (true))∧True))))∧((¬ (@Eq Int (Int.ofNat 0) (Int.ofNat 0)))→((@Eq Bool (false) (true))∧True))))∧((¬ (@Eq Int (Int.ofNat 0) (Int.ofNat 0)))→((@Eq Bool (false) (true))∧True))))∧((¬ (@Eq Int (Int.ofNat 20) (Int.ofNat 20)))→((@Eq Bool (false) (true))∧True))))∧((¬ (@Eq Int (Int.ofNat 0) (Int.ofNat 0)))→((@Eq Bool (false) (true))∧True))))∧((¬ ((@Eq Int (Int.ofNat 0) (Int.ofNat 0))∧(@Eq Int (Int.ofNat 18) (Int.ofNat 18))))→((@Eq Bool (false) (true))∧True)))))∧((¬ (@Eq Int (Int.ofNat 0) (Int.ofNat 0)))→((@Eq Bool (false) (true))∧True))))∧((¬ (@Eq Int (Int.ofNat 1) (Int.ofNat 1)))→((@Eq Bool (false) (true))∧True))))∧((¬ (@Eq Int (Int.ofNat 0) (Int.ofNat 0)))→((@Eq Bool (false) (true))∧True))))∧((¬ (@Eq Int (Int.ofNat 46) (Int.ofNat 46)))→((@Eq Bool (false) (true))∧True))))))))∧((¬ (@Eq Int (Int.ofNat 0) (Int.ofNat 0)))→((@Eq Bool (false) (true))∧True))))∧((¬ (@Eq Int (Int.ofNat 25) (Int.ofNat 25)))→((@Eq Bool (false) (true))∧True)))))))))))))))))))))))))))))))))))):=by kernel_rfl
theorem awake_true:awakeG:=by
 rw [awakeG_vc]
 simp
 exact ⟨.mk 0,.mk 2⟩
theorem factC_ok {g:FuncId} {a:List AV} {r:SV} (hc:callable Try.prog g=true) (hd:Does Try.prog g false a r.den) (hp:plainS r):(factC g a r).Ok Try.prog:=by
 refine ⟨hc,fun x k hk=>?_⟩
 obtain ⟨h1,h2⟩:=hk
 exact ⟨r,by rw [h1]; exact hd.plain hp,h2⟩
theorem aw11_ok:aw11.Ok Try.prog:=by
 refine ⟨by kernel_rfl,fun x k hk=>?_⟩
 simp only [aw11] at hk
 split at hk
 ·split at hk
  ·exact ⟨_,by rw [hk.1]; exact d11a_does,hk.2⟩
  ·exact ⟨_,by rw [hk.1]; exact d11b_does,hk.2⟩
 ·exact hk.elim
theorem aw13_ok:aw13.Ok Try.prog:=by
 refine ⟨by kernel_rfl,fun x k hk=>?_⟩
 simp only [aw13] at hk
 split at hk
 ·split at hk
  ·exact ⟨_,by rw [hk.1]; exact Does.plain (res:=.bool true) d13a_does trivial,hk.2⟩
  ·exact ⟨_,by rw [hk.1]; exact Does.plain (res:=.bool true) d13b_does trivial,hk.2⟩
 ·exact hk.elim
theorem spn_ok:spnC.Ok Try.prog:=by
 refine ⟨by kernel_rfl,fun x k hk=>?_⟩
 simp only [spnC] at hk
 split at hk
 ·rename_i a b
  have hh:=spn_true a b
  unfold spnG at hh
  exact ⟨_,Does.plain (funH_does nilS_cs nilS_x nilS_ic mixed hh) (by simp [plainS,plainS.plainL]),hk⟩
 ·exact hk.elim
theorem csA_sound:SoundS Try.prog csA:=ctrs_sound (by
 intro x hx
 simp only [List.mem_cons,List.not_mem_nil,or_false] at hx
 rcases hx with rfl | rfl | rfl | rfl | rfl | rfl | rfl
 ·exact spn_ok
 ·exact aw11_ok
 ·exact factC_ok (by kernel_rfl) d14_does (by simp [plainS,plainS.plainL])
 ·exact factC_ok (by kernel_rfl) d16_does (by simp [plainS,plainS.plainL])
 ·exact factC_ok (by kernel_rfl) d18_does (by simp [plainS,plainS.plainL])
 ·exact factC_ok (by kernel_rfl) d20_does (by simp [plainS,plainS.plainL])
 ·exact aw13_ok)
theorem cxA_sound:SoundXH Try.prog noGhost γ0 cxA:=inl_sound (Γ:=noGhost) (γ:=γ0) (ys:=none) csA_sound (litX_sound noX_sound) trivial nilS_ic mixed
def aliveC:Ctr:=⟨9,fun args k=>match args with
 | []=>k (.bool true)
 | _=>False⟩
theorem alive_ok:aliveC.Ok Try.prog:=by
 refine ⟨by kernel_rfl,fun x k hk=>?_⟩
 simp only [aliveC] at hk
 split at hk
 ·have hh:=awake_true
  unfold awakeG at hh
  exact ⟨_,Does.plain (funH_does csA_sound cxA_sound nilS_ic mixed hh) (by simp [plainS]),hk⟩
 ·exact hk.elim
end Go.Proofs.Ytblomfkinjmjdaa
