/- BoxTrue: any course lies between both ends, and nothing is lost -/
import Derived.Test.YtpdcajchppoocaaRows
import Derived.Test.YtpdcajchppoocaaXe1XeV1XeV2Xe2Xe3
import Derived.Test.YtpdcajchppoocaaC8
set_option linter.unusedVariables false
set_option linter.unusedSimpArgs false
set_option maxRecDepth 100000
namespace Go.Proofs.Ytpdcajchppoocaa
open Go.Lg Go.ChangeShapes Go.WideShapes Go.ChangeAt Go.RowKit
attribute [local irreducible] bodyH
theorem tuB_true {T:Tn} {n:Nat} {w:Nat→Bool} {m:Nat} {b:Nat→Int} (h:chE T n w≠0):tuBG T n w m b:=by
 rw [tuBG_vc]
 simp only [rI,rE,tt3,tt4,tt5,tt13,tt14,and_true,true_and,Nat.zero_lt_one,and_self,implies_true,Int.toNat_natCast,Nat.zero_add,Nat.add_zero,Nat.one_mul,Nat.mul_one,Classical.not_not,iff_self,Bool.false_eq_true,imp_false,and_imp,true_implies,forall_const]
 refine ⟨T,rfl,fun _ _ _=>⟨T,w,⟨rfl,rfl,h⟩,T,w,⟨rfl,rfl,h⟩,fun _=>⟨fun _=>⟨fun _=>⟨fun _=>⟨fun h6 hh=>?_,fun h6=>?_⟩,rfl⟩,rfl⟩,rfl⟩,fun h0=>(h h0).elim⟩⟩
 all_goals
  by_cases hT:okT T
  ·by_cases hl:n=T.nl
   ·by_cases hf:fwA T w<n
    ·obtain ⟨a1,a2⟩:=ch_fw hT hl hf
     omega
    ·exact (h (ch_good hT hl hf).2).elim
   ·exact (ch_len hT hl).1
  ·exact (ch_bad hT).1
theorem tuB_cs:SoundS Try.prog (ctrs [grC,alvC,ruD,bdD]):=ctrs_sound (by
 intro x hx
 simp only [List.mem_cons,List.not_mem_nil,or_false] at hx
 rcases hx with rfl | rfl | rfl | rfl
 ·exact gr_ok
 ·exact alv_ok
 ·exact ruD_ok
 ·exact bdD_ok)
theorem tu_cs:SoundS Try.prog (ctrsF [bgC,hoE,csC] (ctrs [grC,alvC,ruC,bdC,trC])):=ctrsF_sound (ctrs_sound (by
 intro x hx
 simp only [List.mem_cons,List.not_mem_nil,or_false] at hx
 rcases hx with rfl | rfl | rfl | rfl | rfl
 ·exact gr_ok
 ·exact alv_ok
 ·exact ruC_ok
 ·exact bdC_ok
 ·exact tr_ok)) (by
 intro x hx
 simp only [List.mem_cons,List.not_mem_nil,or_false] at hx
 rcases hx with rfl | rfl | rfl
 ·exact bg_ok
 ·exact hoE_ok
 ·exact cs_ok)
theorem ch_split {T:Tn} {n:Nat} {w:Nat→Bool} (h:chE T n w=0):n=T.nl∧okR T w:=by
 have hT:okT T:=Classical.byContradiction fun hn=>by have:=(ch_bad (n:=n) (w:=w) hn).2; omega
 have hl:n=T.nl:=Classical.byContradiction fun hn=>by have:=(ch_len (w:=w) hT hn).2; omega
 have hf:¬ fwA T w<n:=fun hn=>by have:=(ch_fw hT hl hn).2; omega
 have hd:=fw_d (T:=T) (w:=w)
 exact ⟨hl,hT,by omega⟩
theorem boxTrue_does (T:Tn) (n:Nat) (w:Nat→Bool) (m:Nat) (b:Nat→Int) (hb:∀ j,j<m→0≤b j∧b j≤65535):Does Try.prog 7 false (SV.denL [tV T,twL n w,.lst 1 m fun j=>u6 (b j)]) (.sc (.bool true)):=by
 by_cases h:chE T n w=0
 ·obtain ⟨hl,hR⟩:=ch_split h
  subst hl
  have hh:=tu_true (m:=m) hR hb
  unfold tuG at hh
  exact funY_does tu_cs nil_x nil_ic nil_o mixed hh
 ·have hh:=tuB_true (m:=m) (b:=b) h
  unfold tuBG at hh
  exact funH_does tuB_cs nil_x nil_ic mixed hh
section
variable {H:Type} {enc:TypeId × Value→H} {w:World}
structure UC where
 z:Int
 h:(Lit.int .u16 z).wf=true
def UC.cs (m:UC):List Value:=[.int .u16 m.z]
def UC.av (m:UC):AV:=.sc (.int .u16 m.z)
theorem read_uc (n:Nat) (cs:List Value) (y:DataW H × List MemPlace) (h:DataW.trod enc Try.prog w 0 (fun _=>true) true n 64 cs=some y):∃ m:UC,cs=m.cs∧m.cs.length=1:=by
 obtain ⟨z,h5,_,hw⟩:=DataW.trod_int Try.underlying64 h
 exact ⟨⟨z,hw⟩,h5,rfl⟩
def ucF (ms:List UC) (i:Nat):Int:=match ms[i]? with
 | some m=>m.z
 | none=>0
theorem uc_den (ms:List UC):(SV.lst 1 ms.length fun j=>u6 (ucF ms j)).den=.isl 1 (ms.map UC.av):=by
 simp only [u6,SV.den]
 congr 1
 apply List.ext_getElem
 ·simp
 ·intro i h1 h2
  simp at h1 h2
  simp [ucF,UC.av,h2]
theorem u16_of {a:Int} (h:(Lit.int .u16 a).wf=true):0≤a∧a≤65535:=by
 simp only [Lit.wf,Bool.and_eq_true,decide_eq_true_eq,IntKind.min,IntKind.max,IntKind.signed,IntKind.bits,Bool.false_eq_true,if_false] at h
 omega
theorem uc_in (ms:List UC) {i:Nat} (hi:i<ms.length):0≤ucF ms i∧ucF ms i≤65535:=by
 unfold ucF
 rw [List.getElem?_eq_getElem hi]
 exact u16_of (ms[i]).h
theorem read_ul {base:Nat} {v:Value} {d:DataW H} {p:List MemPlace} (hv:Value.okWide Try.prog w .any base 47 v) (h:DataW.Trod enc Try.prog w 0 (fun _=>true) true 47 v d p) :
  ∃ (m:Nat) (b:Nat→Int),(∀ j,j<m→0≤b j∧b j≤65535)∧Rel (cellf w) (fun b=>b<w.heap.size) 0 noβ (SV.lst 1 m fun j=>u6 (b j)).den v:=by
 obtain ⟨fuel,h⟩:=h
 have hc:v.cells.toList=[v]:=by
  unfold Value.okWide at hv
  rw [Try.underlying47] at hv
  cases v <;> first | rfl | (simp [Cell.okWide,Cell.ok,Try.underlying47] at hv)
 rw [hc] at h
 obtain ⟨v',ms,e,hr,_,_⟩:=rel_slice UC.cs UC.av (fun m=>rfl) (show Try.prog.cellsOf 64=1 by kernel_rfl) (by omega) Try.underlying47 read_uc h
 cases e
 exact ⟨ms.length,ucF ms,fun i hi=>uc_in ms hi,by rw [uc_den]; exact hr⟩
theorem read47:Try.prog.readableRec 47=true∧47<Try.prog.types.size:=by
 have h:(Try.prog.readableRec 47 && decide (47<Try.prog.types.size))=true:=by kernel_rfl
 simpa using h
end
theorem boxTrue_lifted (os:Os) (started:os.Started) (H:Type) (enc:TypeId × Value→H) :
  ReturnsInHanded {} Try.checked os 7 .any (Rows.boxTrueSpec.pre6 enc Try.prog Try.f7 Rows.boxTrueRow.domain false) (Rows.boxTrueSpec.post enc Try.prog Try.f7 false true false false):=by
 refine returnsInHanded_of_change (C:=Try.checked) own started (by kernel_rfl) Try.func7
  (ChangeSpec.witness6 (enc:=enc) (C:=Try.checked) false ⟨#[],#[.agg #[.slice none 0 0,.int .i64 0,.int .i64 0,.int .i64 0,.int .i64 0,.int .i64 0,.slice none 0 0],.slice none 0 0,.slice none 0 0],[]⟩ 7 (by kernel_rfl) (by kernel_rfl) (by kernel_rfl) (by kernel_rfl)) ?_
 intro W base args ds gs before hval0 hW hcnd _
 have hval:∀ (j:Nat) t v,Try.f7.params[j]?=some t→args[j]?=some v→Value.okWide Try.prog W .any base t v:=hval0
 have hW0:DataW.Whole enc Try.prog Try.f7.params.toList Rows.boxTrueSpec.vars false W args.toList ds gs before:=hW
 obtain ⟨p,q,hA0,hV,rfl,hfz,hnd⟩:=hW
 have hA:DataW.TrodAll enc Try.prog W 0 (fun _=>true) true Try.f7.params.toList args.toList ds p:=hA0
 rw [Try.params7] at hA hval
 obtain ⟨v0,v1,v2,d0,d1,d2,p0,p1,p2,rfl,rfl,rfl,h0,h1,h2⟩:=trodAll_three hA
 obtain ⟨rfl,rfl⟩:=trodVars_none hV
 obtain ⟨T,hr0⟩:=read_train (hval 0 25 v0 rfl rfl) h0
 obtain ⟨n,t,hr1⟩:=read_turns (hval 1 26 v1 rfl rfl) h1
 obtain ⟨m,b,hb,hr2⟩:=read_ul (hval 2 47 v2 rfl rfl) h2
 have hd:=boxTrue_does T n t m b hb
 refine law_calls laid (f:=7) (fn:=Try.f7) (tb:=4) (by
  rw [Try.params7]
  intro t ht
  simp at ht
  rcases ht with rfl | rfl | rfl
  ·exact read25
  ·exact read26
  ·exact read47) rfl (by kernel_rfl) Try.underlying4 rfl hW0 ?_ hd
 exact RelL.mk hr0 (RelL.mk hr1 (RelL.mk hr2 RelL.mk_nil))
theorem box_true_holds:Rows.BoxTrueSaid :=
 OpenClaim.holds_of_wide 7 Try.f7 rfl rfl rfl rfl rfl rfl rfl ⟨rfl,rfl,rfl,rfl,rfl⟩ rfl rfl rfl rfl rfl (by kernel_rfl) Try.func7 (by kernel_rfl)
  (of_decide_eq_true (by kernel_rfl)) (by unfold Func.isWrapper; first | (rw [if_pos (by decide +kernel)]; kernel_rfl) | (rw [if_neg (by decide +kernel)]; exact ⟨rfl,rfl⟩))
  (fun os started H enc _=>boxTrue_lifted os started H enc)
end Go.Proofs.Ytpdcajchppoocaa
