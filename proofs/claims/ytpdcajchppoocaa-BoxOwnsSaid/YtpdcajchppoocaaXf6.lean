/- BoxOwns: the calls that return new slices are walked inline -/
import Derived.Test.YtpdcajchppoocaaRows
import Derived.Test.YtpdcajchppoocaaXf5
import Derived.Test.YtpdcajchppoocaaEs
set_option linter.unusedVariables false
set_option linter.unusedSimpArgs false
set_option maxRecDepth 100000
namespace Go.Proofs.Ytpdcajchppoocaa
open Go.Lg Go.ChangeShapes Go.WideShapes Go.ChangeAt Go.RowKit
attribute [local irreducible] bodyH
theorem bnC_ok:bnC.Ok Try.prog:=by
 refine ⟨by kernel_rfl,fun args k hk=>?_⟩
 simp only [bnC] at hk
 split at hk
 ·obtain ⟨T,⟨rfl,h⟩,hk⟩:=hk
  by_cases hT:okT T
  ·have hc:(seP T).c=false:=by
    cases hc:(seP T).c with
    | false=>rfl
    | true=>exact (h ⟨hT,hc⟩).elim
   obtain ⟨res,d,hr⟩:=btFC_ok.2 [tV T] (fun v=>v=.tup [.val (.slice none 0 0),b6 0,b6 12]) ⟨T,⟨rfl,hT,hc⟩,rfl⟩
   subst hr
   exact ⟨_,d,by rw [show bnE T=12 by unfold bnE; rw [if_pos hT]] at hk; exact hk⟩
  ·obtain ⟨res,d,hr⟩:=btAC_ok.2 [tV T] (fun v=>v=.tup [.val (.slice none 0 0),b6 0,b6 1]) ⟨T,⟨rfl,hT⟩,rfl⟩
   subst hr
   exact ⟨_,d,by rw [show bnE T=1 by unfold bnE; rw [if_neg hT]] at hk; exact hk⟩
 ·exact hk.elim
theorem spwC_ok:spwC.Ok Try.prog:=by
 refine ⟨by kernel_rfl,fun args k hk=>?_⟩
 simp only [spwC] at hk
 split at hk
 ·obtain ⟨rfl,hk⟩:=hk
  exact ⟨_,Does.plain (funH_does nil_cs nil_x nil_ic mixed (spw_true _)) trivial,hk⟩
 ·obtain ⟨⟨n,a,b,hn,h1,h2⟩,hk⟩:=hk
  rw [denL2 h1 h2]
  exact ⟨_,Does.plain (funH_does nil_cs nil_x nil_ic mixed (sps_true hn a b)) trivial,hk⟩
 ·exact hk.elim
theorem cgC_ok:cgC.Ok Try.prog:=by
 refine ⟨by kernel_rfl,fun args k hk=>?_⟩
 simp only [cgC] at hk
 split at hk
 ·obtain ⟨T,w,⟨rfl,hw,h⟩,hk⟩:=hk
  rw [hw]
  obtain ⟨e1,e2⟩:=ch_good h.t (n:=T.nl) rfl (w:=w) (by rw [h.w]; omega)
  obtain ⟨res,d,hr⟩:=chk_ok.2 [tV T,twL T.nl w] (fun v=>v=.tup [b6 (chH T T.nl w),b6 (chE T T.nl w)]) ⟨T,w,⟨rfl,rfl⟩,rfl⟩
  subst hr
  rw [e1,e2] at d
  exact ⟨_,d,hk⟩
 ·exact hk.elim
theorem oCS_ok:SoundS Try.prog oCS:=ctrsF_sound (ctrs_sound (by
 intro x hx
 simp only [List.mem_cons,List.not_mem_nil,or_false] at hx
 rcases hx with rfl | rfl | rfl
 ·exact cgC_ok
 ·exact vtB_ok _
 ·exact seC_ok _)) (by
 intro x hx
 simp only [List.mem_cons,List.not_mem_nil,or_false] at hx
 rcases hx with rfl | rfl
 ·exact end_ok
 ·exact fol_ok)
theorem oin {g:FuncId} {sp isp} {cx:CX} (h:SoundXH Try.prog noGhost γ0 cx):SoundXH Try.prog noGhost γ0 (inl Try.prog oCS none (ictrs []) g sp isp cx):=inl_sound (ys:=none) oCS_ok h trivial nil_ic mixed
theorem oG_cs:SoundS Try.prog (ctrs [grC,alvC,spsD,bosC,mrgC 25]):=ctrs_sound (by
 intro x hx
 simp only [List.mem_cons,List.not_mem_nil,or_false] at hx
 rcases hx with rfl | rfl | rfl | rfl | rfl
 ·exact gr_ok
 ·exact alv_ok
 ·exact spsD_ok
 ·exact bosC_ok
 ·exact mrg_ok)
theorem oF_cs:SoundS Try.prog (ctrs [grC,alvC,spsD,bosC,bnC,mrgC 25]):=ctrs_sound (by
 intro x hx
 simp only [List.mem_cons,List.not_mem_nil,or_false] at hx
 rcases hx with rfl | rfl | rfl | rfl | rfl | rfl
 ·exact gr_ok
 ·exact alv_ok
 ·exact spsD_ok
 ·exact bosC_ok
 ·exact bnC_ok
 ·exact mrg_ok)
theorem oB_cs:SoundS Try.prog (ctrs [grC,alvC,ruD,bdD,spwC,bosC,mrgC 25]):=ctrs_sound (by
 intro x hx
 simp only [List.mem_cons,List.not_mem_nil,or_false] at hx
 rcases hx with rfl | rfl | rfl | rfl | rfl | rfl | rfl
 ·exact gr_ok
 ·exact alv_ok
 ·exact ruD_ok
 ·exact bdD_ok
 ·exact spwC_ok
 ·exact bosC_ok
 ·exact mrg_ok)
theorem oD_cs:SoundS Try.prog (ctrs [grC,alvC,ruD,bdD,spwC,bosC,bnC,mrgC 25]):=ctrs_sound (by
 intro x hx
 simp only [List.mem_cons,List.not_mem_nil,or_false] at hx
 rcases hx with rfl | rfl | rfl | rfl | rfl | rfl | rfl | rfl
 ·exact gr_ok
 ·exact alv_ok
 ·exact ruD_ok
 ·exact bdD_ok
 ·exact spwC_ok
 ·exact bosC_ok
 ·exact bnC_ok
 ·exact mrg_ok)
theorem ch_split {T:Tn} {n:Nat} {w:Nat→Bool} (h:chE T n w=0):n=T.nl∧okR T w:=by
 have hT:okT T:=Classical.byContradiction fun hn=>by have:=(ch_bad (n:=n) (w:=w) hn).2; omega
 have hl:n=T.nl:=Classical.byContradiction fun hn=>by have:=(ch_len (w:=w) hT hn).2; omega
 have hf:¬ fwA T w<n:=fun hn=>by have:=(ch_fw hT hl hn).2; omega
 have hd:=fw_d (T:=T) (w:=w)
 exact ⟨hl,hT,by omega⟩
theorem boxOwns_does (T:Tn) (n:Nat) (w:Nat→Bool):Does Try.prog 12 false (SV.denL [tV T,twL n w]) (.sc (.bool true)):=by
 by_cases h:chE T n w=0
 ·obtain ⟨hl,hR⟩:=ch_split h
  subst hl
  by_cases hc:(seP T).c=true
  ·have hh:=owG_true hR hc
   unfold owG at hh
   exact funH_does oG_cs (byX_sound (oin (oin (oin nil_x))) (oin (oin (oin nil_x)))) nil_ic mixed hh
  ·have hh:=owF_true hR hc
   unfold owF at hh
   exact funH_does oF_cs (byX_sound (oin (oin nil_x)) (oin (oin nil_x))) nil_ic mixed hh
 ·by_cases hb:okT T∧(seP T).c=true
  ·have hh:=owB_true h hb.1 hb.2
   unfold owB at hh
   exact funH_does oB_cs (oin nil_x) nil_ic mixed hh
  ·have hh:=owD_true h hb
   unfold owD at hh
   exact funH_does oD_cs nil_x nil_ic mixed hh
theorem boxOwns_lifted (os:Os) (started:os.Started) (H:Type) (enc:TypeId × Value→H) :
  ReturnsInHanded {} Try.checked os 12 .any (Rows.boxOwnsSpec.pre6 enc Try.prog Try.f12 Rows.boxOwnsRow.domain false) (Rows.boxOwnsSpec.post enc Try.prog Try.f12 false true false false):=by
 refine returnsInHanded_of_change (C:=Try.checked) own started (by kernel_rfl) Try.func12
  (ChangeSpec.witness6 (enc:=enc) (C:=Try.checked) false ⟨#[],#[.agg #[.slice none 0 0,.int .i64 0,.int .i64 0,.int .i64 0,.int .i64 0,.int .i64 0,.slice none 0 0],.slice none 0 0],[]⟩ 12 (by kernel_rfl) (by kernel_rfl) (by kernel_rfl) (by kernel_rfl)) ?_
 intro W base args ds gs before hval0 hW hcnd _
 have hval:∀ (j:Nat) t v,Try.f12.params[j]?=some t→args[j]?=some v→Value.okWide Try.prog W .any base t v:=hval0
 have hW0:DataW.Whole enc Try.prog Try.f12.params.toList Rows.boxOwnsSpec.vars false W args.toList ds gs before:=hW
 obtain ⟨p,q,hA0,hV,rfl,hfz,hnd⟩:=hW
 have hA:DataW.TrodAll enc Try.prog W 0 (fun _=>true) true Try.f12.params.toList args.toList ds p:=hA0
 rw [Try.params12] at hA hval
 obtain ⟨v0,v1,d0,d1,p0,p1,rfl,rfl,rfl,h0,h1⟩:=trodAll_two hA
 obtain ⟨rfl,rfl⟩:=trodVars_none hV
 obtain ⟨T,hr0⟩:=read_train (hval 0 25 v0 rfl rfl) h0
 obtain ⟨n,t,hr1⟩:=read_turns (hval 1 26 v1 rfl rfl) h1
 have hd:=boxOwns_does T n t
 refine law_calls laid (f:=12) (fn:=Try.f12) (tb:=4) (by
  rw [Try.params12]
  intro t ht
  simp at ht
  rcases ht with rfl | rfl
  ·exact read25
  ·exact read26) rfl (by kernel_rfl) Try.underlying4 rfl hW0 ?_ hd
 exact RelL.mk hr0 (RelL.mk hr1 RelL.mk_nil)
theorem box_owns_holds:Rows.BoxOwnsSaid :=
 OpenClaim.holds_of_wide 12 Try.f12 rfl rfl rfl rfl rfl rfl rfl ⟨rfl,rfl,rfl,rfl,rfl⟩ rfl rfl rfl rfl rfl (by kernel_rfl) Try.func12 (by kernel_rfl)
  (of_decide_eq_true (by kernel_rfl)) (by unfold Func.isWrapper; first | (rw [if_pos (by decide +kernel)]; kernel_rfl) | (rw [if_neg (by decide +kernel)]; exact ⟨rfl,rfl⟩))
  (fun os started H enc _=>boxOwns_lifted os started H enc)
end Go.Proofs.Ytpdcajchppoocaa
