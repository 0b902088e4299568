/- CoalSpans: over all yards, draws, first and last draws and kinds of yield, the blend and the yield are the reference (or the error is), no argument changes. Conditions: none beyond the given row. -/
import Derived.Test.YtfiaadlgfjokjaaRows
import Derived.Test.YtfiaadlgfjokjaaXgXeXhXiXjXkXkVXlXm
import Derived.Test.YtfiaadlgfjokjaaQlQlVQoTiTiV
import Derived.Test.YtfiaadlgfjokjaaQp
set_option linter.unusedVariables false
set_option linter.unusedSimpArgs false
set_option maxRecDepth 100000
namespace Go.Proofs.Ytfiaadlgfjokjaa
open Go.Lg Go.ChangeShapes Go.WideShapes Go.ChangeAt Go.RowKit
attribute [local irreducible] bodyH funS bodyZ
theorem trodAll_5 {H:Type} {enc:TypeId × Value→H} {P:Program} {w:World} {base:Nat} {spare:Nat→Bool} {held:Bool} {t t' t'' t3 t4:TypeId} {args:Array Value} {ds:List (DataW H)} {ps:List MemPlace} (h:DataW.TrodAll enc P w base spare held [t,t',t'',t3,t4] args.toList ds ps) :
  ∃ v v' v'' v3 v4 d d' d'' d3 d4 p p' p'' p3 p4,args=#[v,v',v'',v3,v4]∧ds=[d,d',d'',d3,d4]∧ps=p ++ p' ++ p'' ++ p3 ++ p4∧DataW.Trod enc P w base spare held t v d p∧DataW.Trod enc P w base spare held t' v' d' p'∧DataW.Trod enc P w base spare held t'' v'' d'' p''∧DataW.Trod enc P w base spare held t3 v3 d3 p3∧DataW.Trod enc P w base spare held t4 v4 d4 p4:=by
 obtain ⟨v,vs,d,ds',p,q,hargs,rfl,rfl,hd,hrest⟩:=trodAll_cons h
 obtain ⟨v',vs',d',ds'',p',q',rfl,rfl,rfl,hd',hrest'⟩:=trodAll_cons hrest
 obtain ⟨v'',vs'',d'',ds''',p'',q'',rfl,rfl,rfl,hd'',hrest''⟩:=trodAll_cons hrest'
 obtain ⟨v3,vs3,d3,ds3,p3,q3,rfl,rfl,rfl,hd3,hrest3⟩:=trodAll_cons hrest''
 obtain ⟨v4,vs4,d4,ds4,p4,q4,rfl,rfl,rfl,hd4,hrest4⟩:=trodAll_cons hrest3
 obtain ⟨rfl,rfl,rfl⟩:=trodAll_nil hrest4
 exact ⟨v,v',v'',v3,v4,d,d',d'',d3,d4,p,p',p'',p3,p4,by cases args; simp_all,rfl,by simp,hd,hd',hd'',hd3,hd4⟩
theorem csP_sound:SoundS Try.prog csP:=ctrsF_sound (ctrs_sound (by
 intro x hx
 simp at hx
 rcases hx with rfl | rfl | rfl | rfl | rfl | rfl | rfl
 ·exact lg_ok
 ·exact aw_ok
 ·exact be_ok
 ·exact rb_ok
 ·exact yl_ok
 ·exact ry_ok
 ·exact lt_ok')) (by intro x hx; simp at hx)
theorem sps_does {Y:Yd} {a b c w:Int}:Does Try.prog 4 false (SV.denL [Y.sv,.int .i64 a,.int .i64 b,.int .i64 c,.int .i64 w]) (.sc (.bool true)):=by
 have hh:=sps_true Y a b c w
 unfold spsG at hh
 exact funH_does csP_sound nilS_x nilS_ic mixed hh
theorem sps_lifted (os:Os) (started:os.Started) (H:Type) (enc:TypeId × Value→H) :
  ReturnsInHanded {} Try.checked os 4 .any (Rows.coalSpansSpec.pre6 enc Try.prog Try.f4 Rows.coalSpansRow.domain false) (Rows.coalSpansSpec.post enc Try.prog Try.f4 false true false false):=by
 refine returnsInHanded_of_change (C:=Try.checked) own started (by kernel_rfl) Try.func4
  (ChangeSpec.witness6 (enc:=enc) (C:=Try.checked) false ⟨#[],#[.agg #[.slice none 0 0,.slice none 0 0],.int .i64 0,.int .i64 0,.int .i64 0,.int .i64 0],[]⟩ 13 (by kernel_rfl) (by kernel_rfl) (by kernel_rfl) (by kernel_rfl)) ?_
 intro W base args ds gs before hval0 hW hcnd _
 have hval:∀ (j:Nat) t v,Try.f4.params[j]?=some t→args[j]?=some v→Value.okWide Try.prog W .any base t v:=hval0
 have hW0:DataW.Whole enc Try.prog Try.f4.params.toList Rows.coalSpansSpec.vars false W args.toList ds gs before:=hW
 obtain ⟨p,q,hA0,hV,rfl,hfz,hnd⟩:=hW
 have hA:DataW.TrodAll enc Try.prog W 0 (fun _=>true) true Try.f4.params.toList args.toList ds p:=hA0
 rw [Try.params4] at hA hval
 obtain ⟨v0,v1,v2,v3,v4,d0,d1,d2,d3,d4,p0,p1,p2,p3,p4,rfl,rfl,rfl,h0,h1,h2,h3,h4⟩:=trodAll_5 hA
 obtain ⟨rfl,rfl⟩:=trodVars_none hV
 obtain ⟨Y,hr0⟩:=read_yd (hval 0 25 v0 rfl rfl) h0
 obtain ⟨a,rfl,rfl,rfl,wa⟩:=open_int Try.underlying3 (hval 1 3 v1 rfl rfl) h1
 obtain ⟨b,rfl,rfl,rfl,wb⟩:=open_int Try.underlying3 (hval 2 3 v2 rfl rfl) h2
 obtain ⟨c,rfl,rfl,rfl,wc⟩:=open_int Try.underlying3 (hval 3 3 v3 rfl rfl) h3
 obtain ⟨w,rfl,rfl,rfl,ww⟩:=open_int Try.underlying3 (hval 4 3 v4 rfl rfl) h4
 have hd:=sps_does (Y:=Y) (a:=a) (b:=b) (c:=c) (w:=w)
 refine law_calls laid (f:=4) (fn:=Try.f4) (tb:=4) (by
  rw [Try.params4]
  intro t ht
  simp at ht
  rcases ht with rfl | rfl <;> exact rdb _ (by kernel_rfl)) rfl (by kernel_rfl) Try.underlying4 rfl hW0 ?_ hd
 exact RelL.mk hr0 (RelL.mk (.sc _) (RelL.mk (.sc _) (RelL.mk (.sc _) (RelL.mk (.sc _) RelL.mk_nil))))
theorem coal_spans_holds:Rows.CoalSpansSaid :=
 OpenClaim.holds_of_wide 4 Try.f4 rfl rfl rfl rfl rfl rfl rfl ⟨rfl,rfl,rfl,rfl,rfl⟩ rfl rfl rfl rfl rfl (by kernel_rfl) Try.func4 (by kernel_rfl)
  (of_decide_eq_true (by kernel_rfl)) (by unfold Func.isWrapper; first | (rw [if_pos (by decide +kernel)]; kernel_rfl) | (rw [if_neg (by decide +kernel)]; exact ⟨rfl,rfl⟩))
  (fun os started H enc _=>sps_lifted os started H enc)
end Go.Proofs.Ytfiaadlgfjokjaa
