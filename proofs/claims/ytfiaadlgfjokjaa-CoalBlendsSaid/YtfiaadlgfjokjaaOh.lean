/- CoalBlends: over all yards, draws and lists of numbers, whether the draw can have the blend is what the reference says (or the error is), no argument changes. Conditions: none beyond the given row. -/
import Derived.Test.YtfiaadlgfjokjaaRows
import Derived.Test.YtfiaadlgfjokjaaOaOaVObOcOdOeOfOfVOg
import Derived.Test.YtfiaadlgfjokjaaQp
set_option linter.unusedVariables false
set_option linter.unusedSimpArgs false
set_option maxRecDepth 100000
namespace Go.Proofs.Ytfiaadlgfjokjaa
open Go.Lg Go.ChangeShapes Go.WideShapes Go.ChangeAt Go.RowKit
attribute [local irreducible] bodyH funS bodyZ
theorem csB_sound:SoundS Try.prog csB:=ctrsF_sound (ctrs_sound (by
 intro x hx
 simp at hx
 rcases hx with rfl | rfl | rfl | rfl
 ·exact lg_ok'
 ·exact aw_ok'
 ·exact ca_ok
 ·exact rc_ok)) (by
 intro x hx
 simp at hx
 subst hx
 exact rd_ok)
theorem bld_does {Y:Yd} {a:Int} {T:Tn} (ht:∀ i,i<T.n→rg (T.f i)):Does Try.prog 5 false (SV.denL [Y.sv,.int .i64 a,T.sv]) (.sc (.bool true)):=by
 have hh:=bld_true (Y:=Y) (a:=a) ht
 unfold bldG at hh
 exact funH_does csB_sound nilS_x nilS_ic mixed hh
section
variable {H:Type} {enc:TypeId × Value→H} {w:World}
abbrev I1:Type:={ z:Int // rg z }
instance:Inhabited I1:=⟨⟨0,by unfold rg; decide⟩⟩
def I1.cs (m:I1):List Value:=[.int .i64 m.1]
def I1.av (m:I1):AV:=.sc (.int .i64 m.1)
theorem read_i (n:Nat) (cs:List Value) (y:DataW H × List MemPlace) (h:DataW.trod enc Try.prog w 0 (fun _=>true) true n 3 cs=some y):∃ m:I1,cs=I1.cs m∧(I1.cs m).length=1:=by
 obtain ⟨z,h5,_,hw⟩:=DataW.trod_int Try.underlying3 h
 simp only [Lit.wf,Bool.and_eq_true,decide_eq_true_eq,IntKind.min,IntKind.max,IntKind.signed,IntKind.bits,if_true] at hw
 exact ⟨⟨z,by unfold rg; omega⟩,h5,rfl⟩
def inT (ms:List I1):Tn:=⟨ms.length,fun k=>(ms.getD k default).1⟩
theorem in_den (ms:List I1):(inT ms).sv.den=.isl 1 (ms.map I1.av):=by
 simp only [inT,Tn.sv,SV.den]
 congr 1
 apply List.ext_getElem
 ·simp
 ·intro i h1 h2
  simp at h1 h2
  simp [I1.av,h2]
theorem read_in {base:Nat} {v:Value} {d:DataW H} {p:List MemPlace} (hv:Value.okWide Try.prog w .any base 44 v) (h:DataW.Trod enc Try.prog w 0 (fun _=>true) true 44 v d p) :
  ∃ T:Tn,(∀ i,i<T.n→rg (T.f i))∧Rel (cellf w) (fun b=>b<w.heap.size) 0 noβ T.sv.den v:=by
 obtain ⟨fuel,h⟩:=h
 have hc:v.cells.toList=[v]:=by
  unfold Value.okWide at hv
  rw [Try.underlying44] at hv
  cases v <;> first | rfl | (simp [Cell.okWide,Cell.ok,Try.underlying44] at hv)
 rw [hc] at h
 obtain ⟨v',ms,e,hr,_,_⟩:=rel_slice I1.cs I1.av (fun m=>rfl) (show Try.prog.cellsOf 3=1 by kernel_rfl) (by omega) Try.underlying44 read_i h
 cases e
 refine ⟨inT ms,fun i _=>(ms.getD i default).2,?_⟩
 rw [in_den]
 exact hr
end
theorem bld_lifted (os:Os) (started:os.Started) (H:Type) (enc:TypeId × Value→H) :
  ReturnsInHanded {} Try.checked os 5 .any (Rows.coalBlendsSpec.pre6 enc Try.prog Try.f5 Rows.coalBlendsRow.domain false) (Rows.coalBlendsSpec.post enc Try.prog Try.f5 false true false false):=by
 refine returnsInHanded_of_change (C:=Try.checked) own started (by kernel_rfl) Try.func5
  (ChangeSpec.witness6 (enc:=enc) (C:=Try.checked) false ⟨#[],#[.agg #[.slice none 0 0,.slice none 0 0],.int .i64 0,.slice none 0 0],[]⟩ 9 (by kernel_rfl) (by kernel_rfl) (by kernel_rfl) (by kernel_rfl)) ?_
 intro W base args ds gs before hval0 hW hcnd _
 have hval:∀ (j:Nat) t v,Try.f5.params[j]?=some t→args[j]?=some v→Value.okWide Try.prog W .any base t v:=hval0
 have hW0:DataW.Whole enc Try.prog Try.f5.params.toList Rows.coalBlendsSpec.vars false W args.toList ds gs before:=hW
 obtain ⟨p,q,hA0,hV,rfl,hfz,hnd⟩:=hW
 have hA:DataW.TrodAll enc Try.prog W 0 (fun _=>true) true Try.f5.params.toList args.toList ds p:=hA0
 rw [Try.params5] at hA hval
 obtain ⟨v0,v1,v2,d0,d1,d2,p0,p1,p2,rfl,rfl,rfl,h0,h1,h2⟩:=trodAll_three hA
 obtain ⟨rfl,rfl⟩:=trodVars_none hV
 obtain ⟨Y,hr0⟩:=read_yd (hval 0 25 v0 rfl rfl) h0
 obtain ⟨a,rfl,rfl,rfl,wa⟩:=open_int Try.underlying3 (hval 1 3 v1 rfl rfl) h1
 obtain ⟨T,ht,hr2⟩:=read_in (hval 2 44 v2 rfl rfl) h2
 have hd:=bld_does (Y:=Y) (a:=a) ht
 refine law_calls laid (f:=5) (fn:=Try.f5) (tb:=4) (by
  rw [Try.params5]
  intro t ht
  simp at ht
  rcases ht with rfl | rfl | rfl <;> exact rdb _ (by kernel_rfl)) rfl (by kernel_rfl) Try.underlying4 rfl hW0 ?_ hd
 exact RelL.mk hr0 (RelL.mk (.sc _) (RelL.mk hr2 RelL.mk_nil))
theorem coal_blends_holds:Rows.CoalBlendsSaid :=
 OpenClaim.holds_of_wide 5 Try.f5 rfl rfl rfl rfl rfl rfl rfl ⟨rfl,rfl,rfl,rfl,rfl⟩ rfl rfl rfl rfl rfl (by kernel_rfl) Try.func5 (by kernel_rfl)
  (of_decide_eq_true (by kernel_rfl)) (by unfold Func.isWrapper; first | (rw [if_pos (by decide +kernel)]; kernel_rfl) | (rw [if_neg (by decide +kernel)]; exact ⟨rfl,rfl⟩))
  (fun os started H enc _=>bld_lifted os started H enc)
end Go.Proofs.Ytfiaadlgfjokjaa
