import Derived.Test.YtpdcajchppoocaaLr
set_option linter.unusedVariables false
set_option linter.unusedSimpArgs false
namespace Go.Lg
variable {P:Program} {W:WS}

theorem getD_set_ne (l:Array Bool) (i j:Nat) (b d:Bool) (h:i≠j):(l.setIfInBounds i b).getD j d=l.getD j d:=by
 by_cases hs:j<l.size <;> simp [Array.getD,hs,Array.getElem_setIfInBounds_ne,h]

theorem mem_ready {ops:Array Oper} {listed:Array Bool} {i:Nat}:i ∈ Region.ready .any ops listed↔i<ops.size∧listed.getD i true=false∧∀ e ∈ (opAt ops i).after.toList,Region.binds .any e=true→listed.getD e.on false=true:=by
 unfold Region.ready
 simp only [List.mem_filter,List.mem_range,Bool.and_eq_true,Bool.not_eq_true']
 refine ⟨fun ⟨h1,h2,h3⟩=>⟨h1,h2,?_⟩,fun ⟨h1,h2,h3⟩=>⟨h1,h2,?_⟩⟩
 ·rw [opAt_get h1] at h3
  simp only [Option.map_some,Option.getD_some,← Array.all_toList,List.all_eq_true] at h3
  intro e he hb
  have:=h3 e he
  rw [hb] at this
  simpa using this
 ·rw [opAt_get h1]
  simp only [Option.map_some,Option.getD_some,← Array.all_toList,List.all_eq_true]
  intro e he
  cases hb:Region.binds .any e
  ·rfl
  ·simpa using h3 e he hb

theorem mem_remL {ops:Array Oper} {listed:Array Bool} {i:Nat}:i ∈ remL ops listed↔i<ops.size∧listed.getD i true=false:=by
 simp [remL]

theorem remL_sorted (ops:Array Oper) (listed:Array Bool):(remL ops listed).Pairwise (·<·):=List.pairwise_lt_range.filter _

theorem remL_set {ops:Array Oper} {listed:Array Bool} {i:Nat} {pre post:List Nat} (hsz:listed.size=ops.size) (h:remL ops listed=pre ++ i :: post) :
  remL ops (listed.setIfInBounds i true)=pre ++ post:=by
 have hs:=remL_sorted ops listed
 have hi:i<ops.size:=(mem_remL.1 (by rw [h]; simp)).1
 have e1:remL ops (listed.setIfInBounds i true)=(remL ops listed).filter (fun j=>j != i):=by
  unfold remL
  rw [List.filter_filter]
  apply List.filter_congr
  intro j hj
  simp at hj
  by_cases e:j=i
  ·subst e
   have:(listed.setIfInBounds j true).getD j true=true:=by simp [Array.getD,hsz,hj]
   rw [this]; simp
  ·have:(listed.setIfInBounds i true).getD j true=listed.getD j true:=by
    have h1:j<listed.size:=by omega
    simp only [Array.getD,Array.size_setIfInBounds,h1,dif_pos]
    exact Array.getElem_setIfInBounds_ne _ (fun h=>e h.symm)
   rw [this]; simp [e]
 rw [e1,h]
 rw [h,List.pairwise_append] at hs
 obtain ⟨_,h2,h3⟩:=hs
 rw [List.pairwise_cons] at h2
 rw [List.filter_append,List.filter_cons]
 have f1:pre.filter (fun j=>j != i)=pre:=List.filter_eq_self.2 (fun j hj=>by have:=h3 j hj i (by simp); simp; omega)
 have f2:post.filter (fun j=>j != i)=post:=List.filter_eq_self.2 (fun j hj=>by have:=h2.1 j hj; simp; omega)
 rw [f1,f2]; simp

theorem any_sound {ops:Array Oper} {B:Array Nat} (hB:drawB W ops B=true) {C:Ctx} {K:List AV→Store→Prop} {Q:Exit→Act→World→Prop} (hQ:∀ a w A ρ,SRel C a w A ρ→K A ρ→Q .normal a w) :
  ∀ (fuel:Nat) (listed:Array Bool) (A:List AV) (ρ:Store) (a:Act) (w:World),SRel C a w A ρ→fuel=(remL ops listed).length→listed.size=ops.size→Closed ops listed →
   RunL P W ops K ((remL ops listed).map (opAt ops)) A ρ→∀ n,wpAnyIn (fz C.rd) n P .any ops Q fuel listed a w
 | 0,listed,A,ρ,a,w,hs,hf,hsz,hcl,h=>fun nn=>by
  have hr:remL ops listed=[]:=List.eq_nil_of_length_eq_zero hf.symm
  rw [hr] at h
  refine ⟨?_,hQ a w A ρ hs h⟩
  rw [List.eq_nil_iff_forall_not_mem]
  intro i hi
  obtain ⟨h1,h2,_⟩:=mem_ready.1 hi
  have:i ∈ remL ops listed:=mem_remL.2 ⟨h1,h2⟩
  rw [hr] at this; cases this
 | fuel+1,listed,A,ρ,a,w,hs,hf,hsz,hcl,h=>fun nn=>by
  refine ⟨fun hnone=>?_,fun i hi=>?_⟩
  ·exfalso
   cases hr:remL ops listed with
   | nil=>rw [hr] at hf; simp at hf
   | cons i r =>
    have hi:i ∈ remL ops listed:=by rw [hr]; simp
    obtain ⟨h1,h2⟩:=mem_remL.1 hi
    have hsort:=remL_sorted ops listed
    rw [hr,List.pairwise_cons] at hsort
    have:i ∈ Region.ready .any ops listed:=mem_ready.2 ⟨h1,h2,fun e he hb=>by
     have hlt:=drawB_edge hB h1 he hb
     have hon:e.on<ops.size:=by omega
     cases hl:listed.getD e.on true with
     | true =>
      have:e.on<listed.size:=by omega
      simpa [Array.getD,this] using hl
     | false =>
      have hm:e.on ∈ remL ops listed:=mem_remL.2 ⟨hon,hl⟩
      rw [hr] at hm
      rcases List.mem_cons.1 hm with h | h
      ·omega
      ·have:=hsort.1 _ h; omega⟩
    rw [hnone] at this; cases this
  ·obtain ⟨h1,h2,h3⟩:=mem_ready.1 hi
   have hmem:i ∈ remL ops listed:=mem_remL.2 ⟨h1,h2⟩
   obtain ⟨pre,post,hsplit⟩:=List.append_of_mem hmem
   have hsort:=remL_sorted ops listed
   rw [hsplit,List.pairwise_append] at hsort
   rw [hsplit,List.map_append,List.map_cons] at h
   have hc:∀ x ∈ pre.map (opAt ops),conflictB W ops x (opAt ops i)=false:=by
    intro x hx
    obtain ⟨j,hj,rfl⟩:=List.mem_map.1 hx
    have hji:j<i:=hsort.2.2 j hj i (by simp)
    have hju:listed.getD j true=false:=(mem_remL.1 (by rw [hsplit]; simp [hj])).2
    cases hcf:conflictB W ops (opAt ops j) (opAt ops i) with
    | false=>rfl
    | true =>
     have hb:=(drawB_pair hB h1 hji).2 hcf
     have hl:=before_listed hB hsz hcl i h1 h3 j hji hb
     have:j<listed.size:=by omega
     simp [Array.getD,this] at hl hju
     rw [hl] at hju; cases hju
   obtain ⟨v,ρ',hst,hrun⟩:=RunL.front _ _ _ _ hc h
   refine stepV_wp (opAt_get h1) hs hst (fun a' w' hs'=>?_) nn
   have hrem:=remL_set hsz hsplit
   refine any_sound hB hQ fuel (listed.setIfInBounds i true) _ ρ' a' w' hs' ?_ (by simpa using hsz) ?_ ?_ nn
   ·rw [hrem]; rw [hsplit] at hf; simp at hf ⊢; omega
   ·intro k hk hkl e he hb
    have mono:listed.getD e.on false=true→(listed.setIfInBounds i true).getD e.on false=true:=by
     intro h
     by_cases hlt:e.on<listed.size
     ·by_cases e2:i=e.on
      ·subst e2; simp [Array.getD,hlt]
      ·rw [getD_set_ne _ _ _ _ _ e2]; exact h
     ·simp [Array.getD,hlt] at h
    by_cases e2:k=i
    ·subst e2; exact mono (h3 e he hb)
    ·refine mono (hcl k hk ?_ e he hb)
     rwa [getD_set_ne _ _ _ _ _ (fun h=>e2 h.symm)] at hkl
   ·rw [hrem,List.map_append]; exact hrun

theorem SRel.drawn {C a w A ρ} (hs:SRel C a w A ρ):SRel C a { w with drawn:=w.drawn+1 } A ρ:=by
 obtain ⟨I,β,hk,h0,F',hFF,hf⟩:=hs
 exact ⟨I,β,⟨hk.os,hk.tape,hk.output,hk.size,hk.block⟩,h0.trans (Grow.drew _ _ _ _),F',hFF,hf.sr.drew,hf.df,hf.size,hf.rel⟩

theorem wpA_drawW {C:Ctx} {Q:Exit→List AV→Store→Prop} {A:List AV} {ρ:Store} {id:Nat} {ops:Array Oper} (hm:P.follows .mixedOrders=true) (hB:drawOKW W ops=true)
  (h:RunL P W ops (Q .normal) ops.toList A ρ):wpA P C (.region id ops true) Q A ρ:=by
 intro a w hs nn
 refine wpIn_region_any hm (any_sound (P:=P) (K:=Q .normal) hB (fun a w A ρ hs hq=>⟨A,ρ,hs,hq⟩) ops.size (Array.replicate ops.size false) A ρ a _ hs.drawn ?_ (by simp) ?_ ?_ nn)
 ·have:remL ops (Array.replicate ops.size false)=List.range ops.size:=List.filter_eq_self.2 (fun i hi=>by
   have:i<ops.size:=by simpa using hi
   simp [Array.getD,this])
  rw [this]; simp
 ·intro i hi hl
  simp [Array.getD,hi] at hl
 ·have:remL ops (Array.replicate ops.size false)=List.range ops.size:=List.filter_eq_self.2 (fun i hi=>by
   have:i<ops.size:=by simpa using hi
   simp [Array.getD,this])
  rw [this]
  have e:(List.range ops.size).map (opAt ops)=ops.toList:=by
   apply List.ext_getElem
   ·simp
   ·intro i h1 h2
    simp at h1
    simp [opAt,Array.getD,h1]
  rw [e]
  exact h

end Go.Lg

namespace Go.Lg
variable {P:Program}

end Go.Lg
namespace Go.Lg
variable {P:Program}

def BelL (n:Nat) (l:List AV):Prop:=∀ a ∈ l,Bel n a
def BelS (n:Nat):Store→Prop
 | []=>True
 | none :: r=>BelS n r
 | some R :: r=>(BelL n R.els∧BelQ n R.ob)∧BelS n r

theorem Bel.cells {n:Nat} {e:AV} (h:Bel n e) (j:Nat):Bel n (e.cells.getD j .any):=by
 cases e with
 | agg c =>
  show Bel n (c.getD j .any)
  by_cases hj:j<c.length
  ·cases h with
   | pure _ hp=>cases hp with
    | agg _ h=>exact .pure _ (h j hj)
   | agg _ h=>exact h j hj
  ·have:c.getD j .any=.any:=by unfold List.getD; rw [List.getElem?_eq_none (by omega)]; rfl
   rw [this]; exact .pure _ .any
 | _ =>
  cases j with
  | zero=>exact h
  | succ j=>exact .pure _ .any

theorem BelL.get {n:Nat} {l:List AV} (h:BelL n l) (i:Nat):Bel n (l.getD i .any):=by
 by_cases hi:i<l.length
 ·have:l.getD i .any=l[i]:=by unfold List.getD; rw [List.getElem?_eq_getElem hi]; rfl
  rw [this]; exact h _ (List.getElem_mem _)
 ·have:l.getD i .any=.any:=by unfold List.getD; rw [List.getElem?_eq_none (by omega)]; rfl
  rw [this]; exact .pure _ .any
theorem BelS.get {n:Nat}:∀ {ρ:Store},BelS n ρ→∀ (r:Nat) (R:Root),ρ[r]?=some (some R)→BelL n R.els∧BelQ n R.ob
 | [],_,r,R,h=>by simp at h
 | none :: ρ,hs,r,R,h=>by
  cases r with
  | zero=>simp at h
  | succ r=>exact BelS.get (ρ:=ρ) hs r R (by simpa using h)
 | some R0 :: ρ,hs,r,R,h=>by
  cases r with
  | zero=>simp at h; subst h; exact hs.1
  | succ r=>exact BelS.get (ρ:=ρ) hs.2 r R (by simpa using h)

section
variable {C:Ctx} {Q:Exit→List AV→Store→Prop} {A:List AV} {ρ:Store}
end

end Go.Lg
namespace Go.Lg
end Go.Lg
