import Derived.Test.YtblomfkinjmjdaaMkMl
import Derived.Test.YtblomfkinjmjdaaPfPgPhPiPjPkPnPu
set_option linter.unusedVariables false
set_option linter.unusedSimpArgs false
namespace Go.Lg
open Go.RowKit
variable {P:Program}
abbrev I (n:Nat):AV:=.sc (.int .i64 (.ofNat n))
abbrev J (n:Nat):AV:=.sc (.int .i64 (.negSucc n))
noncomputable def runVT (P:Program) (T:List Fact) (k:Nat) (f:FuncId) (args:List AV) (res:AV):Bool:=match evFun P (evF P T k).1 (evF P T k).2 k [] f args [] ⟨0,0,.nil⟩ with
 | some (.ret v,_,X)=>(match snapE 0 X 12 v with
  | some v'=>eqA 12 v' res
  | none=>false)
 | _=>false
theorem runVT_does (hm:P.follows .mixedOrders=true) {T:List Fact} (hT:∀ F ∈ T,FactOK P F) {k:Nat} {f:FuncId} {args:List AV} {res:AV} (h:runVT P T k f args res=true):Does P f false args res:=by
 unfold runVT at h
 split at h
 ·rename_i v st X hev
  split at h
  ·rename_i v' hsn
   obtain rfl:=eqA_spec h
   obtain ⟨hg,hd⟩:=evFun_sound (evF_sound hm hT k).1 (evF_sound hm hT k).2 hm k [] f args [] _ _ _ _ (fun x hx=>by simp at hx) hev (by simp)
   have hd:=hd [] Emap.nil
   have hd:DoesG P [] f args [] [] (fun a s ρ=>a=v∧s=st∧ρ=X.L):=hd
   exact hd.toDoes (snapE_spec (fun _ _ _ _ _=>trivial) hsn)
  ·cases h
 ·cases h
end Go.Lg

namespace Go.Lg
open Go.RowKit
variable {P:Program}
theorem DoesG.toDoesN {f args v ρ' v'} {st':List LS} (h:DoesG P [] f args [] [] (fun a s r=>a=v∧s=st'∧r=ρ')) (hs:SnapN 0 ρ' v v') (hrow:RowA v) (hq:FlatA v'):Does P f true args v':=by
 intro w I vals hI hrel
 have hsr:SR w (fun b=>b<w.heap.size) I noβ []:=⟨fun r R l h=>by simp at h,fun r R l h=>by simp at h,fun r R h=>by simp at h,fun r s R S l m h=>by simp at h,hI,fun b hb=>hb,fun r R l h=>by simp at h,fun r R o h=>by simp at h⟩
 refine (h w _ I noβ vals hsr ⟨List.nodup_nil,fun e he=>by simp at he,fun e he=>by simp at he,fun e he=>by simp at he⟩ ⟨rfl,fun k e s h=>by simp at h⟩ hrel).mono ?_
 rintro e w' ⟨u,a,s,r,I',β',rfl,⟨rfl,rfl,rfl⟩,hk,hg,hs',hd,hr⟩
 refine ⟨u,withLiveP (fun r=>0≤r) (fun _=>False) β' r,rfl,hk.sub (fun b hb=>⟨hb,fun ⟨e,he,_⟩=>by simp at he⟩),fun b hb=>?_,fun b hb=>?_,SnapP.relN hs hrow hq hs' hr⟩
 ·rcases hb with hb | ⟨r,R,l,_,h1,h2,rfl⟩
  ·exact hb.elim
  ·exact (hs'.real r R l h1 h2).2.1
 ·rcases hb with hb | ⟨r,R,l,_,h1,h2,rfl⟩
  ·exact hb.elim
  ·exact .inr (Nat.le_of_not_lt (hs'.real r R l h1 h2).2.2.2)
def rowAB1:AV→Bool
 | .any=>true
 | .sc _=>true
 | .sl ..=>true
 | _=>false
def rowAB:AV→Bool
 | .tup c=>c.all rowAB1
 | a=>rowAB1 a
theorem rowAB1_spec {a:AV} (h:rowAB1 a=true):RowA a:=by
 cases a <;> first | exact .any | exact .sc _ | exact .sl .. | cases h
theorem rowAB_spec {a:AV} (h:rowAB a=true):RowA a:=by
 cases a with
 | tup c =>
  refine .tup _ fun j hj=>rowAB1_spec (List.all_eq_true.1 h _ ?_)
  simp [List.getD,hj]
 | _=>exact rowAB1_spec h
noncomputable def runVN (P:Program) (T:List Fact) (k:Nat) (f:FuncId) (args:List AV) (res:AV):Bool:=match evFun P (evF P T k).1 (evF P T k).2 k [] f args [] ⟨0,0,.nil⟩ with
 | some (.ret v,_,X)=>rowAB v && (match snapE 0 X 12 v with
  | some v'=>eqA 12 v' res
  | none=>false)
 | _=>false
theorem runVN_does (hm:P.follows .mixedOrders=true) {T:List Fact} (hT:∀ F ∈ T,FactOK P F) {k:Nat} {f:FuncId} {args:List AV} {res:AV} (hq:FlatA res) (h:runVN P T k f args res=true):Does P f true args res:=by
 unfold runVN at h
 split at h
 ·rename_i v st X hev
  rw [Bool.and_eq_true] at h
  obtain ⟨hrow,h⟩:=h
  split at h
  ·rename_i v' hsn
   obtain rfl:=eqA_spec h
   obtain ⟨hg,hd⟩:=evFun_sound (evF_sound hm hT k).1 (evF_sound hm hT k).2 hm k [] f args [] _ _ _ _ (fun x hx=>by simp at hx) hev (by simp)
   have hd:=hd [] Emap.nil
   have hd:DoesG P [] f args [] [] (fun a s ρ=>a=v∧s=st∧ρ=X.L):=hd
   exact hd.toDoesN (snapE_spec (fun _ _ _ _ _=>trivial) hsn) (rowAB_spec hrow) hq
  ·cases h
 ·cases h
end Go.Lg
