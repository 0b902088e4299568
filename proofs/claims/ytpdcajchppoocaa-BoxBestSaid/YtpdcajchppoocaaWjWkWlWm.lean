import Derived.Test.YtpdcajchppoocaaWhWi
import Derived.Test.YtpdcajchppoocaaC5
set_option linter.unusedVariables false
set_option linter.unusedSimpArgs false
namespace Go.Lg
open Go.RowKit
variable {P:Program}

structure LSpec where
 σ:Type
 inv:σ→Prop
 μ:σ→Nat
 nr:Nat
 ms:FS→XS→Ms
 t:σ→FS
 X:σ→XS
 rd:FS→XS→(σ→Prop)→Prop
 rdOK:∀ t X k,rd t X k→∃ s,k s
 /-- the first round is walked on its own; then the measure is below this -/
 peel:Option Nat:=none
noncomputable def condS (c:SV) (x y:Prop):Prop:=match c with
 | .bool true=>x
 | .bool false=>y
 | .dec p _=>(p→x)∧(¬ p→y)
 | _=>False
section
variable {cs:CSpec} (hcs:SoundS P cs) (hm:P.follows .mixedOrders=true) {sp:Nat→Option LSpec} {n n0:Nat} (hn:n≤512)
theorem RunI.ofL {W:WS} {ops:Array Oper} {K:List AV→Store→Prop}:∀ {ord:List Nat} {A:List AV} {ρ:Store},RunL P W ops K (ord.map (opAt ops)) A ρ→RunI P W ops [] K ord A ρ
 | [],A,ρ,h=>h
 | i :: r,A,ρ,h=>by
  obtain ⟨v,ρ',h1,h2⟩:=h
  exact ⟨v,ρ',⟨h1,by simp [rowOK]⟩,RunI.ofL h2⟩
include hcs hm hn
end
end Go.Lg

namespace Go.Lg
open Go.RowKit
variable {P : Program}

theorem SnapP.cells {D : Nat → Prop} {ρ : Store} {a a' : AV} (h : SnapP D ρ a a') : ∀ j, j < a.cells.length → SnapP D ρ (a.cells.getD j .any) (a'.cells.getD j .any) := by
  intro j hj
  cases h with
  | pure _ h => exact .pure _ (pure_cellsA h j)
  | agg c c' hl h => exact h j hj
  | nil sz => have : j = 0 := by simp [AV.cells] at hj; omega
              subst this; exact .nil sz
  | sl r o n R L hR ho hL hz h hm => have : j = 0 := by simp [AV.cells] at hj; omega
                                     subst this; exact .sl r o n R L hR ho hL hz h hm
  | ptr r i j' R cs hR hi hl h hm => have : j = 0 := by simp [AV.cells] at hj; omega
                                     subst this; exact .ptr r i j' R cs hR hi hl h hm
  | sub r i j' sz n R L hR hi hl hL hz h hm => have : j = 0 := by simp [AV.cells] at hj; omega
                                               subst this; exact .sub r i j' sz n R L hR hi hl hL hz h hm
  | tup c c' hl h => have : j = 0 := by simp [AV.cells] at hj; omega
                     subst this; exact .tup c c' hl h
  | clo fn fs fs' cs cs' hl h hl' h' => have : j = 0 := by simp [AV.cells] at hj; omega
                                        subst this; exact .clo fn fs fs' cs cs' hl h hl' h'
  | ifc t a a' h => have : j = 0 := by simp [AV.cells] at hj; omega
                    subst this; exact .ifc t a a' h

mutual
noncomputable def snapP (X : XS) : SV → SV → Prop → Prop
  | .int K' z', v, k => (match v with
    | .int K z => ifP (kindEq K K') (z = z' ∧ k)
    | _ => False)
  | .dec p' _, v, k => (match v with
    | .dec p _ => (p ↔ p') ∧ k
    | .bool b => (b = true ↔ p') ∧ k
    | _ => False)
  | .bool b', v, k => (match v with
    | .dec p _ => (p ↔ b' = true) ∧ k
    | .bool b => b = b' ∧ k
    | _ => False)
  | .val u', v, k => (match v with
    | .val u => u = u' ∧ k
    | _ => False)
  | .lst sz' n' f', v, k => (match v with
    | .lst sz n f => ifP (Nat.beq sz sz') (n = n' ∧ (∀ i, i < n' → (f i).den = (f' i).den ∧ pureS (f' i)) ∧ k)
    | .sl r o n => (match X.row r with
      | some R => ifP (Nat.beq R.sz sz') (n = n' ∧ o + n' ≤ R.n ∧ (∀ i, i < n' → (f' i).cells.length = sz' ∧ (R.f (i + o)).cells.length = sz' ∧ snapP X (f' i) (R.f (i + o)) True) ∧ k)
      | none => False)
    | .val (.slice none 0 0) => 0 = n' ∧ k
    | _ => False)
  | .agg c', v, k => (match v with
    | .agg c => snapL X c' c k
    | _ => False)
  | .tup c', v, k => (match v with
    | .tup c => snapL X c' c k
    | _ => False)
  | .ifc t' x', v, k => (match v with
    | .ifc t x => ifP (Nat.beq t t') (snapP X x' x k)
    | _ => False)
  | .ipt c', v, k => (match v with
    | .ipt c => SV.denL c = SV.denL c' ∧ pureS.pureSL c' ∧ k
    | .ptr r i j => (match X.row r with
      | some R => ifP (Nat.beq (Nat.add c'.length j) R.sz) (i < R.n ∧ snapL X c' (dropS (R.f i).cells j) k)
      | none => False)
    | _ => False)
  | .clo fn' fs' us', v, k => (match fn' with
    | .func g' => (match v with
      | .clo fn fs us => (match fn with
        | .func g => ifP (Nat.beq g g') (snapL X fs' fs (snapL X us' us k))
        | _ => False)
      | _ => False)
    | _ => False)
  | _, _, _ => False
noncomputable def snapL (X : XS) : List SV → List SV → Prop → Prop
  | [], c, k => (match c with
    | [] => k
    | _ => False)
  | x' :: xs', c, k => (match c with
    | x :: xs => snapP X x' x (snapL X xs' xs k)
    | [] => False)
end
section
variable {X : XS}
mutual
theorem snapP_spec : ∀ (v' v : SV) {k : Prop}, snapP X v' v k → SnapN 0 X.den v.den v'.den ∧ k
  | .int K' z', v, k, h => by
    cases v <;> simp only [snapP] at h
    case int K z =>
      obtain ⟨h1, rfl, hk⟩ := ifP_spec h
      have := kindEq_spec h1
      subst this
      exact ⟨.pure _ (.sc _), hk⟩
  | .dec p' i', v, k, h => by
    cases v <;> simp only [snapP] at h
    case dec p i =>
      refine ⟨?_, h.2⟩
      have e : decide p' = decide p := by simp [h.1]
      simp only [SV.den]; rw [e]
      exact .pure _ (.sc _)
    case bool b =>
      refine ⟨?_, h.2⟩
      have e : decide p' = b := by
        have := h.1
        cases b <;> simp_all
      simp only [SV.den]; rw [e]
      exact .pure _ (.sc _)
  | .bool b', v, k, h => by
    cases v <;> simp only [snapP] at h
    case dec p i =>
      refine ⟨?_, h.2⟩
      have e : decide p = b' := by
        have := h.1
        cases b' <;> simp_all
      simp only [SV.den]; rw [e]
      exact .pure _ (.sc _)
    case bool b =>
      obtain ⟨rfl, hk⟩ := h
      exact ⟨.pure _ (.sc _), hk⟩
  | .val u', v, k, h => by
    cases v <;> simp only [snapP] at h
    case val u =>
      obtain ⟨rfl, hk⟩ := h
      exact ⟨.pure _ (.sc _), hk⟩
  | .lst sz' n' f', v, k, h => by
    unfold snapP at h
    cases v <;> (try simp only at h)
    case lst sz n f =>
      obtain ⟨h1, rfl, h2, hk⟩ := ifP_spec h
      simp only [Nat.beq_eq] at h1
      subst h1
      refine ⟨?_, hk⟩
      have e : (SV.lst sz n f).den = (SV.lst sz n f').den := by
        simp only [SV.den]; congr 1
        exact List.map_congr_left fun i hi => (h2 i (by simpa using hi)).1
      rw [e]
      exact .pure _ (pureS_spec (.lst sz n f') (by simp only [pureS]; exact fun i hi => (h2 i hi).2))
    case sl r o n =>
      split at h
      · rename_i R hR
        obtain ⟨h1, rfl, h2, h3, hk⟩ := ifP_spec h
        simp only [Nat.beq_eq] at h1
        subst h1
        have g : ∀ i, i < n → ((List.range n).map fun i => (f' i).den).getD i .any = (f' i).den := fun i hi => by simp [List.getD, hi]
        refine ⟨.sl r o n R.den _ (X.row_get hR) (by show o + n ≤ R.els.length; rw [els_length]; exact h2) (by simp) (fun i hi => ?_) (fun i hi j hj => ?_) (Nat.zero_le _), hk⟩
        · rw [g i hi, den_cells, denL_length]; exact (h3 i hi).1
        · rw [g i hi]
          show SnapN 0 X.den ((R.els.getD (o + i) .any).cells.getD j .any) _
          rw [Nat.add_comm o i, els_get (by omega)]
          exact (snapP_spec (f' i) (R.f (i + o)) (h3 i hi).2.2).1.cells j (by rw [den_cells, denL_length, (h3 i hi).2.1]; exact hj)
      · exact h.elim
    case val u =>
      split at h
      · rename_i hu; cases hu
      · rename_i hu; cases hu
      · rename_i hu
        cases hu
        obtain ⟨rfl, hk⟩ := h
        exact ⟨.nil _, hk⟩
      · exact h.elim
  | .agg c', v, k, h => by
    cases v <;> simp only [snapP] at h
    case agg c =>
      obtain ⟨h1, h2, h3⟩ := snapL_spec c' c h
      exact ⟨.agg _ _ h1 h2, h3⟩
  | .tup c', v, k, h => by
    cases v <;> simp only [snapP] at h
    case tup c =>
      obtain ⟨h1, h2, h3⟩ := snapL_spec c' c h
      exact ⟨.tup _ _ h1 h2, h3⟩
  | .ifc t' x', v, k, h => by
    cases v <;> simp only [snapP] at h
    case ifc t x =>
      obtain ⟨h1, hk⟩ := ifP_spec h
      have h1 : t = t' := by simpa using h1
      subst h1
      obtain ⟨h2, hk⟩ := snapP_spec x' x hk
      exact ⟨.ifc _ _ _ h2, hk⟩
  | .ipt c', v, k, h => by
    unfold snapP at h
    cases v <;> (try simp only at h)
    case ipt c =>
      obtain ⟨h1, h2, h3⟩ := h
      refine ⟨?_, h3⟩
      have e : (SV.ipt c).den = (SV.ipt c').den := by simp only [SV.den, h1]
      rw [e]
      exact .pure _ (pureS_spec (.ipt c') (by simpa [pureS] using h2))
    case ptr r i j =>
      split at h
      · rename_i R hR
        obtain ⟨h1, h2, h3⟩ := ifP_spec h
        have h1 : c'.length + j = R.sz := by simpa using h1
        obtain ⟨h4, h5, h6⟩ := snapL_spec c' _ h3
        refine ⟨.ptr r i j R.den (SV.denL c') (X.row_get hR) (by show i < R.els.length; rw [els_length]; exact h2) (by rw [denL_length]; show c'.length + j ≤ R.sz; omega) (fun q hq => ?_) (Nat.zero_le _), h6⟩
        have := h5 q (by omega)
        rw [dropS_eq, denL_drop] at this
        show SnapN 0 X.den ((R.els.getD i .any).cells.getD (j + q) .any) _
        rw [els_get h2, den_cells]
        simpa [List.getD, List.getElem?_drop] using this
      · exact h.elim
  | .any, v, k, h => by simp [snapP] at h
  | .ptr .., v, k, h => by simp [snapP] at h
  | .ptd .., v, k, h => by simp [snapP] at h
  | .ipd .., v, k, h => by simp [snapP] at h
  | .sl .., v, k, h => by simp [snapP] at h
  | .sub .., v, k, h => by simp [snapP] at h
  | .clo fn' fs' us', v, k, h => by
    simp only [snapP] at h
    split at h
    · split at h
      · split at h
        · rename_i g
          obtain ⟨h1, q1⟩ := ifP_spec h
          obtain rfl : g = _ := Nat.eq_of_beq_eq_true h1
          obtain ⟨h2, h3, q2⟩ := snapL_spec fs' _ q1
          obtain ⟨h4, h5, q3⟩ := snapL_spec us' _ q2
          exact ⟨.clo _ _ _ _ _ h2 h3 h4 h5, q3⟩
        · exact h.elim
      · exact h.elim
    · exact h.elim
  | .yld _, v, k, h => by simp [snapP] at h
  | .mp _, v, k, h => by simp [snapP] at h
theorem snapL_spec : ∀ (c' c : List SV) {k : Prop}, snapL X c' c k →
    (SV.denL c').length = (SV.denL c).length ∧ (∀ j, j < (SV.denL c).length → SnapN 0 X.den ((SV.denL c).getD j .any) ((SV.denL c').getD j .any)) ∧ k
  | [], c, k, h => by
    cases c with
    | nil => exact ⟨rfl, fun j hj => by simp [SV.denL] at hj, by simpa [snapL] using h⟩
    | cons x c => simp [snapL] at h
  | x' :: xs', c, k, h => by
    cases c with
    | nil => simp [snapL] at h
    | cons x xs =>
      simp only [snapL] at h
      obtain ⟨h1, h⟩ := snapP_spec x' x h
      obtain ⟨h2, h3, h⟩ := snapL_spec xs' xs h
      refine ⟨by simp [SV.denL, h2], fun j hj => ?_, h⟩
      cases j with
      | zero => exact h1
      | succ j => exact h3 j (by simpa [SV.denL] using hj)
end
end
end Go.Lg

namespace Go.Lg
open Go.RowKit
variable {P:Program}

noncomputable def resS (P:Program) (ev:Operand→SV) (X:XS) (rs:List ResultVar):(List SV→Prop)→Prop :=
 List.rec (motive:=fun _=>(List SV→Prop)→Prop) (fun k=>k []) (fun r _ ih k=>match r with
  | .tmp t=>ih fun vs=>k (ev (.tmp t) :: vs)
  | .cell a t=>loadS (packN P t) (ev (.tmp a)) X fun v=>ih fun vs=>k (v :: vs)) rs
theorem resS_spec {n:Nat} {t:FS} {X:XS}:∀ {rs:List ResultVar} {k:List SV→Prop},resS P (sev n t) X rs k→∃ vs,resA P (frD n t) X.den rs (SV.denL vs)∧k vs
 | [],k,h=>⟨[],rfl,h⟩
 | .tmp a :: rs,k,h=>by
  have h:resS P (sev n t) X rs (fun vs=>k (sev n t (.tmp a) :: vs)):=h
  obtain ⟨vs,h1,h2⟩:=resS_spec h
  exact ⟨_,⟨SV.denL vs,by rw [sget_den]; rfl,h1⟩,h2⟩
 | .cell a ty :: rs,k,h=>by
  have h:loadS (packN P ty) (sev n t (.tmp a)) X (fun v=>resS P (sev n t) X rs fun vs=>k (v :: vs)):=h
  obtain ⟨v,h1,h⟩:=loadS_spec h
  obtain ⟨vs,h2,h3⟩:=resS_spec h
  exact ⟨v :: vs,⟨v.den,SV.denL vs,rfl,by rw [sget_den]; exact h1,h2⟩,h3⟩
def oneS:List SV→SV
 | [v]=>v
 | vs=>.tup vs
theorem oneS_den (vs:List SV):(oneS vs).den=one? (SV.denL vs):=by
 match vs with
 | []=>rfl
 | [v]=>rfl
 | v :: w :: vs=>rfl
noncomputable def frmS (n:Nat) (args:List SV):Nat→FS→FS:=List.rec (motive:=fun _=>Nat→FS→FS) (fun _ t=>t) (fun x _ ih i t=>ih (i+1) (sset n t i x)) args
theorem frmS_map {n:Nat}:∀ (args:List SV) (i:Nat) (t:FS),(frmS n args i t).map SV.den=frm n (SV.denL args) i (t.map SV.den)
 | [],i,t=>rfl
 | x :: args,i,t=>by
  show (frmS n args (i+1) (sset n t i x)).map SV.den=frm n (SV.denL args) (i+1) (fset n (t.map SV.den) i x.den)
  rw [frmS_map args]
  congr 1
  unfold sset fset
  cases Nat.blt i n
  ·rfl
  ·exact Tr.set_map SV.den x _ _
theorem frmS_den {n:Nat} (hn:n≤512) (args:List SV) (h:args.length≤n):frD n (frmS n args 0 .nil)=SV.denL args ++ List.replicate (n - (SV.denL args).length) .any:=by
 unfold frD
 rw [frmS_map]
 exact frm_eq hn _ (by rw [denL_length]; exact h)
end Go.Lg

namespace Go.Lg
open Go.RowKit
variable {P:Program}

theorem SnapP.app {D:Nat→Prop} {ρ:Store} {a a':AV} (h:SnapP D ρ a a') (xs:Store):SnapP D (ρ ++ xs) a a':=by
 have get:∀ {r:Nat} {R:Root},ρ[r]?=some (some R)→(ρ ++ xs)[r]?=some (some R):=fun {r R} hr=>by
  rw [List.getElem?_append_left (List.getElem?_eq_some_iff.1 hr).1]; exact hr
 induction h with
 | pure a h=>exact .pure a h
 | nil sz=>exact .nil sz
 | sl r o n R L hR ho hL hz h hm ih=>exact .sl r o n R L (get hR) ho hL hz ih hm
 | ptr r i j R cs hR hi hl h hm ih=>exact .ptr r i j R cs (get hR) hi hl ih hm
 | sub r i j sz n R L hR hi hl hL hz h hm ih=>exact .sub r i j sz n R L (get hR) hi hl hL hz ih hm
 | agg c c' hl h ih=>exact .agg c c' hl ih
 | tup c c' hl h ih=>exact .tup c c' hl ih
 | clo fn fs fs' cs cs' hl h hl' h' ih ih'=>exact .clo fn fs fs' cs cs' hl ih hl' ih'
 | ifc t a a' h ih=>exact .ifc t a a' ih

noncomputable def asPure (l:List SV) (k:List SV→Prop):Prop:=List.rec (motive:=fun _=>(List SV→Prop)→Prop) (fun k=>k []) (fun x _ ih k=>pureS x∧ih fun l=>k (x :: l)) l k
theorem asPure_spec:∀ {l:List SV} {k:List SV→Prop},asPure l k→pureS.pureSL l∧k l
 | [],k,h=>⟨by simp only [pureS.pureSL],h⟩
 | x :: l,k,h=>by
  have h:pureS x∧asPure l fun l=>k (x :: l):=h
  obtain ⟨h1,h2⟩:=asPure_spec h.2
  exact ⟨by simp only [pureS.pureSL]; exact ⟨h.1,h1⟩,h2⟩
mutual
noncomputable def asVal (X:XS):SV→(SV→Prop)→Prop
 | .sl r o m,k=>(match X.row r with
  | some R=>o+m≤R.n∧(∀ i,i<m→(R.f (i+o)).cells.length=R.sz∧pureS (R.f (i+o)))∧k (.lst R.sz m fun i=>R.f (i+o))
  | none=>False)
 | .agg c,k=>asValL X c fun c=>k (.agg c)
 | .any,k=>k .any
 | .int K z,k=>k (.int K z)
 | .dec p i,k=>k (.dec p i)
 | .bool b,k=>k (.bool b)
 | .val v,k=>k (.val v)
 | .lst s n f,k=>(∀ i,i<n→pureS (f i))∧k (.lst s n f)
 | .ipt c,k=>pureS.pureSL c∧k (.ipt c)
 | .ptr r i j,k=>(match X.row r with
  | some R=>ifP (Nat.ble j R.sz) (i<R.n∧(R.f i).cells.length=R.sz∧asPure (dropS (R.f i).cells j) fun c=>k (.ipt c))
  | none=>False)
 | .clo fn a b,k=>asValL X a fun a=>asValL X b fun b=>k (.clo fn a b)
 | .sub r i j sz n,k=>(match X.row r with
  | some R=>ifP (Nat.beq sz 1) (i<R.n∧(R.f i).cells.length=R.sz∧j+n≤R.sz∧asPure (R.f i).cells fun c=>(∀ q,q<n→(c.getD (j+q) .any).cells=[c.getD (j+q) .any])∧k (.lst 1 n fun q=>c.getD (j+q) .any))
  | none=>False)
 | _,_=>False
noncomputable def asValL (X:XS):List SV→(List SV→Prop)→Prop
 | [],k=>k []
 | x :: xs,k=>asVal X x fun y=>asValL X xs fun ys=>k (y :: ys)
end
mutual
theorem asVal_spec {X:XS}:∀ (v:SV) {k:SV→Prop},asVal X v k→∃ v':SV,SnapN 0 X.den v.den v'.den∧k v'
 | .sl r o m,k,h=>by
  unfold asVal at h
  split at h
  ·rename_i R hR
   obtain ⟨h1,h2,h3⟩:=h
   have g:∀ i,i<m→((List.range m).map fun i=>(R.f (i+o)).den).getD i .any=(R.f (i+o)).den:=fun i hi=>by simp [List.getD,hi]
   refine ⟨.lst R.sz m fun i=>R.f (i+o),.sl r o m R.den ((List.range m).map fun i=>(R.f (i+o)).den) (X.row_get hR) (by show o+m≤R.els.length; rw [els_length]; exact h1) (by simp) (fun i hi=>?_) (fun i hi j hj=>?_) (Nat.zero_le _),h3⟩
   ·rw [g i hi,den_cells,denL_length]; exact (h2 i hi).1
   ·rw [g i hi]
    show SnapN 0 X.den ((R.els.getD (o+i) .any).cells.getD j .any) _
    rw [Nat.add_comm o i,els_get (by omega)]
    exact .pure _ (pure_cellsA (pureS_spec _ (h2 i hi).2) j)
  ·exact h.elim
 | .agg c,k,h=>by
  obtain ⟨c',h1,h2,h3⟩:=asValL_spec c (by simpa only [asVal] using h)
  exact ⟨.agg c',.agg _ _ h1 h2,h3⟩
 | .any,k,h=>⟨.any,.pure _ .any,by simpa only [asVal] using h⟩
 | .int K z,k,h=>⟨_,.pure _ (.sc _),by simpa only [asVal] using h⟩
 | .dec p i,k,h=>⟨_,.pure _ (.sc _),by simpa only [asVal] using h⟩
 | .bool b,k,h=>⟨_,.pure _ (.sc _),by simpa only [asVal] using h⟩
 | .val v,k,h=>⟨_,.pure _ (.sc _),by simpa only [asVal] using h⟩
 | .lst s n f,k,h=>by
  have h:(∀ i,i<n→pureS (f i))∧k (.lst s n f):=by simpa only [asVal] using h
  exact ⟨_,.pure _ (pureS_spec (.lst s n f) (by simp only [pureS]; exact h.1)),h.2⟩
 | .ipt c,k,h=>by
  have h:pureS.pureSL c∧k (.ipt c):=by simpa only [asVal] using h
  exact ⟨_,.pure _ (pureS_spec (.ipt c) (by simp only [pureS]; exact h.1)),h.2⟩
 | .ptr r i j,k,h=>by
  unfold asVal at h
  split at h
  ·rename_i R hR
   obtain ⟨h1,h2,h3,h4⟩:=ifP_spec h
   obtain ⟨h5,h6⟩:=asPure_spec h4
   have h1:j≤R.sz:=by simpa [Nat.ble_eq] using h1
   refine ⟨.ipt (dropS (R.f i).cells j),.ptr r i j R.den (SV.denL (dropS (R.f i).cells j)) (X.row_get hR) (by show i<R.els.length; rw [els_length]; exact h2) (by rw [denL_length,dropS_eq]; show ((R.f i).cells.drop j).length+j≤R.sz; rw [List.length_drop]; omega) (fun q hq=>?_) (Nat.zero_le _),h6⟩
   have hp:Pure ((SV.denL (dropS (R.f i).cells j)).getD q .any):=by
    have:=pureS_spec (.agg (dropS (R.f i).cells j)) (by simpa only [pureS] using h5)
    cases this with
    | agg _ h=>exact h q hq
   have e:(R.els.getD i .any).cells.getD (j+q) .any=(SV.denL (dropS (R.f i).cells j)).getD q .any:=by
    rw [els_get h2,den_cells,dropS_eq,denL_drop]
    simp [List.getD,List.getElem?_drop]
   show SnapN 0 X.den ((R.els.getD i .any).cells.getD (j+q) .any) _
   rw [e]; exact .pure _ hp
  ·exact h.elim
 | .sub r i j sz n,k,h=>by
  unfold asVal at h
  split at h
  ·rename_i R hR
   obtain ⟨h1,h2,h3,h4,h5⟩:=ifP_spec h
   obtain ⟨h6,h7,h8⟩:=asPure_spec h5
   have h1:sz=1:=by simpa using h1
   subst h1
   have g:∀ q,q<n→((List.range n).map fun q=>((R.f i).cells.getD (j+q) .any).den).getD q .any=((R.f i).cells.getD (j+q) .any).den:=fun q hq=>by simp [List.getD,hq]
   have gc:∀ q,q<n→(((R.f i).cells.getD (j+q) .any).den).cells=[((R.f i).cells.getD (j+q) .any).den]:=fun q hq=>by
    rw [den_cells,h7 q hq]; rfl
   refine ⟨.lst 1 n fun q=>(R.f i).cells.getD (j+q) .any,.sub r i j 1 n R.den ((List.range n).map fun q=>((R.f i).cells.getD (j+q) .any).den) (X.row_get hR) (by show i<R.els.length; rw [els_length]; exact h2) (by show j+n*1≤R.sz; omega) (by simp) (fun q hq=>?_) (fun q hq p hp=>?_) (Nat.zero_le _),h8⟩
   ·rw [g q hq,gc q hq]; rfl
   ·have hp:p=0:=by omega
    subst hp
    rw [g q hq,gc q hq]
    have hc:Pure ((SV.denL (R.f i).cells).getD (j+q) .any):=by
     have:=pureS_spec (.agg (R.f i).cells) (by simpa only [pureS] using h6)
     cases this with
     | agg _ h=>exact h (j+q) (by rw [denL_length]; omega)
    have e:(R.els.getD i .any).cells.getD (j+q*1+0) .any=(SV.denL (R.f i).cells).getD (j+q) .any:=by
     rw [els_get h2,den_cells,Nat.mul_one,Nat.add_zero]
    have e2:([((R.f i).cells.getD (j+q) .any).den].getD 0 .any:AV)=(SV.denL (R.f i).cells).getD (j+q) .any:=by
     have hl:j+q<(R.f i).cells.length:=by omega
     have:=denL_getE (l:=(R.f i).cells) (i:=j+q)
     simp only [List.getD,this]
     simp [hl]
    show SnapN 0 X.den ((R.els.getD i .any).cells.getD (j+q*1+0) .any) _
    rw [e,e2]; exact .pure _ hc
  ·exact h.elim
 | .tup _,k,h=>by simp [asVal] at h
 | .clo fn a b,k,h=>by
  have h:asValL X a fun a=>asValL X b fun b=>k (.clo fn a b):=by simpa only [asVal] using h
  obtain ⟨a',h1,h2,h⟩:=asValL_spec a h
  obtain ⟨b',h3,h4,h⟩:=asValL_spec b h
  exact ⟨.clo fn a' b',.clo _ _ _ _ _ h1 h2 h3 h4,h⟩
 | .yld _,k,h=>by simp [asVal] at h
 | .mp _,k,h=>by simp [asVal] at h
 | .ifc ..,k,h=>by simp [asVal] at h
theorem asValL_spec {X:XS}:∀ (c:List SV) {k:List SV→Prop},asValL X c k →
  ∃ c':List SV,(SV.denL c').length=(SV.denL c).length∧(∀ j,j<(SV.denL c).length→SnapN 0 X.den ((SV.denL c).getD j .any) ((SV.denL c').getD j .any))∧k c'
 | [],k,h=>⟨[],rfl,fun j hj=>by simp [SV.denL] at hj,by simpa only [asValL] using h⟩
 | x :: xs,k,h=>by
  have h:asVal X x fun y=>asValL X xs fun ys=>k (y :: ys):=by simpa only [asValL] using h
  obtain ⟨y,h1,h⟩:=asVal_spec x h
  obtain ⟨ys,h2,h3,h⟩:=asValL_spec xs h
  refine ⟨y :: ys,by simp [SV.denL,h2],fun j hj=>?_,h⟩
  cases j with
  | zero=>exact h1
  | succ j=>exact h3 j (by simpa [SV.denL] using hj)
end

def plainS:SV→Prop
 | .any | .int .. | .dec .. | .bool _ | .val _=>True
 | .agg c=>plainL c
 | .tup c=>plainL c
 | _=>False
where plainL:List SV→Prop
 | []=>True
 | x :: xs=>plainS x∧plainL xs
theorem plainL_get:∀ {c:List SV} (h:plainS.plainL c) {j:Nat},j<(SV.denL c).length→∃ x ∈ c,plainS x∧(SV.denL c).getD j .any=x.den
 | [],_,j,hj=>by simp [SV.denL] at hj
 | x :: xs,h,j,hj=>by
  have h:plainS x∧plainS.plainL xs:=by simpa [plainS.plainL] using h
  cases j with
  | zero=>exact ⟨x,by simp,h.1,rfl⟩
  | succ j =>
   obtain ⟨y,h1,h2,h3⟩:=plainL_get (c:=xs) h.2 (j:=j) (by simpa [SV.denL] using hj)
   exact ⟨y,by simp [h1],h2,h3⟩
theorem plainS_rel {c:Nat→Nat→Option Value} {I I':Nat→Prop} {N:Nat} {β:Nat→Option Loc}:∀ (x:SV) {v:Value},plainS x→Rel c I N β x.den v→Rel c I' N β x.den v
 | .any,v,_,h=>.any v
 | .int K z,v,_,h=>by cases h; exact .sc _
 | .dec p i,v,_,h=>by cases h; exact .sc _
 | .bool b,v,_,h=>by cases h; exact .sc _
 | .val u,v,_,h=>by cases h; exact .sc _
 | .agg l,v,hp,h=>by
  have hp:plainS.plainL l:=by simpa [plainS] using hp
  cases h with
  | agg _ vs hn h1=>exact .agg _ _ hn (relL l hp h1)
 | .tup l,v,hp,h=>by
  have hp:plainS.plainL l:=by simpa [plainS] using hp
  cases h with
  | tup _ vs hn h1=>exact .tup _ _ hn (relL l hp h1)
 | .lst ..,v,hp,_=>by simp [plainS] at hp
 | .ipt _,v,hp,_=>by simp [plainS] at hp
 | .ptr ..,v,hp,_=>by simp [plainS] at hp
 | .ptd ..,v,hp,_=>by simp [plainS] at hp
 | .ipd ..,v,hp,_=>by simp [plainS] at hp
 | .sl ..,v,hp,_=>by simp [plainS] at hp
 | .sub ..,v,hp,_=>by simp [plainS] at hp
 | .clo ..,v,hp,_=>by simp [plainS] at hp
 | .yld _,v,hp,_=>by simp [plainS] at hp
 | .mp _,v,hp,_=>by simp [plainS] at hp
 | .ifc ..,v,hp,_=>by simp [plainS] at hp
where relL:∀ (l:List SV),plainS.plainL l→∀ {f:Nat→Value},(∀ j,j<(SV.denL l).length→Rel c I N β ((SV.denL l).getD j .any) (f j))→∀ j,j<(SV.denL l).length→Rel c I' N β ((SV.denL l).getD j .any) (f j)
 | [],_,f,h,j,hj=>by simp [SV.denL] at hj
 | x :: xs,hp,f,h,j,hj=>by
  have hp:plainS x∧plainS.plainL xs:=by simpa [plainS.plainL] using hp
  cases j with
  | zero=>exact plainS_rel x hp.1 (h 0 hj)
  | succ j=>exact relL xs hp.2 (f:=fun j=>f (j+1)) (fun j hj=>h (j+1) (by simpa [SV.denL] using hj)) j (by simpa [SV.denL] using hj)
theorem Does.plain {f:FuncId} {args:List AV} {res:SV} (h:Does P f false args res.den) (hp:plainS res):Does P f true args res.den:=by
 intro w I vals hI hrel
 refine (h w I vals hI hrel).mono ?_
 rintro e w' ⟨u,I',rfl,hk,h1,h2,hr⟩
 exact ⟨u,fun _=>False,rfl,hk,fun _ h=>h.elim,fun _ h=>h.elim,plainS_rel res hp hr⟩
structure Ctr where
 f:FuncId
 /-- its condition,and what it returns -/
 c:List SV→(SV→Prop)→Prop
def Ctr.Ok (P:Program) (x:Ctr):Prop:=callable P x.f=true∧∀ args k,x.c args k→∃ res,Does P x.f true (SV.denL args) res.den∧k res
noncomputable def ctrs (l:List Ctr):CSpec:=fun g args X k =>
 List.rec (motive:=fun _=>Prop) False (fun x _ ih=>match Nat.beq x.f g with
  | true=>asValL X args fun args=>x.c args k
  | false=>ih) l
theorem ctrs_sound {l:List Ctr} (h:∀ x ∈ l,x.Ok P):SoundS P (ctrs l):=by
 intro g args X k hk
 induction l with
 | nil=>exact hk.elim
 | cons x l ih =>
  have hk2:(match Nat.beq x.f g with
   | true=>asValL X args fun args=>x.c args k
   | false=>ctrs l g args X k):=hk
  split at hk2
  ·rename_i hb
   obtain ⟨hc,ho⟩:=h x (by simp)
   obtain rfl:x.f=g:=by simpa using hb
   obtain ⟨args',h1,h2,h3⟩:=asValL_spec args hk2
   obtain ⟨res,h4,h5⟩:=ho _ _ h3
   exact ⟨hc,res,fun xs=>.inl (.inl ⟨SV.denL args',⟨h1,fun j hj=>(h2 j hj).app xs⟩,h4⟩),h5⟩
  ·exact ih (fun x hx=>h x (by simp [hx])) hk2
def pureV:SV→(SV→Prop)→Prop
 | .agg c,k=>pureVL c fun c=>k (.agg c)
 | .tup c,k=>pureVL c fun c=>k (.tup c)
 | .ipt c,k=>pureVL c fun c=>k (.ipt c)
 | .clo fn a b,k=>pureVL a fun a=>pureVL b fun b=>k (.clo fn a b)
 | .any,k=>k .any
 | .int K z,k=>k (.int K z)
 | .dec p i,k=>k (.dec p i)
 | .bool b,k=>k (.bool b)
 | .val v,k=>k (.val v)
 | .lst s n f,k=>(∀ i,i<n→pureS (f i))∧k (.lst s n f)
 | _,_=>False
where pureVL:List SV→(List SV→Prop)→Prop
 | [],k=>k []
 | x :: xs,k=>pureV x fun y=>pureVL xs fun ys=>k (y :: ys)
mutual
theorem pureV_spec:∀ (v:SV) {k:SV→Prop},pureV v k→pureS v∧k v
 | .agg c,k,h=>by simpa only [pureS] using pureVL_spec c (k:=fun c=>k (.agg c)) (by simpa only [pureV] using h)
 | .tup c,k,h=>by simpa only [pureS] using pureVL_spec c (k:=fun c=>k (.tup c)) (by simpa only [pureV] using h)
 | .ipt c,k,h=>by simpa only [pureS] using pureVL_spec c (k:=fun c=>k (.ipt c)) (by simpa only [pureV] using h)
 | .clo fn a b,k,h=>by
  obtain ⟨h1,h⟩:=pureVL_spec a (k:=fun a=>pureV.pureVL b fun b=>k (.clo fn a b)) (by simpa only [pureV] using h)
  obtain ⟨h2,h⟩:=pureVL_spec b (k:=fun b=>k (.clo fn a b)) h
  exact ⟨by simp only [pureS]; exact ⟨h1,h2⟩,h⟩
 | .any,k,h=>⟨by simp only [pureS],by simpa only [pureV] using h⟩
 | .int K z,k,h=>⟨by simp only [pureS],by simpa only [pureV] using h⟩
 | .dec p i,k,h=>⟨by simp only [pureS],by simpa only [pureV] using h⟩
 | .bool b,k,h=>⟨by simp only [pureS],by simpa only [pureV] using h⟩
 | .val v,k,h=>⟨by simp only [pureS],by simpa only [pureV] using h⟩
 | .lst s n f,k,h=>by
  have h:(∀ i,i<n→pureS (f i))∧k (.lst s n f):=by simpa only [pureV] using h
  exact ⟨by simp only [pureS]; exact h.1,h.2⟩
 | .ptr ..,k,h=>by simp [pureV] at h
 | .ptd ..,k,h=>by simp [pureV] at h
 | .ipd ..,k,h=>by simp [pureV] at h
 | .sl ..,k,h=>by simp [pureV] at h
 | .sub ..,k,h=>by simp [pureV] at h
 | .yld _,k,h=>by simp [pureV] at h
 | .mp _,k,h=>by simp [pureV] at h
 | .ifc ..,k,h=>by simp [pureV] at h
theorem pureVL_spec:∀ (c:List SV) {k:List SV→Prop},pureV.pureVL c k→pureS.pureSL c∧k c
 | [],k,h=>⟨by simp only [pureS.pureSL],by simpa only [pureV.pureVL] using h⟩
 | x :: xs,k,h=>by
  obtain ⟨h1,h⟩:=pureV_spec x (k:=fun y=>pureV.pureVL xs fun ys=>k (y :: ys)) (by simpa only [pureV.pureVL] using h)
  obtain ⟨h2,h⟩:=pureVL_spec xs (k:=fun ys=>k (x :: ys)) h
  exact ⟨by simp only [pureS.pureSL]; exact ⟨h1,h2⟩,h⟩
end
def Ctr.OkF (P:Program) (x:Ctr):Prop:=callable P x.f=true∧∀ args k,x.c args k→∃ res,Does P x.f false (SV.denL args) res.den∧k res
noncomputable def ctrsF (l:List Ctr) (rest:CSpec):CSpec:=fun g args X k =>
 List.rec (motive:=fun _=>Prop) (rest g args X k) (fun x _ ih=>match Nat.beq x.f g with
  | true=>pureV.pureVL args fun args=>x.c args k
  | false=>ih) l
theorem pureSL_spec {l:List SV} (h:pureS.pureSL l):∀ j,j<(SV.denL l).length→Pure ((SV.denL l).getD j .any):=by
 have:=pureS_spec (.agg l) (by simpa only [pureS] using h)
 cases this with
 | agg _ h=>exact h
theorem ctrsF_sound {l:List Ctr} {rest:CSpec} (hr:SoundS P rest) (h:∀ x ∈ l,x.OkF P):SoundS P (ctrsF l rest):=by
 intro g args X k hk
 induction l with
 | nil=>exact hr _ _ _ _ hk
 | cons x l ih =>
  have hk2:(match Nat.beq x.f g with
   | true=>pureV.pureVL args fun args=>x.c args k
   | false=>ctrsF l rest g args X k):=hk
  split at hk2
  ·rename_i hb
   obtain ⟨hc,ho⟩:=h x (by simp)
   obtain rfl:x.f=g:=by simpa using hb
   obtain ⟨h1,h2⟩:=pureVL_spec args hk2
   obtain ⟨res,h4,h5⟩:=ho _ _ h2
   exact ⟨hc,res,fun xs=>.inl (.inr ⟨pureSL_spec h1,h4⟩),h5⟩
  ·exact ih (fun x hx=>h x (by simp [hx])) hk2
end Go.Lg
