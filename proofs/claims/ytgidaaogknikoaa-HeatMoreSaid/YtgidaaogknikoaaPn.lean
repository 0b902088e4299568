import Derived.Test.YtgidaaogknikoaaPfPgPhPiPjPk
set_option linter.unusedVariables false
set_option linter.unusedSimpArgs false
namespace Go.Lg
open Go.RowKit
variable {P : Program}
noncomputable def setRows (X : XS) (l : List (Nat × SRow)) : XS := List.rec (motive := fun _ => XS → XS) (fun X => X) (fun p _ ih X => ih (X.set p.1 (some p.2))) l X
theorem setRows_n : ∀ (l : List (Nat × SRow)) (X : XS), (setRows X l).n = X.n
  | [], X => rfl
  | p :: l, X => by
    show (setRows (X.set p.1 (some p.2)) l).n = X.n
    rw [setRows_n l]; rfl
theorem setRows_den : ∀ (l : List (Nat × SRow)) (X : XS), X.n ≤ 512 → (∀ p ∈ l, p.1 < X.n) → (setRows X l).den = l.foldl (fun ρ p => ρ.set p.1 (denR (some p.2))) X.den
  | [], X, _, _ => rfl
  | p :: l, X, hX, h => by
    show (setRows (X.set p.1 (some p.2)) l).den = _
    rw [setRows_den l (X.set p.1 (some p.2)) hX fun q hq => h q (by simp [hq])]
    rw [XS.set_den hX (h p (by simp))]
    rfl
theorem foldl_set_append {α : Type} (f : α → Option Root) (g : α → Nat) : ∀ (l : List α) (ρ ext : Store), (∀ p ∈ l, g p < ρ.length) → l.foldl (fun ρ p => ρ.set (g p) (f p)) (ρ ++ ext) = l.foldl (fun ρ p => ρ.set (g p) (f p)) ρ ++ ext
  | [], ρ, ext, _ => rfl
  | p :: l, ρ, ext, h => by
    simp only [List.foldl_cons]
    rw [List.set_append_left _ _ (h p (by simp))]
    exact foldl_set_append f g l _ ext fun q hq => by rw [List.length_set]; exact h q (by simp [hq])
def WrOK (P : Program) (f : FuncId) (X0 X1 : XS) (args : List SV) (res : SV) : Prop := ∀ ext, DoesH P noGhost f (SV.denL args) () (X0.den ++ ext) fun v _ ρ => v = res.den ∧ ρ = X1.den ++ ext
noncomputable def wrH (P : Program) (cs : CSpec) (cx : CX) (ic : IC) (sp : Nat → Option HSpec) (isp : Nat → Option ISpecR) (f : FuncId) (X0 X1 : XS) (args : List SV) (res : SV) : Prop :=
  ifP (Nat.blt X0.n 512 && Nat.beq X1.n X0.n) (belXS X0 X0.n (belVL X0.n args (bodyH P cs cx none ic sp isp f args X0 none fun n rs t X q => resS P (sev n t) X rs fun vs => eqS res (oneS vs) (normP n X0.n [] .nil X1 t X True))))
theorem wrH_ok {cs : CSpec} {cx : CX} {ic : IC} (hcs : SoundS P cs) (hcx : SoundXH P noGhost γ0 cx) (hic : SoundIH P ic) (hm : P.follows .mixedOrders = true) {sp : Nat → Option HSpec} {isp : Nat → Option ISpecR} {f : FuncId} {X0 X1 : XS} {args : List SV} {res : SV} (h : wrH P cs cx ic sp isp f X0 X1 args res) : WrOK P f X0 X1 args res := by
  obtain ⟨hX, h⟩ := ifP_spec h
  simp only [Bool.and_eq_true, Nat.blt_eq, Nat.beq_eq] at hX
  obtain ⟨hX, h1n⟩ := hX
  obtain ⟨hb1, h⟩ := belX_BelS h
  obtain ⟨hb2, h⟩ := belVL_spec args h
  obtain ⟨fn, c, hf, hb, hn, hw⟩ := bodyH_spec (Γ := noGhost) (γ := γ0) (ys := none) hcs hcx trivial hic hm hX h
  have hd : DoesH P noGhost f (SV.denL args) () X0.den fun v s ρ => v = res.den ∧ ρ = X1.den := by
    refine DoesH.of2 hf hb fun H h1 h2 h3 => wpH_mono (hw H h1 h2 h3) ?_
    rintro e s A ρ ⟨he, t, X', q', -, rfl, rfl, hX, hk⟩
    obtain ⟨vs, h4, h5⟩ := resS_spec hk
    obtain ⟨h6, h7, h8⟩ := eqS_spec _ _ h5
    refine ⟨he, _, h4, by rw [← oneS_den]; exact h7, frD fn.ntmps .nil, X1.den, fun a w hs => hs.weaken fun C' a w hC' hs' => hs'.norm (normP_spec (C := C') (by rw [hC'.2, h2, XS.length]; exact Nat.le_refl _) h8).1, by rw [← oneS_den]; exact h6, rfl⟩
  intro ext
  refine (hd.frame (fun v s ρ h => by rw [h.2, XS.length, XS.length, h1n]) (.inl rfl) (fun j hj => by rw [XS.length]; exact hb2 j hj) hb1 ext).mono ?_
  rintro v s ρ ⟨ρ0, ⟨h1, rfl⟩, rfl⟩
  exact ⟨h1, rfl⟩
structure WCtr where
  f : FuncId
  p : Type
  pre : p → Prop
  X0 : p → XS
  ch : p → List (Nat × SRow)
  args : p → List SV
  res : p → SV
  rd : List SV → XS → (p → Prop) → Prop
  rdOK : ∀ a X k, rd a X k → ∃ s, k s
noncomputable def WCtr.X1 (x : WCtr) (p : x.p) : XS := setRows (x.X0 p) (x.ch p)
def chB (n : Nat) (l : List (Nat × SRow)) : Bool := l.all fun p => Nat.blt p.1 n
def WCtr.Ok (P : Program) (x : WCtr) : Prop := callable P x.f = true ∧ ∀ p, x.pre p → WrOK P x.f (x.X0 p) (x.X1 p) (x.args p) (x.res p)
noncomputable def wcK (x : WCtr) (args : List SV) (X : XS) (q : GS) (k : KVH) : Prop :=
  x.rd args X fun p => x.pre p ∧ eqDL (x.args p) args (ifP (Nat.ble (x.X0 p).n X.n && chB (x.X0 p).n (x.ch p)) (rowsEq (x.X0 p) X (x.X0 p).n (forceX (setRows X (x.ch p)) fun X => k (x.res p) X q)))
noncomputable def ctrsW (l : List WCtr) (rest : CX) : CX := fun g => List.rec (motive := fun _ => Option (List SV → XS → GS → KVH → Prop)) (rest g) (fun x _ ih => match Nat.beq x.f g with
  | true => some (wcK x)
  | false => ih) l
theorem ctrsW_sound {Γ : Ghost} {γ : GS → Γ.S} {l : List WCtr} {rest : CX} (hr : SoundXH P Γ γ rest) (h : ∀ x ∈ l, x.Ok P) : SoundXH P Γ γ (ctrsW l rest) := by
  intro g hh hg args X q k hX hk
  induction l with
  | nil => exact hr g hh hg args X q k hX hk
  | cons x l ih =>
    have hg2 : (match Nat.beq x.f g with
      | true => some (wcK x)
      | false => ctrsW l rest g) = some hh := hg
    split at hg2
    · rename_i hb
      obtain rfl : x.f = g := by simpa using hb
      cases hg2
      obtain ⟨hc, ho⟩ := h x (by simp)
      unfold wcK at hk
      obtain ⟨p, hp, h1⟩ := x.rdOK _ _ _ hk
      obtain ⟨h2, h3⟩ := eqDL_spec _ _ h1
      obtain ⟨h4, h5⟩ := ifP_spec h3
      simp only [Bool.and_eq_true, Nat.ble_eq] at h4
      obtain ⟨h4, hch⟩ := h4
      obtain ⟨h6, h7⟩ := rowsEq_spec h5
      rw [forceX_eq] at h7
      have hlt : ∀ c ∈ x.ch p, c.1 < (x.X0 p).n := fun c hc => by
        have := List.all_eq_true.1 hch c hc
        simpa [Nat.blt_eq] using this
      have hpre := prefix_den h4 h6
      have hd := ho p hp (X.den.drop (x.X0 p).n)
      rw [← hpre, ← h2] at hd
      have hX0 : (x.X0 p).n ≤ 512 := by omega
      have e : (setRows X (x.ch p)).den = (x.X1 p).den ++ X.den.drop (x.X0 p).n := by
        rw [setRows_den _ _ (by omega) fun c hc => by have := hlt c hc; omega]
        unfold WCtr.X1
        rw [setRows_den _ _ hX0 hlt]
        conv => lhs; rw [hpre]
        exact foldl_set_append (fun p : Nat × SRow => denR (some p.2)) (fun p => p.1) _ _ _ fun c hc => by rw [XS.length]; exact hlt c hc
      refine ⟨hc, (hd.ghost (R := fun v ρ' => v = (x.res p).den ∧ ρ' = (x.X1 p).den ++ X.den.drop (x.X0 p).n)).mono ?_⟩
      rintro v s ρ' ⟨⟨rfl, rfl⟩, rfl⟩
      exact ⟨x.res p, setRows X (x.ch p), q, rfl, rfl, e.symm, by rw [setRows_n]; exact hX, h7⟩
    · exact ih (fun x hx => h x (by simp [hx])) hg2
end Go.Lg
