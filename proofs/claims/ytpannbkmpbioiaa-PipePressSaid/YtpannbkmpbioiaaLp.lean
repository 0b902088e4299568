import Derived.Test.YtpannbkmpbioiaaLs
set_option linter.unusedVariables false
namespace Go.Lg
variable {P : Program}

/-- the code, taken apart as far as it goes -/
def awp (P : Program) (C : Ctx) : Code → (Exit → List AV → Store → Prop) → List AV → Store → Prop
  | .seq x y, Q, A, ρ => awp P C x (thenA (awp P C y Q) Q) A ρ
  | .region _ ops _, Q, A, ρ => runOps P ops ops.toList (Q .normal) A ρ
  | .cond c x y, Q, A, ρ => (match aev A c with
    | .sc (.bool b) => (b = true → awp P C x Q A ρ) ∧ (b = false → awp P C y Q A ρ)
    | _ => False)
  | .block id c, Q, A, ρ => awp P C c (inBlockA id Q) A ρ
  | .skip, Q, A, ρ => Q .normal A ρ
  | .ret, Q, A, ρ => Q .ret A ρ
  | .exit id, Q, A, ρ => Q (.exit id) A ρ
  | .label _, Q, A, ρ => Q .normal A ρ
  | .scope c, Q, A, ρ => awp P C c (noGotoA Q) A ρ
  | c, Q, A, ρ => wpA P C c Q A ρ

/-- each region that draws its order passes the check -/
def codeOK : Code → Bool
  | .region _ ops true => drawOK ops
  | .seq x y => codeOK x && codeOK y
  | .cond _ x y => codeOK x && codeOK y
  | .block _ c => codeOK c
  | .loop c => codeOK c
  | .scope c => codeOK c
  | .rangeFunc _ _ a b => codeOK a && codeOK b
  | _ => true

theorem awp_sound {C : Ctx} (hm : P.follows .mixedOrders = true) : ∀ (c : Code), codeOK c = true → ∀ (Q : Exit → List AV → Store → Prop) (A : List AV) (ρ : Store), awp P C c Q A ρ → wpA P C c Q A ρ := by
  intro c
  induction c with
  | seq x y ihx ihy =>
    intro hd Q A ρ h
    simp only [codeOK, Bool.and_eq_true] at hd
    refine wpA_seq (wpA_mono (ihx hd.1 _ _ _ h) ?_)
    intro e A ρ hq
    cases e <;> first | exact ihy hd.2 _ _ _ hq | exact hq
  | region id ops draw =>
    intro hd Q A ρ h
    cases draw with
    | false => obtain ⟨l⟩ := ops; exact wpA_region h
    | true => exact wpA_draw hm hd h
  | cond c x y ihx ihy =>
    intro hd Q A ρ h
    simp only [codeOK, Bool.and_eq_true] at hd
    unfold awp at h
    split at h
    · rename_i b hb
      exact wpA_cond b hb (fun e => ihx hd.1 _ _ _ (h.1 e)) (fun e => ihy hd.2 _ _ _ (h.2 e))
    · exact h.elim
  | block id c ih => intro hd Q A ρ h; exact wpA_block (ih hd _ _ _ h)
  | skip => intro _ Q A ρ h; exact wpA_skip h
  | ret => intro _ Q A ρ h; exact wpA_ret h
  | exit id => intro _ Q A ρ h; exact wpA_exit h
  | label l => intro _ Q A ρ h; exact wpA_label h
  | scope c ih => intro hd Q A ρ h; exact wpA_scope (ih hd _ _ _ h)
  | _ => intro _ Q A ρ h; exact h

/-- the contract, from the code taken apart -/
theorem Does.of' {f : FuncId} {fn : Func} {c : Code} {args : List AV} {res : AV} (hm : P.follows .mixedOrders = true) (hf : P.funcs[f]? = some fn) (hb : fn.body = some c) (hd : codeOK c = true)
    (h : ∀ C, C.rd = none ∧ C.n0 = 0 ∧ C.own → awp P C c (fun e A ρ => (e = .normal ∨ e = .ret) ∧ ∃ vs, resA P A ρ fn.results.toList vs ∧ Snap ρ (one? vs) res) (args ++ List.replicate (fn.ntmps - args.length) .any) []) :
    Does P f false args res := Does.of hf hb (fun C hC => awp_sound hm _ hd _ _ _ (h C hC))

end Go.Lg
namespace Go.Lg
variable {P : Program}

/-- what is kept of a frame: the slots listed -/
def keepFrom (l : List Nat) : Nat → List AV → List AV
  | _, [] => []
  | i, v :: A => (if l.contains i then v else .any) :: keepFrom l (i + 1) A
def keep (l : List Nat) (A : List AV) : List AV := keepFrom l 0 A

theorem keepFrom_length (l : List Nat) : ∀ (A : List AV) (i : Nat), (keepFrom l i A).length = A.length
  | [], _ => rfl
  | v :: A, i => by simp [keepFrom, keepFrom_length l A (i + 1)]
theorem keepFrom_get (l : List Nat) : ∀ (A : List AV) (i j : Nat), j < A.length → (keepFrom l i A).getD j .any = A.getD j .any ∨ (keepFrom l i A).getD j .any = .any
  | [], _, j, h => by simp at h
  | v :: A, i, 0, _ => by simp only [keepFrom]; split <;> simp
  | v :: A, i, j + 1, h => by
    have := keepFrom_get l A (i + 1) j (by simpa using h)
    simpa [keepFrom] using this

theorem SRel.keep {C : Ctx} {A : List AV} {ρ : Store} {a w} (hs : SRel C a w A ρ) (l : List Nat) : SRel C a w (keep l A) ρ :=
  hs.forget _ (keepFrom_length l A 0) (fun i hi => keepFrom_get l A 0 i hi)

def BelL (n : Nat) (l : List AV) : Prop := ∀ a ∈ l, Bel n a
def BelS (n : Nat) : Store → Prop
  | [] => True
  | none :: r => BelS n r
  | some R :: r => (BelL n R.els ∧ BelQ n R.ob) ∧ BelS n r

theorem Bel.cells {n : Nat} {e : AV} (h : Bel n e) (j : Nat) : Bel n (e.cells.getD j .any) := by
  cases e with
  | agg c =>
    show Bel n (c.getD j .any)
    by_cases hj : j < c.length
    · cases h with
      | pure _ hp => cases hp with
        | agg _ h => exact .pure _ (h j hj)
      | agg _ h => exact h j hj
    · have : c.getD j .any = .any := by unfold List.getD; rw [List.getElem?_eq_none (by omega)]; rfl
      rw [this]; exact .pure _ .any
  | _ =>
    cases j with
    | zero => exact h
    | succ j => exact .pure _ .any

theorem BelL.get {n : Nat} {l : List AV} (h : BelL n l) (i : Nat) : Bel n (l.getD i .any) := by
  by_cases hi : i < l.length
  · have : l.getD i .any = l[i] := by unfold List.getD; rw [List.getElem?_eq_getElem hi]; rfl
    rw [this]; exact h _ (List.getElem_mem _)
  · have : l.getD i .any = .any := by unfold List.getD; rw [List.getElem?_eq_none (by omega)]; rfl
    rw [this]; exact .pure _ .any
theorem BelS.get {n : Nat} : ∀ {ρ : Store}, BelS n ρ → ∀ (r : Nat) (R : Root), ρ[r]? = some (some R) → BelL n R.els ∧ BelQ n R.ob
  | [], _, r, R, h => by simp at h
  | none :: ρ, hs, r, R, h => by
    cases r with
    | zero => simp at h
    | succ r => exact BelS.get (ρ := ρ) hs r R (by simpa using h)
  | some R0 :: ρ, hs, r, R, h => by
    cases r with
    | zero => simp at h; subst h; exact hs.1
    | succ r => exact BelS.get (ρ := ρ) hs.2 r R (by simpa using h)

theorem SRel.trim' {C : Ctx} {A : List AV} {ρ : Store} {a w} (hs : SRel C a w A ρ) (n : Nat) (hT : C.n0 ≤ n) (h : ρ.length = n ∨ (n ≤ ρ.length ∧ BelL n A ∧ BelS n (ρ.take n))) : SRel C a w A (ρ.take n) := by
  rcases h with h | ⟨h1, h2, h3⟩
  · rw [List.take_of_length_le (by omega)]; exact hs
  · refine hs.trim n h1 hT (fun i _ => h2.get i) (fun r R hr hR i _ j _ => ((h3.get r R ?_).1.get i).cells j) (fun r R hr hR => (h3.get r R ?_).2) <;>
    (rw [List.getElem?_take_of_lt hr]; exact hR)

section
variable {C : Ctx} {Q : Exit → List AV → Store → Prop} {A : List AV} {ρ : Store}
/-- A LOOP: 'l': the slots that are kept at its head; 'nr': how many rows are kept -/
theorem wpA_loopK {c : Code} (hm : P.follows .mixedOrders = true) (hd : codeOK c = true) (l : List Nat) (nr : Nat) (hT : C.n0 ≤ nr) (Inv : Nat → List AV → Store → Prop) (n0 : Nat) (ht0 : ρ.length = nr ∨ (nr ≤ ρ.length ∧ BelL nr (keep l A) ∧ BelS nr (ρ.take nr))) (h0 : Inv n0 (keep l A) (ρ.take nr))
    (round : ∀ n A ρ, Inv n A ρ → awp P C c (thenA (fun A' ρ' => ∃ m, m < n ∧ (ρ'.length = nr ∨ (nr ≤ ρ'.length ∧ BelL nr (keep l A') ∧ BelS nr (ρ'.take nr))) ∧ Inv m (keep l A') (ρ'.take nr)) Q) A ρ) : wpA P C (.loop c) Q A ρ := by
  refine wpA_loop Inv n0 (keep l A) (ρ.take nr) (fun a w hs => (hs.keep l).trim' nr hT ht0) h0 (fun n A ρ hi => ?_)
  refine wpA_mono (awp_sound hm _ hd _ _ _ (round n A ρ hi)) ?_
  intro e A' ρ' hq
  cases e with
  | normal =>
    obtain ⟨m, hm, ht, hi'⟩ := hq
    exact ⟨m, keep l A', ρ'.take nr, hm, fun a w hs => (hs.keep l).trim' nr hT ht, hi'⟩
  | _ => exact hq
end

/-! simp's rules -/
theorem bel_any (n : Nat) : Bel n .any := .pure _ .any
theorem bel_sc (n : Nat) (v : Value) : Bel n (.sc v) := .pure _ (.sc v)
theorem bel_ptr (n r i j : Nat) (h : r < n) : Bel n (.ptr r i j) := .ptr r i j h
theorem bel_sl (n r o k : Nat) (h : r < n) : Bel n (.sl r o k) := .sl r o k h
theorem belL_nil (n : Nat) : BelL n [] := fun a h => by simp at h
theorem belL_cons (n : Nat) (a : AV) (l : List AV) : BelL n (a :: l) ↔ Bel n a ∧ BelL n l := by simp [BelL]
theorem bel_agg (n : Nat) (l : List AV) (h : BelL n l) : Bel n (.agg l) := .agg l (fun j _ => h.get j)
theorem belL_append (n : Nat) (l l' : List AV) : BelL n (l ++ l') ↔ BelL n l ∧ BelL n l' := by
  simp only [BelL, List.mem_append]
  exact ⟨fun h => ⟨fun a ha => h a (.inl ha), fun a ha => h a (.inr ha)⟩, fun h a ha => ha.elim (h.1 a) (h.2 a)⟩
theorem belL_map {α} (n : Nat) (f : α → AV) (l : List α) (h : ∀ x, Bel n (f x)) : BelL n (l.map f) := fun a ha => by
  obtain ⟨x, _, rfl⟩ := List.mem_map.1 ha; exact h x
end Go.Lg
namespace Go.Lg
/-- a frame by its slots -/
def fr (l : List (Nat × AV)) : Nat → Nat → List AV
  | 0, _ => []
  | n + 1, i => (l.lookup i).getD .any :: fr l n (i + 1)
end Go.Lg
