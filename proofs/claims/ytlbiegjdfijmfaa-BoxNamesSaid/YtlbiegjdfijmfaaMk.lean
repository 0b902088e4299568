import Derived.Test.YtlbiegjdfijmfaaMj
set_option linter.unusedVariables false
set_option linter.unusedSectionVars false
namespace Go.Lg
open Go.RowKit
variable {P : Program}

theorem take_append_last {α : Type} {l : List α} {n : Nat} {s : α} (h : l.length = n + 1) (hs : l[n]? = some s) : l = l.take n ++ [s] := by
  obtain ⟨hn, rfl⟩ := List.getElem?_eq_some_iff.1 hs
  rw [← List.take_succ_eq_append_getElem hn, List.take_of_length_le (by omega)]

theorem afterE_spec {A : Tr AV} {n : Nat} {st : List LS} {X : RowT} {x st2 A2 X2} (h : afterE A n st X = some (x, st2, A2, X2)) {Q : Exit → List LS → List AV → Store → Prop} {f : List AV} (hQ : Q x st2 f X2.L) : A2 = A ∧ X2 = X ∧ afterLoop Q f st X.L := by
  unfold afterE at h
  split at h <;> simp only [Option.some.injEq, Prod.mk.injEq, reduceCtorEq] at h
  all_goals
    rename_i h1 h2
    obtain ⟨rfl, rfl, rfl, rfl⟩ := h
    simp only [Nat.beq_eq] at h1
    refine ⟨rfl, rfl, _, _, take_append_last h1 h2, hQ⟩
theorem afterE_same {A : Tr AV} {n : Nat} {st : List LS} {X : RowT} {x st2 A2 X2} (h : afterE A n st X = some (x, st2, A2, X2)) : A2 = A ∧ X2 = X := by
  have := afterE_spec h (Q := fun _ _ _ _ => True) (f := []) trivial
  exact ⟨this.1, this.2.1⟩

/-- what an answer of the evaluator's is worth -/
def SoundK (P : Program) (E : List LoopE) (n : Nat) (c : Code) (st : List LS) (A : Tr AV) (X : RowT) (x : Exit) (st' : List LS) (A' : Tr AV) (X' : RowT) : Prop :=
  Good X X' ∧ ∀ L, Emap L E → ∀ C : Ctx, (∀ l0, C.rd = some l0 → ∃ e ∈ L, e.l = l0) → ∀ Q : Exit → List LS → List AV → Store → Prop, Q x st' (fL n A') X'.L → wpG P C L c Q st (fL n A) X.L

section
variable {call : CallF} {yld : YieldF} (hC : SoundC P call) (hY : SoundY P yld) (hm : P.follows .mixedOrders = true) {E : List LoopE} (hE : ∀ x ∈ E, x.n ≤ 512) {n : Nat} (hn : n ≤ 512)

theorem evLoop_sound {c : Code} {f : List LS → Tr AV → RowT → OutE} (hf : ∀ st A X x st' A' X', f st A X = some (x, st', A', X') → X.n ≤ 512 → SoundK P E n c st A X x st' A' X') :
    ∀ {k : Nat} {st A X x st' A' X'}, evLoop f k st A X = some (x, st', A', X') → X.n ≤ 512 → SoundK P E n (.loop c) st A X x st' A' X' := by
  have good : ∀ {k : Nat} {st A X x st' A' X'}, evLoop f k st A X = some (x, st', A', X') → X.n ≤ 512 → Good X X' := by
    intro k
    induction k with
    | zero => intro st A X x st' A' X' h; cases h
    | succ k ih =>
      intro st A X x st' A' X' h hX
      have h : (match f st A X with
        | some (.normal, st, A, X) => evLoop f k st A X
        | r => r) = some (x, st', A', X') := h
      split at h
      · rename_i st1 A1 X1 hr
        have h1 := (hf _ _ _ _ _ _ _ hr hX).1
        exact h1.trans (ih h h1.ok)
      · exact (hf _ _ _ _ _ _ _ h hX).1
  intro k st A X x st' A' X' h hX
  refine ⟨good h hX, fun L hL C hrd Q hQ => ?_⟩
  refine wpG_loop (fun m st A ρ => ∃ t X, A = fL n t ∧ ρ = X.L ∧ X.n ≤ 512 ∧ evLoop f m st t X = some (x, st', A', X')) k st (fL n A) X.L (fun _ _ h => h) ⟨A, X, rfl, rfl, hX, h⟩ ?_
  rintro m st A ρ ⟨t, X, rfl, rfl, hX, h⟩
  cases m with
  | zero => cases h
  | succ m =>
    have h : (match f st t X with
      | some (.normal, st, A, X) => evLoop f m st A X
      | r => r) = some (x, st', A', X') := h
    split at h
    · rename_i st1 A1 X1 hr
      obtain ⟨h1, h3⟩ := hf _ _ _ _ _ _ _ hr hX
      exact h3 L hL C hrd _ ⟨m, st1, fL n A1, X1.L, by omega, fun _ _ h => h, A1, X1, rfl, rfl, h1.ok, h⟩
    · rename_i hne
      obtain ⟨h1, h3⟩ := hf _ _ _ _ _ _ _ h hX
      refine h3 L hL C hrd _ ?_
      cases x with
      | normal => exact absurd h (hne _ _ _)
      | _ => exact hQ

include hC hY hE hn hm
theorem evCode_sound {k : Nat} : ∀ (c : Code) {st A X x st' A' X'}, evCode P call yld E n k c st A X = some (x, st', A', X') → X.n ≤ 512 → SoundK P E n c st A X x st' A' X' := by
  intro c
  induction c with
  | skip => intro st A X x st' A' X' h hX; cases h; exact ⟨Good.refl hX, fun L hL C hrd Q hQ => wpG_skip hQ⟩
  | ret => intro st A X x st' A' X' h hX; cases h; exact ⟨Good.refl hX, fun L hL C hrd Q hQ => wpG_ret hQ⟩
  | exit id => intro st A X x st' A' X' h hX; cases h; exact ⟨Good.refl hX, fun L hL C hrd Q hQ => wpG_exit hQ⟩
  | label l => intro st A X x st' A' X' h hX; cases h; exact ⟨Good.refl hX, fun L hL C hrd Q hQ => wpG_label hQ⟩
  | goto l => intro st A X x st' A' X' h hX; cases h
  | refuse w => intro st A X x st' A' X' h hX; cases h
  | seq a b iha ihb =>
    intro st A X x st' A' X' h hX
    have h : evSeq (evCode P call yld E n k a st A X) (evCode P call yld E n k b) = some (x, st', A', X') := h
    unfold evSeq at h
    split at h
    · rename_i st1 A1 X1 hr
      obtain ⟨h1, h2⟩ := iha hr hX
      obtain ⟨h3, h4⟩ := ihb h h1.ok
      exact ⟨h1.trans h3, fun L hL C hrd Q hQ => wpG_seq (h2 L hL C hrd _ (h4 L hL C hrd Q hQ))⟩
    · rename_i hne
      obtain ⟨h1, h2⟩ := iha h hX
      refine ⟨h1, fun L hL C hrd Q hQ => wpG_seq (h2 L hL C hrd _ ?_)⟩
      cases x with
      | normal => exact absurd h (hne _ _ _)
      | _ => exact hQ
  | cond c a b iha ihb =>
    intro st A X x st' A' X' h hX
    have h : evCond (evT n A c) (evCode P call yld E n k a st A X) (evCode P call yld E n k b st A X) = some (x, st', A', X') := h
    unfold evCond at h
    split at h
    · rename_i hc
      obtain ⟨h1, h2⟩ := iha h hX
      exact ⟨h1, fun L hL C hrd Q hQ => wpG_cond (b := true) (by rw [evT_eq]; exact hc) (fun _ => h2 L hL C hrd Q hQ) (fun h => by cases h)⟩
    · rename_i hc
      obtain ⟨h1, h2⟩ := ihb h hX
      exact ⟨h1, fun L hL C hrd Q hQ => wpG_cond (b := false) (by rw [evT_eq]; exact hc) (fun h => by cases h) (fun _ => h2 L hL C hrd Q hQ)⟩
    · cases h
  | block id a ih =>
    intro st A X x st' A' X' h hX
    have h : evBlock id (evCode P call yld E n k a st A X) = some (x, st', A', X') := h
    unfold evBlock at h
    split at h
    · rename_i i st1 A1 X1 hr
      obtain ⟨h1, h2⟩ := ih hr hX
      split at h
      · rename_i hb
        simp only [Nat.beq_eq] at hb
        cases h
        exact ⟨h1, fun L hL C hrd Q hQ => wpG_block (h2 L hL C hrd _ (by simp only [inBlockG, hb, if_true]; exact hQ))⟩
      · rename_i hb
        have hb : i ≠ id := fun e => by rw [e] at hb; simp at hb
        cases h
        exact ⟨h1, fun L hL C hrd Q hQ => wpG_block (h2 L hL C hrd _ (by simp only [inBlockG, hb, if_false]; exact hQ))⟩
    · rename_i hne
      obtain ⟨h1, h2⟩ := ih h hX
      refine ⟨h1, fun L hL C hrd Q hQ => wpG_block (h2 L hL C hrd _ ?_)⟩
      cases x with
      | exit i => exact absurd h (hne _ _ _ _)
      | _ => exact hQ
  | scope a ih =>
    intro st A X x st' A' X' h hX
    have h : evScope (evCode P call yld E n k a st A X) = some (x, st', A', X') := h
    unfold evScope at h
    split at h
    · cases h
    · rename_i hne
      obtain ⟨h1, h2⟩ := ih h hX
      refine ⟨h1, fun L hL C hrd Q hQ => wpG_scope (h2 L hL C hrd _ ?_)⟩
      cases x with
      | goto l => exact absurd h (hne _ _ _ _)
      | _ => exact hQ
  | loop a ih =>
    intro st A X x st' A' X' h hX
    exact evLoop_sound (fun st A X x st' A' X' h hX => ih h hX) h hX
  | region id ops draw =>
    intro st A X x st' A' X' h hX
    have h : evRegion P call yld E n ops draw st A X = some (x, st', A', X') := h
    unfold evRegion at h
    split at h
    · obtain ⟨rfl, h2, h3⟩ := evOps_sound hC hY hE hn h hX
      exact ⟨h2, fun L hL C hrd Q hQ => by obtain ⟨l⟩ := ops; exact wpG_region (h3 L hL _ hQ)⟩
    · split at h
      · rename_i W hd
        obtain ⟨rfl, rfl, h3, h4⟩ := evOpsA_sound hC hn h hX
        exact ⟨h3, fun L hL C hrd Q hQ => wpG_drawW hm (drawSet_spec hd) (h4 _ hQ)⟩
      · cases h
  | rangeFunc g ps a b iha ihb =>
    intro st A X x st' A' X' h hX
    have h : evRange P call E n (evT n A g) ps a b st A X = some (x, st', A', X') := h
    unfold evRange at h
    split at h
    · rename_i gf args hfn
      obtain ⟨hc, h⟩ := ifB_spec h
      simp only [Bool.and_eq_true] at hc
      obtain ⟨hcb, hr⟩ := hc
      have hr := roomy_spec hr
      rw [RowT.pushK_eq] at h
      split at h
      · rename_i v st1 X1 hcall
        have hg0 := Good.push hr none
        obtain ⟨hg1, hd⟩ := hC _ _ _ _ _ _ _ _ (fun x hx => by
          rcases List.mem_append.1 hx with hx | hx
          · exact hE x hx
          · simp at hx; rw [hx]; exact hn) hcall hg0.ok
        obtain ⟨rfl, rfl⟩ := afterE_same h
        refine ⟨hg0.trans hg1, fun L hL C hrd Q hQ => ?_⟩
        obtain ⟨_, _, haf⟩ := afterE_spec h hQ
        refine wpG_rangeFunc (gf := gf) (args := args) (by rw [evT_eq, X.length]; exact hfn) hcb hrd (fun e h1 h2 h3 h4 h5 => ?_)
        have hte : toE e ⟨X.n, ps, a, b, n, A'⟩ := ⟨by rw [h1, X.length], h2, h3, h4, h5, hn⟩
        have := hd (L ++ [e]) (hL.snoc hte)
        rw [RowT.push_L hr] at this
        refine this.mono ?_
        rintro _ _ _ ⟨rfl, rfl, rfl⟩
        exact haf
      · cases h
    · cases h
end

theorem resE_spec {n : Nat} {A : Tr AV} {X : RowT} : ∀ {l : List ResultVar} {vs : List AV}, resE P (evT n A) X l = some vs → resA P (fL n A) X.L l vs
  | [], vs, h => by simp [resE] at h; subst h; rfl
  | .tmp t :: l, vs, h => by
    unfold resE at h
    split at h
    · rename_i vr hr
      cases h
      exact ⟨vr, by rw [fL_get]; rfl, resE_spec hr⟩
    · cases h
  | .cell a t :: l, vs, h => by
    unfold resE at h
    obtain ⟨v, h1, h2⟩ := loadK_spec h
    split at h2
    · rename_i vr hr
      cases h2
      exact ⟨v, vr, rfl, by rw [fL_get]; exact h1, resE_spec hr⟩
    · cases h2

theorem evFun_sound {call : CallF} {yld : YieldF} (hC : SoundC P call) (hY : SoundY P yld) (hm : P.follows .mixedOrders = true) (k : Nat) : ∀ E g args st X v st' X', (∀ x ∈ E, x.n ≤ 512) → evFun P call yld k E g args st X = some (v, st', X') → X.n ≤ 512 → Good X X' ∧ ∀ L, Emap L E → DoesG P L g args st X.L (fun a s ρ => a = v ∧ s = st' ∧ ρ = X'.L) := by
  intro E g args st X v st' X' hE h hX
  unfold evFun at h
  split at h
  · rename_i fn hf
    split at h
    · rename_i c hb
      obtain ⟨hc, h⟩ := ifB_spec h
      simp only [Bool.and_eq_true, Nat.ble_eq] at hc
      obtain ⟨hn, hal⟩ := hc
      rw [forceNat_eq] at h
      unfold evBody at h
      split at h
      · rename_i e st1 A X1 hev
        obtain ⟨hg, hw⟩ := evCode_sound hC hY hm hE hn c hev hX
        have fin : ∀ vs, (e = .normal ∨ e = .ret) → resE P (evT fn.ntmps A) X1 fn.results.toList = some vs → ∀ L, Emap L E → DoesG P L g args st X.L (fun a s ρ => a = one? vs ∧ s = st1 ∧ ρ = X1.L) := by
          intro vs he hres L hL
          refine DoesG.of hf hb (fun C hrd hn0 => ?_)
          have := hw L hL C (fun l0 h => by rw [hrd] at h; cases h) (fun e st' A' ρ' => (e = .normal ∨ e = .ret) ∧ ∃ A'' ρ'' vs', (∀ a w, SRelG C L st' a w A' ρ' → SRelG C L st' a w A'' ρ'') ∧ resA P A'' ρ'' fn.results.toList vs' ∧ (one? vs' = one? vs ∧ st' = st1 ∧ ρ'' = X1.L))
            ⟨he, _, _, vs, fun _ _ h => h, resE_spec hres, rfl, rfl, rfl⟩
          rw [frm_eq hn args hal] at this
          exact this
        have ret : ∀ vs, (e = .normal ∨ e = .ret) → resE P (evT fn.ntmps A) X1 fn.results.toList = some vs → retE X.n X.lo (one? vs) st1 X1 = some (v, st', X') → Good X X' ∧ ∀ L, Emap L E → DoesG P L g args st X.L (fun a s ρ => a = v ∧ s = st' ∧ ρ = X'.L) := by
          intro vs he hres hret
          have hd := fin vs he hres
          obtain ⟨n1, lo1, t1⟩ := X1
          unfold retE at hret
          simp only at hret
          split at hret
          · rename_i hbb
            simp only [Bool.and_eq_true] at hbb
            rw [forceNat_eq] at hret
            cases hret
            refine ⟨⟨Nat.le_refl _, by show minN X.lo lo1 ≤ X.lo; rw [minN_eq]; omega, fun r h1 h2 => hg.same r h1 ?_, hX⟩, fun L hL => ?_⟩
            · have h2 : r < minN X.lo lo1 := h2
              rw [minN_eq] at h2
              show r < lo1; omega
            have hle : X.n ≤ n1 := hg.le
            have hL' : (⟨X.n, minN X.lo lo1, t1⟩ : RowT).L = (⟨n1, lo1, t1⟩ : RowT).L.take X.n := by
              apply List.ext_getElem
              · simp [RowT.L]; omega
              · intro i h1 h2; simp [RowT.L]
            rw [hL']
            have := (hd L hL).back (fun _ r hr => ?_) (by rw [X.length]; exact belB_spec hbb.1)
            · rw [X.length] at this; exact this
            · rw [X.length] at hr
              have e1 : (⟨n1, lo1, t1⟩ : RowT).L[r]? = some (Tr.get none (path 3 r) t1) := by simp [RowT.L, show r < n1 by omega]
              by_cases hlo : r < lo1
              · left
                rw [e1]
                have e2 : X.L[r]? = some (Tr.get none (path 3 r) X.t) := by simp [RowT.L, hr]
                rw [e2]; congr 1; exact hg.same r hr hlo
              · right
                intro R hR
                rw [e1] at hR
                have hR : Tr.get none (path 3 r) t1 = some R := by simpa using hR
                have := belRows_spec hbb.2 r (by omega) (by show r < lo1 + (X.n - lo1); omega)
                rw [hR] at this
                rw [X.length]; exact belR_spec this
          · rw [forceNat_eq] at hret
            cases hret
            have hlo : X.n ≤ X.n ∧ lo1 ≤ X.n := ⟨Nat.le_refl _, hg.lo⟩
            refine ⟨⟨hg.le, by show minN X.lo lo1 ≤ X.lo; rw [minN_eq]; omega, fun r h1 h2 => hg.same r h1 ?_, hg.ok⟩, fun L hL => hd L hL⟩
            have h2 : r < minN X.lo lo1 := h2
            rw [minN_eq] at h2
            show r < lo1; omega
        split at h
        · split at h
          · rename_i vs hres; exact ret vs (.inl rfl) hres h
          · cases h
        · split at h
          · rename_i vs hres; exact ret vs (.inr rfl) hres h
          · cases h
        · cases h
      · cases h
    · cases h
  · cases h

theorem setT_eq {n : Nat} (hn : n ≤ 512) : ∀ (ps : List Tmp) (xs : List AV) (t : Tr AV), (ps.zip xs).foldl (fun t p => t.set p.1 p.2) (fL n t) = fL n (setT n t ps xs)
  | [], xs, t => by simp [setT]
  | p :: ps, [], t => by simp [setT]
  | p :: ps, x :: xs, t => by
    simp only [List.zip_cons_cons, List.foldl_cons, setT]
    rw [fL_set hn]
    exact setT_eq hn ps xs _

theorem evYield_sound {call : CallF} {yld : YieldF} (hC : SoundC P call) (hY : SoundY P yld) (hm : P.follows .mixedOrders = true) (k : Nat) : ∀ E i x xs st X b st' X', (∀ x ∈ E, x.n ≤ 512) → evYield P call yld k E i x xs st X = some (b, st', X') → X.n ≤ 512 → x.n ≤ 512 →
    Good X X' ∧ ∀ L e, Emap L E → L[i]? = some e → toE e x → YieldG P L i e xs st X.L (fun c s ρ => c = b ∧ s = st' ∧ ρ = X'.L) := by
  intro E i x xs st X b st' X' hE h hX hxn
  unfold evYield at h
  split at h
  · rename_i hst
    obtain ⟨hc, h⟩ := ifB_spec h
    simp only [Bool.and_eq_true, Nat.beq_eq, Nat.ble_eq] at hc
    split at h
    · rename_i st1 A1 X1 hev1
      obtain ⟨hg1, hw1⟩ := evCode_sound hC hY hm hE hc.2 _ hev1 hX
      split at h
      · rename_i hst1
        split at h
        · rename_i y st2 A2 X2 hev2
          obtain ⟨hg2, hw2⟩ := evCode_sound hC hY hm hE hc.2 _ hev2 hg1.ok
          split at h
          · rename_i b' s hst2 hrn
            cases h
            refine ⟨hg1.trans hg2, fun L e hL hLi hte => ⟨hst, by rw [hte.2.1]; exact hc.1, fun Cb hrd hn0 => ?_⟩⟩
            have hrd' : ∀ l0, Cb.rd = some l0 → ∃ e ∈ L, e.l = l0 := fun l0 h => ⟨e, List.mem_of_getElem? hLi, by rw [hrd] at h; cases h; rfl⟩
            obtain ⟨t1, t2, t3, t4, t5, t6⟩ := hte
            unfold setPs
            rw [t5, t2, t3, t4, setT_eq hc.2]
            exact hw1 L hL Cb hrd' _ ⟨hst1, hw2 L hL Cb hrd' _ ⟨hst2, b, s, hrn, rfl, rfl, rfl⟩⟩
          · cases h
        · cases h
      · cases h
    · cases h
  · cases h

/-- WHAT THE EVALUATOR ANSWERS IS WHAT EVERY RUN DOES -/
theorem ev_sound (hm : P.follows .mixedOrders = true) : ∀ n, SoundC P (ev P n).1 ∧ SoundY P (ev P n).2
  | 0 => ⟨fun E g args st X v st' X' _ h => (by cases h), fun E i x xs st X b st' X' _ h => (by cases h)⟩
  | n + 1 => by
    obtain ⟨hC, hY⟩ := ev_sound hm n
    exact ⟨fun E g args st X v st' X' hE h hX => evFun_sound hC hY hm n E g args st X v st' X' hE h hX, fun E i x xs st X b st' X' hE h hX hx => evYield_sound hC hY hm n E i x xs st X b st' X' hE h hX hx⟩

/-- a run from nothing -/
noncomputable def run1 (P : Program) (n : Nat) (f : FuncId) (args : List AV) : Option AV := match (ev P n).1 [] f args [] ⟨0, 0, .nil⟩ with
  | some (v, _, X) => snapE 0 X 12 v
  | none => none
theorem run1_does (hm : P.follows .mixedOrders = true) {n : Nat} {f : FuncId} {args : List AV} {v : AV} (h : run1 P n f args = some v) : Does P f false args v := by
  unfold run1 at h
  split at h
  · rename_i u st X hr
    obtain ⟨_, hd⟩ := (ev_sound hm n).1 _ _ _ _ _ _ _ _ (fun x hx => by simp at hx) hr (by simp)
    have hd : DoesG P [] f args [] [] (fun a s ρ => a = u ∧ s = st ∧ ρ = X.L) := hd [] Emap.nil
    exact hd.toDoes (snapE_spec (fun _ _ _ _ _ => trivial) h)
  · cases h
/-- a run that ends in true -/
noncomputable def runTrue (P : Program) (n : Nat) (f : FuncId) (args : List AV) : Bool := match run1 P n f args with
  | some (.sc (.bool true)) => true
  | _ => false
theorem runTrue_does (hm : P.follows .mixedOrders = true) {n : Nat} {f : FuncId} {args : List AV} (h : runTrue P n f args = true) : Does P f false args (.sc (.bool true)) := by
  unfold runTrue at h
  split at h
  · rename_i hr; exact run1_does hm hr
  · cases h
end Go.Lg
