import Derived.Test.YtlbiegjdfijmfaaLp
import Derived.RangeFuncNested
set_option linter.unusedVariables false
namespace Go.Lg
open Go.RowKit
variable {P : Program}

/-! LOOPS OVER FUNCTIONS, in one store: a loop that runs has a record in memory; a call of yield walks the loop's body on the record's frame -/

inductive LS where
  | ready
  | busy
  | done (c : Code)

/-- a loop that runs: its row (the row is none: its number stands for the block), its block, and what its record holds; 'A': what is known of the frame that ranges -/
structure LoopV where
  r : Nat
  l : Nat
  fn : FuncId
  tmps : Array Value
  D : Nat
  ps : Array Tmp
  assign : Code
  body : Code
  A : List AV

def LoopV.mk2 (e : LoopV) : LS → Loop
  | .ready => { state := .ready, pending := none, fn := e.fn, tmps := e.tmps, params := e.ps, assign := e.assign, body := e.body, defers := e.D }
  | .busy => { state := .busy, pending := none, fn := e.fn, tmps := e.tmps, params := e.ps, assign := e.assign, body := e.body, defers := e.D }
  | .done c => { state := .done, pending := some c, fn := e.fn, tmps := e.tmps, params := e.ps, assign := e.assign, body := e.body, defers := e.D }

def blk (L : List LoopV) (b : Nat) : Prop := ∃ e ∈ L, e.l = b

structure LStat (g : World) (I : Nat → Prop) (N : Nat) (β : Nat → Option Loc) (L : List LoopV) : Prop where
  nd : (L.map (·.l)).Nodup
  row : ∀ e ∈ L, e.r < N ∧ ∃ loc, β e.r = some loc ∧ loc.b = e.l
  size : ∀ e ∈ L, e.tmps.size = e.A.length
  rel : ∀ e ∈ L, ∀ i, i < e.A.length → Rel (cellf g) I N β (e.A.getD i .any) (e.tmps.getD i undef)

theorem LStat.grow {g w I I' N N' β β' L} (h : LStat g I N β L) (k : Grow g w I I' N N' β β') : LStat w I' N' β' L :=
  ⟨h.nd, fun e he => ⟨Nat.lt_of_lt_of_le (h.row e he).1 k.hN, by
    obtain ⟨loc, h1, h2⟩ := (h.row e he).2
    exact ⟨loc, (k.hβ _ (h.row e he).1).trans h1, h2⟩⟩, h.size, fun e he i hi => k.rel (h.rel e he i hi)⟩

def LDyn (F : Nat → Prop) (w : World) (L : List LoopV) (st : List LS) : Prop :=
  st.length = L.length ∧ ∀ (k : Nat) (e : LoopV) (s : LS), L[k]? = some e → st[k]? = some s → F e.l ∧ w.heap[e.l]? = some (.loop (e.mk2 s))

def SRelG (C : Ctx) (L : List LoopV) (st : List LS) (a : Act) (w : World) (A : List AV) (ρ : Store) : Prop :=
  LStat C.g0 C.I0 C.n0 C.β0 L ∧ (∀ e ∈ L, ¬ C.F e.l) ∧ ∃ I β, Keeps C.F C.w0 w ∧ Grow C.g0 w C.I0 I C.n0 ρ.length C.β0 β ∧
    ∃ F', ((∀ b, C.F b → F' b) ∧ (∀ D, dmark D ∈ a.defers → C.M D) ∧ LDyn F' w L st) ∧ FRel w F' I β a A ρ

theorem LDyn.at {F : Nat → Prop} {w : World} {L : List LoopV} {st : List LS} (h : LDyn F w L st) {e : LoopV} (he : e ∈ L) : ∃ (k : Nat) (s : LS), L[k]? = some e ∧ st[k]? = some s ∧ F e.l ∧ w.heap[e.l]? = some (.loop (e.mk2 s)) := by
  obtain ⟨k, hk, rfl⟩ := List.getElem_of_mem he
  have hk' : k < st.length := by rw [h.1]; exact hk
  exact ⟨k, st[k], List.getElem?_eq_getElem hk, List.getElem?_eq_getElem hk', h.2 k _ _ (List.getElem?_eq_getElem hk) (List.getElem?_eq_getElem hk')⟩

theorem LDyn.keep {F F' : Nat → Prop} {w w' : World} {L : List LoopV} {st : List LS} (h : LDyn F w L st) (hF : ∀ b, F b → F' b) (hk : ∀ b, F b → w'.heap[b]? = w.heap[b]?) : LDyn F' w' L st :=
  ⟨h.1, fun k e s h1 h2 => ⟨hF _ (h.2 k e s h1 h2).1, (hk _ (h.2 k e s h1 h2).1).trans (h.2 k e s h1 h2).2⟩⟩

/-- what code that does not range over a function, and does not yield, may do -/
theorem SRelG.open {C L st a w A ρ} (hs : SRelG C L st a w A ρ) : ∃ C' : Ctx, (C'.rd = C.rd ∧ C'.n0 = C.n0 ∧ (C.own → C'.own)) ∧ SRel C' a w A ρ ∧ ∀ a' w' A' ρ', SRel C' a' w' A' ρ' → SRelG C L st a' w' A' ρ' := by
  obtain ⟨hL, hLF, I, β, hk, h0, F', ⟨hF, hM, hD⟩, hf⟩ := hs
  refine ⟨⟨F', C.I0, w, C.g0, C.rd, C.M, fun D hD => C.up D (Nat.le_trans hk.size hD), C.n0, C.β0⟩, ⟨rfl, rfl, fun h b hb => hF b (h b hb)⟩, ⟨I, β, Keeps.refl _ _, h0, F', ⟨fun _ h => h, hM⟩, hf⟩, ?_⟩
  rintro a' w' A' ρ' ⟨I', β', hk', h0', F2, ⟨hF2, hM2⟩, hf'⟩
  exact ⟨hL, hLF, I', β', hk.trans (hk'.sub hF), h0', F2, ⟨fun b hb => hF2 b (hF b hb), hM2, hD.keep hF2 hk'.block⟩, hf'⟩

def wpG (P : Program) (C : Ctx) (L : List LoopV) (c : Code) (Q : Exit → List LS → List AV → Store → Prop) (st : List LS) (A : List AV) (ρ : Store) : Prop :=
  ∀ a w, SRelG C L st a w A ρ → ∀ n, c.wpIn (fz C.rd) n P (fun e a' w' => ∃ st' A' ρ', SRelG C L st' a' w' A' ρ' ∧ Q e st' A' ρ') a w

def thenG (K : List LS → List AV → Store → Prop) (Q : Exit → List LS → List AV → Store → Prop) : Exit → List LS → List AV → Store → Prop
  | .normal, st, A, ρ => K st A ρ
  | e, st, A, ρ => Q e st A ρ
def inBlockG (id : Nat) (Q : Exit → List LS → List AV → Store → Prop) : Exit → List LS → List AV → Store → Prop
  | .exit id', st, A, ρ => if id' = id then Q .normal st A ρ else Q (.exit id') st A ρ
  | e, st, A, ρ => Q e st A ρ

section
variable {C : Ctx} {L : List LoopV} {Q : Exit → List LS → List AV → Store → Prop} {st : List LS} {A : List AV} {ρ : Store}

theorem wpG_lift {c : Code} (h : ∀ C', C'.rd = C.rd ∧ C'.n0 = C.n0 ∧ (C.own → C'.own) → wpA P C' c (fun e A ρ => Q e st A ρ) A ρ) : wpG P C L c Q st A ρ := by
  intro a w hs n
  obtain ⟨C', hC, h1, h2⟩ := hs.open
  have := h C' hC a w h1 n
  rw [hC.1] at this
  exact wpIn_mono this (fun e a' w' ⟨A', ρ', hs', hq⟩ => ⟨st, A', ρ', h2 _ _ _ _ hs', hq⟩)

theorem wpG_seq {x y : Code} (h : wpG P C L x (thenG (wpG P C L y Q) Q) st A ρ) : wpG P C L (.seq x y) Q st A ρ := by
  intro a w hs n
  refine wpIn_seq (wpIn_mono (h a w hs n) ?_)
  rintro e a' w' ⟨st', A', ρ', hs', hq⟩
  cases e with
  | normal => exact hq a' w' hs' n
  | _ => exact ⟨st', A', ρ', hs', hq⟩
theorem wpG_skip (h : Q .normal st A ρ) : wpG P C L .skip Q st A ρ := fun a w hs n => wpIn_skip ⟨st, A, ρ, hs, h⟩
theorem wpG_ret (h : Q .ret st A ρ) : wpG P C L .ret Q st A ρ := fun a w hs n => wpIn_ret ⟨st, A, ρ, hs, h⟩
theorem wpG_exit {id : Nat} (h : Q (.exit id) st A ρ) : wpG P C L (.exit id) Q st A ρ := fun a w hs n => wpIn_exit ⟨st, A, ρ, hs, h⟩
theorem wpG_block {id : Nat} {c : Code} (h : wpG P C L c (inBlockG id Q) st A ρ) : wpG P C L (.block id c) Q st A ρ := by
  intro a w hs n
  refine wpIn_block (wpIn_mono (h a w hs n) ?_)
  rintro e a' w' ⟨st', A', ρ', hs', hq⟩
  cases e with
  | exit id' =>
    simp only [inBlockG] at hq
    simp only [Exit.inBlock]
    split
    · rename_i he; rw [if_pos he] at hq; exact ⟨st', A', ρ', hs', hq⟩
    · rename_i he; rw [if_neg he] at hq; exact ⟨st', A', ρ', hs', hq⟩
  | _ => exact ⟨st', A', ρ', hs', hq⟩
def noGotoG (Q : Exit → List LS → List AV → Store → Prop) : Exit → List LS → List AV → Store → Prop
  | .goto _, _, _, _ => False
  | e, st, A, ρ => Q e st A ρ
theorem wpG_label {l : Nat} (h : Q .normal st A ρ) : wpG P C L (.label l) Q st A ρ := fun a w hs n => wpIn_label ⟨st, A, ρ, hs, h⟩
theorem wpG_scope {c : Code} (h : wpG P C L c (noGotoG Q) st A ρ) : wpG P C L (.scope c) Q st A ρ := by
  intro a w hs n
  refine wpIn_scope (wpIn_mono (h a w hs n) ?_)
  rintro e a' w' ⟨st', A', ρ', hs', hq⟩
  cases e with
  | goto l => exact hq.elim
  | _ => exact ⟨st', A', ρ', hs', hq⟩
theorem SRelG.evalBool {a w} (hs : SRelG C L st a w A ρ) {c : Operand} {b : Bool} (hb : aev A c = .sc (.bool b)) : a.eval c = .bool b := by
  obtain ⟨_, _, I, β, _, _, _, _, hfr⟩ := hs
  have := hfr.eval c
  rw [hb] at this
  generalize a.eval c = v at this
  cases this; rfl
theorem wpG_cond {c : Operand} {x y : Code} {b : Bool} (hb : aev A c = .sc (.bool b)) (ht : b = true → wpG P C L x Q st A ρ) (hf : b = false → wpG P C L y Q st A ρ) : wpG P C L (.cond c x y) Q st A ρ := by
  intro a w hs n
  exact wpIn_cond_split (hs.evalBool hb) (fun h => ht h a w hs n) (fun h => hf h a w hs n)
theorem wpG_mono {c : Code} {Q' : Exit → List LS → List AV → Store → Prop} (h : wpG P C L c Q st A ρ) (hq : ∀ e st A ρ, Q e st A ρ → Q' e st A ρ) : wpG P C L c Q' st A ρ :=
  fun a w hs n => wpIn_mono (h a w hs n) (fun e a' w' ⟨st', A', ρ', hs', hq'⟩ => ⟨st', A', ρ', hs', hq _ _ _ _ hq'⟩)
theorem wpG_weaken {c : Code} {st' : List LS} {A' : List AV} {ρ' : Store} (hw : ∀ a w, SRelG C L st a w A ρ → SRelG C L st' a w A' ρ') (h : wpG P C L c Q st' A' ρ') : wpG P C L c Q st A ρ :=
  fun a w hs n => h a w (hw a w hs) n
theorem SRelG.weaken {A' : List AV} {ρ' : Store} (h : ∀ C' a w, C'.rd = C.rd ∧ C'.n0 = C.n0 ∧ (C.own → C'.own) → SRel C' a w A ρ → SRel C' a w A' ρ') {a w} (hs : SRelG C L st a w A ρ) : SRelG C L st a w A' ρ' := by
  obtain ⟨C', hC, h1, h2⟩ := hs.open
  exact h2 _ _ _ _ (h C' a w hC h1)

/-- a loop: 'Inv n': what holds at a round's head, n: a number that every round lowers -/
theorem wpG_loop {c : Code} (Inv : Nat → List LS → List AV → Store → Prop) (n0 : Nat) (st0 : List LS) (A0 : List AV) (ρ0 : Store) (hw : ∀ a w, SRelG C L st a w A ρ → SRelG C L st0 a w A0 ρ0) (h0 : Inv n0 st0 A0 ρ0)
    (round : ∀ n st A ρ, Inv n st A ρ → wpG P C L c (thenG (fun st' A' ρ' => ∃ m st'' A'' ρ'', m < n ∧ (∀ a w, SRelG C L st' a w A' ρ' → SRelG C L st'' a w A'' ρ'') ∧ Inv m st'' A'' ρ'') Q) st A ρ) : wpG P C L (.loop c) Q st A ρ := by
  intro a w hs nn
  have hI : ∀ a w, (∃ n st A ρ, SRelG C L st a w A ρ ∧ Inv n st A ρ) → ∃ n, (∃ st A ρ, SRelG C L st a w A ρ ∧ Inv n st A ρ) ∧ ∀ m, (∃ st A ρ, SRelG C L st a w A ρ ∧ Inv m st A ρ) → n ≤ m := by
    rintro a w ⟨n, st, A, ρ, h1, h2⟩
    induction n using Nat.strongRecOn generalizing st A ρ with
    | _ n ih =>
      by_cases h : ∃ m, m < n ∧ ∃ st A ρ, SRelG C L st a w A ρ ∧ Inv m st A ρ
      · obtain ⟨m, hm, st', A', ρ', h3, h4⟩ := h
        exact ih m hm st' A' ρ' h3 h4
      · exact ⟨n, ⟨st, A, ρ, h1, h2⟩, fun m hm => Nat.le_of_not_lt (fun hlt => h ⟨m, hlt, hm⟩)⟩
  let μ : Act → World → Nat := fun a w => open Classical in if h : ∃ n st A ρ, SRelG C L st a w A ρ ∧ Inv n st A ρ then (hI a w h).choose else 0
  have hμ : ∀ a w (h : ∃ n st A ρ, SRelG C L st a w A ρ ∧ Inv n st A ρ), (∃ st A ρ, SRelG C L st a w A ρ ∧ Inv (μ a w) st A ρ) ∧ ∀ m, (∃ st A ρ, SRelG C L st a w A ρ ∧ Inv m st A ρ) → μ a w ≤ m := by
    intro a w h
    have : μ a w = (hI a w h).choose := by simp only [μ]; rw [dif_pos h]
    rw [this]; exact (hI a w h).choose_spec
  refine wpIn_loop (fun a w => ∃ n st A ρ, SRelG C L st a w A ρ ∧ Inv n st A ρ) μ ⟨n0, st0, A0, ρ0, hw a w hs, h0⟩ ?_
  intro a w hi
  obtain ⟨⟨st1, A1, ρ1, h1, h2⟩, _⟩ := hμ a w hi
  refine wpIn_mono (round _ st1 A1 ρ1 h2 a w h1 nn) ?_
  rintro e a' w' ⟨st', A', ρ', hs', hq⟩
  cases e with
  | normal =>
    obtain ⟨m, st'', A'', ρ'', hm, hw', hi'⟩ := hq
    have hi2 : ∃ n st A ρ, SRelG C L st a' w' A ρ ∧ Inv n st A ρ := ⟨m, st'', A'', ρ'', hw' a' w' hs', hi'⟩
    exact ⟨hi2, Nat.lt_of_le_of_lt ((hμ a' w' hi2).2 m ⟨st'', A'', ρ'', hw' a' w' hs', hi'⟩) hm⟩
  | _ => exact ⟨st', A', ρ', hs', hq⟩
end

/-- A CONTRACT AMONG LOOPS: the function may yield to those that run -/
def DoesG (P : Program) (L : List LoopV) (f : FuncId) (args : List AV) (st : List LS) (ρ : Store) (R : AV → List LS → Store → Prop) : Prop :=
  ∀ (w : World) (F I : Nat → Prop) (β : Nat → Option Loc) (vals : Array Value), SR w F I β ρ → LStat w I ρ.length β L → LDyn F w L st → RelL (cellf w) I ρ.length β args vals.toList →
    Calls P f vals w fun e w' => ∃ u v st' ρ' I' β', e = .returned u ∧ R v st' ρ' ∧ Keeps (fun b => F b ∧ ¬ blk L b) w w' ∧ Grow w w' I I' ρ.length ρ'.length β β' ∧ SR w' F I' β' ρ' ∧ LDyn F w' L st' ∧ Rel (cellf w') I' ρ'.length β' v u

theorem DoesG.mono {L f args st ρ} {R R' : AV → List LS → Store → Prop} (h : DoesG P L f args st ρ R) (hR : ∀ v st ρ, R v st ρ → R' v st ρ) : DoesG P L f args st ρ R' :=
  fun w F I β vals h1 h2 h3 h4 => (h w F I β vals h1 h2 h3 h4).mono fun e w' ⟨u, v, st', ρ', I', β', he, hr, h⟩ => ⟨u, v, st', ρ', I', β', he, hR _ _ _ hr, h⟩

theorem DoesS.mono {f args ρ} {R R' : AV → Store → Prop} (h : DoesS P f args ρ R) (hR : ∀ v ρ, R v ρ → R' v ρ) : DoesS P f args ρ R' :=
  fun w F I β vals h1 h2 => (h w F I β vals h1 h2).mono fun e w' ⟨u, v, ρ', I', β', he, hr, h⟩ => ⟨u, v, ρ', I', β', he, hR _ _ hr, h⟩

theorem DoesS.toG {L f args st ρ} {R : AV → Store → Prop} (h : DoesS P f args ρ R) : DoesG P L f args st ρ (fun v s ρ' => s = st ∧ R v ρ') := by
  intro w F I β vals h1 h2 h3 h4
  refine (h w F I β vals h1 h4).mono ?_
  rintro e w' ⟨u, v, ρ', I', β', he, hr, hk, hg, hs, hv⟩
  exact ⟨u, v, st, ρ', I', β', he, ⟨rfl, hr⟩, hk.sub (fun b hb => hb.1), hg, hs, h3.keep (fun _ h => h) hk.block, hv⟩
theorem DoesG.toS {f args ρ} {R : AV → List LS → Store → Prop} (h : DoesG P [] f args [] ρ R) : DoesS P f args ρ (fun v ρ' => ∃ st, R v st ρ') := by
  intro w F I β vals h1 h4
  refine (h w F I β vals h1 ⟨List.nodup_nil, fun e he => by simp at he, fun e he => by simp at he, fun e he => by simp at he⟩ ⟨rfl, fun k e s h => by simp at h⟩ h4).mono ?_
  rintro e w' ⟨u, v, st', ρ', I', β', he, hr, hk, hg, hs, _, hv⟩
  exact ⟨u, v, ρ', I', β', he, ⟨st', hr⟩, hk.sub (fun b hb => ⟨hb, fun ⟨e, he, _⟩ => by simp at he⟩), hg, hs, hv⟩

theorem FRel.putM {w w' F F' I I' β β' a A ρ ρ'} (h : FRel w F I β a A ρ) (dst : Option Tmp) {v : AV} {u : Value} (g : Grow w w' I I' ρ.length ρ'.length β β')
    (hsr : SR w' F' I' β' ρ') (hm : Marked w' F' I' a) (hv : Rel (cellf w') I' ρ'.length β' v u) : FRel w' F' I' β' (a.put dst u) (putA A dst v) ρ' := by
  have hold : ∀ i, i < A.length → Rel (cellf w') I' ρ'.length β' (A.getD i .any) (a.tmps.getD i undef) := fun i hi => g.rel (h.rel i hi)
  cases dst with
  | none => exact ⟨hsr, hm.put none u, h.size, hold⟩
  | some d =>
    refine ⟨hsr, hm.put (some d) u, by simp [Act.put, putA, h.size], fun i hi => ?_⟩
    have hi' : i < A.length := by simpa [putA] using hi
    simp only [putA, Act.put]
    by_cases e : d = i
    · subst e
      have e1 : (A.set d v).getD d .any = v := by simp [List.getD, hi']
      have e2 : (a.tmps.setIfInBounds d u).getD d undef = u := by simp [Array.getD, h.size, hi']
      rw [e1, e2]; exact hv
    · have e1 : (A.set d v).getD i .any = A.getD i .any := by simp [List.getD, List.getElem?_set_ne e]
      have e2 : (a.tmps.setIfInBounds d u).getD i undef = a.tmps.getD i undef := by
        by_cases hs' : i < a.tmps.size <;> simp [Array.getD, hs', Array.getElem_setIfInBounds_ne, e]
      rw [e1, e2]; exact hold i hi'

/-- marks stay, whatever becomes of loops -/
theorem Marked.loops {w w' F F' I I' N N' β β' a L st} (h : Marked w F I a) (hD : LDyn F w L st) (hk : Keeps (fun b => F b ∧ ¬ blk L b) w w') (g : Grow w w' I I' N N' β β') (hF : ∀ b, F b → F' b) : Marked w' F' I' a := by
  obtain ⟨Ds, h1, h2, h3⟩ := h
  refine ⟨Ds, h1, h2, fun D hd => ?_⟩
  obtain ⟨a1, a2, a3⟩ := h3 D hd
  have hlt : D < w.heap.size := (Array.getElem?_eq_some_iff.1 a3).1
  refine ⟨hF _ a1, fun hi => (g.hI2 D hi).elim a2 (fun h => Nat.lt_irrefl _ (Nat.lt_of_lt_of_le hlt h)), (hk.block D ⟨a1, ?_⟩).trans a3⟩
  rintro ⟨e, he, rfl⟩
  obtain ⟨k, s, _, _, _, hh⟩ := hD.at he
  rw [a3] at hh; cases hh

/-- which function, with which arguments -/
def fnOf (f : AV) (args : List AV) : Option (FuncId × List AV) := match f with
  | .sc (.func (.func g) fs cs) => if fs.isEmpty && cs.isEmpty then some (g, args) else none
  | .clo (.func g) fs cs => some (g, fs ++ args ++ cs)
  | _ => none

theorem fnOf_vals {w F I β a A ρ} (hs : FRel w F I β a A ρ) {f : Operand} {g : FuncId} {args : List AV} {xs : List AV} {ys : Array Value} (h : fnOf (aev A f) xs = some (g, args)) (hl : RelL (cellf w) I ρ.length β xs ys.toList) :
    ∃ us vs, a.eval f = .func (.func g) us vs ∧ RelL (cellf w) I ρ.length β args (us ++ ys ++ vs).toList := by
  have hf := hs.eval f
  unfold fnOf at h
  split at h
  · rename_i g' fs cs he
    split at h
    · rename_i hc
      simp only [Bool.and_eq_true, Array.isEmpty_iff] at hc
      obtain ⟨rfl, rfl⟩ := hc
      cases h
      rw [he] at hf
      generalize a.eval f = vf at hf
      cases hf
      exact ⟨#[], #[], rfl, by simpa using hl⟩
    · cases h
  · rename_i g' fs cs he
    cases h
    rw [he] at hf
    generalize a.eval f = vf at hf
    cases hf with
    | clo _ _ _ us vs hm hu hn hv =>
      have hus : RelL (cellf w) I ρ.length β fs us.toList := ⟨by simpa using hm, fun j hj => by
        have := hu j hj
        have hj' : j < us.size := by omega
        simpa [Array.getD, List.getD, hj'] using this⟩
      have hvs : RelL (cellf w) I ρ.length β cs vs.toList := ⟨by simpa using hn, fun j hj => by
        have := hv j hj
        have hj' : j < vs.size := by omega
        simpa [Array.getD, List.getD, hj'] using this⟩
      exact ⟨us, vs, rfl, by simpa using (hus.append hl).append hvs⟩
  · cases h

theorem fnOf_run {w F I β a A ρ} (hs : FRel w F I β a A ρ) {o : Oper} {c : Call} {f : Operand} {g : FuncId} {args : List AV} (ho : o.op = .call c) (hc : c.callee = .value f) (h : fnOf (aev A f) (c.args.toList.map (aev A)) = some (g, args)) (hcb : callable P g = true) :
    ∃ vals, (execOp a.eval o).run P w = .ok (.enter g vals) w ∧ RelL (cellf w) I ρ.length β args vals.toList := by
  have hl := RelL.of_map A a.eval hs.eval c.args.toList
  obtain ⟨us, vs, hvf, hrel⟩ := fnOf_vals hs (ys := c.args.map a.eval) h (by simpa using hl)
  refine ⟨us ++ c.args.map a.eval ++ vs, ?_, hrel⟩
  have e0 : (resolve a.eval c o.type).run P w = .ok { target := .fn (.func g) vs, args := us ++ c.args.map a.eval } w := by
    unfold resolve; rw [hc]; simp [hvf, Deferred.ofValue]
  unfold execOp
  simp [ho, e0, invoke, run_callFunc hcb]

section
variable {C : Ctx} {L : List LoopV} {st : List LS} {A : List AV} {ρ : Store}

theorem aop_srelG {o : Oper} {a w v ρ'} (hs : SRelG C L st a w A ρ) (h : aop P o (aev A) ρ v ρ') {K : Act → World → Prop} {Q : Exit → Act → World → Prop}
    (hK : ∀ a' w', SRelG C L st a' w' (putA A o.dst v) ρ' → K a' w') (n : Nat) : o.wpIn (fz C.rd) n P a w K Q := by
  obtain ⟨C', hC, h1, h2⟩ := hs.open
  have := aop_srel (Q := Q) h1 h (fun a' w' hs' => hK a' w' (h2 _ _ _ _ hs')) n
  rwa [hC.1] at this

/-- a call, by its contract -/
theorem gcall_srelG {o : Oper} {c : Call} {f : Operand} {g : FuncId} {args : List AV} {R : AV → List LS → Store → Prop} {a w} (hs : SRelG C L st a w A ρ) (ho : o.op = .call c) (hc : c.callee = .value f)
    (hf : fnOf (aev A f) (c.args.toList.map (aev A)) = some (g, args)) (hcb : callable P g = true) (hd : DoesG P L g args st ρ R) {K : Act → World → Prop} {Q : Exit → Act → World → Prop}
    (hK : ∀ v st' ρ' a' w', R v st' ρ' → SRelG C L st' a' w' (putA A o.dst v) ρ' → K a' w') (n : Nat) : o.wpIn (fz C.rd) n P a w K Q := by
  obtain ⟨hL, hLF, I, β, hk, h0, F', ⟨hF, hM, hD⟩, hfr⟩ := hs
  obtain ⟨vals, hrun, hrel⟩ := fnOf_run (P := P) hfr ho hc hf hcb
  refine Oper.wpIn_enter hrun (hd w F' I β vals hfr.sr (hL.grow h0) hD hrel) ?_
  rintro e w' ⟨u, v, st', ρ', I', β', rfl, hR, hk', hg, hsr, hD', hv⟩
  refine ⟨u, rfl, hK v st' ρ' _ w' hR ⟨hL, hLF, I', β', hk.trans (hk'.sub fun b hb => ⟨hF b hb, fun ⟨e, he, hb'⟩ => hLF e he (hb' ▸ hb)⟩), h0.trans hg, F', ⟨hF, fun D hd => hM D (by revert hd; cases o.dst <;> exact id), hD'⟩, hfr.putM o.dst hg hsr (hfr.df.loops hD hk' hg fun _ h => h) hv⟩⟩

/-- A CONTRACT, FROM THE BODY -/
theorem DoesG.of {f : FuncId} {fn : Func} {c : Code} {args : List AV} {R : AV → List LS → Store → Prop} (hf : P.funcs[f]? = some fn) (hb : fn.body = some c)
    (h : ∀ C : Ctx, C.rd = none → C.n0 = ρ.length → wpG P C L c (fun e st' A' ρ' => (e = .normal ∨ e = .ret) ∧ ∃ A'' ρ'' vs, (∀ a w, SRelG C L st' a w A' ρ' → SRelG C L st' a w A'' ρ'') ∧ resA P A'' ρ'' fn.results.toList vs ∧ R (one? vs) st' ρ'') st (args ++ List.replicate (fn.ntmps - args.length) .any) ρ) :
    DoesG P L f args st ρ R := by
  intro w F I β vals hsr0 hL hD hrel
  refine (callsIn_wide (n := 0)).1 (callsIn_of_wp_marks (F := Fence.wide) (n := 0) hf hb trivial ?_ rfl)
  have hlen : vals.size = args.length := by simpa using hrel.1
  have hlt : ∀ e ∈ L, e.l < w.heap.size := fun e he => by
    obtain ⟨k, s, _, _, _, hh⟩ := hD.at he
    exact (Array.getElem?_eq_some_iff.1 hh).1
  let C : Ctx := ⟨fun b => F b ∧ ¬ blk L b, I, w, w, none, fun D => w.heap.size ≤ D, fun _ h => h, ρ.length, β⟩
  have hs : SRelG C L st { tmps := vals ++ Array.replicate (fn.ntmps - vals.size) undef, defers := [] } w (args ++ List.replicate (fn.ntmps - args.length) .any) ρ := by
    refine ⟨hL, fun e he hb => hb.2 ⟨e, he, rfl⟩, I, β, Keeps.refl _ _, Grow.refl _ _ _ _, F, ⟨fun b hb => hb.1, fun D hD => (by cases hD), hD⟩, ⟨hsr0, ⟨[], List.nodup_nil, rfl, by simp⟩, by simp [hlen], fun i hi => ?_⟩⟩
    by_cases h1 : i < args.length
    · rw [getD_app_left _ _ _ _ h1]
      have := hrel.2 i h1
      have h2 : i < vals.size := by omega
      have e : (vals ++ Array.replicate (fn.ntmps - vals.size) undef).getD i undef = vals.toList.getD i undef := by
        have h3 : i < (vals ++ Array.replicate (fn.ntmps - vals.size) undef).size := by simp; omega
        simp only [Array.getD, h3, dif_pos, List.getD]
        rw [List.getElem?_eq_getElem (by simpa using h2)]
        simp [Array.getElem_append_left h2]
      rw [e]; exact this
    · have : (args ++ List.replicate (fn.ntmps - args.length) AV.any).getD i .any = .any := by
        rw [getD_app_right _ _ _ _ (by omega)]
        unfold List.getD
        by_cases h2 : i - args.length < fn.ntmps - args.length
        · simp [h2]
        · rw [List.getElem?_eq_none (by simp; omega)]; rfl
      rw [this]; exact .any _
  refine wpIn_mono (h C rfl rfl _ w hs 0) ?_
  rintro e a' w' ⟨st', A0, ρ0, hs0, he, A', ρ', vs, hwk, hvs, hR⟩
  obtain ⟨_, _, I', β', hk, h0, F', ⟨hF1, hF2, hD'⟩, hf'⟩ := hwk _ _ hs0
  obtain ⟨Ds, hnd, hdef, hDs⟩ := hf'.df
  have hge : ∀ D, D ∈ Ds → w.heap.size ≤ D := fun D hD => hF2 D (by rw [hdef]; exact List.mem_map_of_mem hD)
  have hsub : ∀ b, F b → F' b := fun b hb => by
    by_cases hbl : blk L b
    · obtain ⟨e, he, rfl⟩ := hbl
      obtain ⟨k, s, _, _, h1, _⟩ := hD'.at he
      exact h1
    · exact hF1 b ⟨hb, hbl⟩
  have hfin : LeavesInM Fence.wide 0 P fn a'.tmps (fun e w' => ∃ u v st' ρ' I' β', e = .returned u ∧ R v st' ρ' ∧ Keeps (fun b => F b ∧ ¬ blk L b) w w' ∧ Grow w w' I I' ρ.length ρ'.length β β' ∧ SR w' F I' β' ρ' ∧ LDyn F w' L st' ∧ Rel (cellf w') I' ρ'.length β' v u) a'.defers .returning w' := by
    rw [hdef]
    refine leaves_marks Ds w' hnd (fun D hD => (hDs D hD).2.2) (fun w2 e1 e2 e3 e4 e5 e6 e7 => ?_)
    obtain ⟨hsr2, hrel2⟩ := hf'.marks (G := F') (fun _ h => h) e4 e6 e7 (fun b hb => e5 b fun hD => hb (hDs b hD).1)
    have hf2 : FRel w2 F' I' β' { a' with defers := [] } A' ρ' := ⟨hsr2, ⟨[], List.nodup_nil, rfl, by simp⟩, hf'.size, hrel2⟩
    obtain ⟨u, hu, hru⟩ := results_run (P := P) hf2 hvs
    have hg2 : Grow w' w2 I' I' ρ'.length ρ'.length β' β' := ⟨fun b o x _ hx => by rw [e6]; exact hx, fun b o hx => by rw [e6]; exact hx, fun _ h => h, Nat.le_refl _, fun _ _ => rfl, fun _ h => .inl h, by rw [e4]; exact Nat.le_refl _⟩
    have hold : ∀ b, F b → w2.heap[b]? = w'.heap[b]? := fun b hb => e5 b (fun hD => Nat.lt_irrefl _ (Nat.lt_of_lt_of_le (hsr0.flt b hb) (hge b hD)))
    refine ⟨u, hu, u, one? vs, st', ρ', I', β', rfl, hR, ⟨e1.trans hk.os, e2.trans hk.tape, e3.trans hk.output, by rw [e4]; exact hk.size, fun b hb => (hold b hb.1).trans (hk.block b hb)⟩, h0.trans hg2, ?_, ?_, hru⟩
    · exact ⟨fun r R l h1 h2 => by
        obtain ⟨a1, a2, a3, a4⟩ := hsr2.real r R l h1 h2
        exact ⟨a1, a2, a3, fun h => a4 (hsub _ h)⟩, hsr2.cells, hsr2.phantom, hsr2.inj, hsr2.ilt, fun b hb => Nat.lt_of_lt_of_le (hsr0.flt b hb) (by rw [e4]; exact hk.size), hsr2.thaw, hsr2.obs⟩
    · refine ⟨hD'.1, fun k e s h1 h2 => ?_⟩
      obtain ⟨k', s', _, _, h3, _⟩ := hD.at (List.mem_of_getElem? h1)
      exact ⟨h3, (hold _ h3).trans (hD'.2 k e s h1 h2).2⟩
  rcases he with rfl | rfl
  · exact hfin
  · exact hfin
end
end Go.Lg
