import Derived.Test.YtpannbkmpbioiaaLp
set_option linter.unusedVariables false
namespace Go.Lg
variable {P : Program}

/-! THE SAME WALK, EACH STEP IN THE FORM THAT simp RUNS FAST: type questions are closed facts; what follows is a constant applied, no lambda -/
/-- some (some n): n cells; some none: one cell -/
def packN (P : Program) (t : TypeId) : Option (Option Nat) := if known P t then some (if aggB P t then some (P.cellsOf t) else none) else none
def packC (q : Option (Option Nat)) (cs : List AV) : Option AV := match q with
  | some (some n) => if n ≤ cs.length then some (.agg (cs.take n)) else none
  | some none => cs.head?
  | none => none
theorem packC_eq (t : TypeId) (cs : List AV) : packC (packN P t) cs = pack P t cs := by
  unfold packC packN pack
  by_cases h : known P t = true <;> by_cases h2 : aggB P t = true <;> simp [h, h2]
def fieldOff (P : Program) (s : TypeId) (f : Nat) : Option (Nat × Option (Option Nat)) := match P.underlying s with
  | some (.struct fs) => (match fs[f]? with
    | some fd => if known P fd.type = true ∧ P.cellsOf fd.type ≠ 0 then some (fd.offset, packN P fd.type) else none
    | none => none)
  | _ => none
def slElem (P : Program) (t : TypeId) : Option (TypeId × Nat) := match P.underlying t with
  | some (.slice e) => if known P e then some (e, P.cellsOf e) else none
  | _ => none
def arElem (P : Program) (t : TypeId) : Option (Nat × TypeId × Nat) := match P.underlying t with
  | some (.array n e) => if known P e then some (n, e, P.cellsOf e) else none
  | _ => none

abbrev KV := AV → Store → Prop
def kOpt (o : Option AV) (ρ : Store) (k : KV) : Prop := match o with
  | some v => k v ρ
  | none => False
def kLoad (q : Option (Option Nat)) (x : AV) (ρ : Store) (k : KV) : Prop := match x with
  | .ptr r i j => (match ρ[r]? with
    | some (some R) => i < R.els.length ∧ kOpt (packC q ((R.els.getD i .any).cells.drop j)) ρ k
    | _ => False)
  | .iptr cs => kOpt (packC q cs) ρ k
  | _ => False
def kFieldAddr (fo : Option (Nat × Option (Option Nat))) (x : AV) (ρ : Store) (k : KV) : Prop := match fo with
  | some (off, _) => (match x with
    | .ptr r i j => k (.ptr r i (j + off)) ρ
    | .iptr cs => k (.iptr (cs.drop off)) ρ
    | _ => False)
  | none => False
def kIndexAddr (se : Option (TypeId × Nat)) (ae : Option (Nat × TypeId × Nat)) (x i : AV) (ρ : Store) (k : KV) : Prop := match i with
  | .sc (.int _ n) => (match se with
    | some (_, S) => (match x with
      | .isl sz L => S = sz ∧ 0 ≤ n ∧ n < L.length ∧ k (.iptr (L.getD n.toNat .any).cells) ρ
      | .sl r o m => (match ρ[r]? with
        | some (some R) => R.sz = S ∧ 0 ≤ n ∧ n < m ∧ k (.ptr r (o + n.toNat) 0) ρ
        | _ => False)
      | .sub r i j sz m => S = sz ∧ 0 ≤ n ∧ n < m ∧ k (.ptr r i (j + n.toNat * sz)) ρ
      | _ => False)
    | none => (match ae with
      | some (len, _, S) => 0 ≤ n ∧ n < len ∧ (match x with
        | .ptr r i j => k (.ptr r i (j + n.toNat * S)) ρ
        | .iptr cs => k (.iptr (cs.drop (n.toNat * S))) ρ
        | _ => False)
      | none => False))
  | _ => False
def kBinGen (P : Program) (op : BinOp) (t : TypeId) (x y : Operand) (a b : AV) (ρ : Store) (k : KV) : Prop := ∃ v, aBinGen P op t x y a b v ∧ k v ρ
def kBin (P : Program) (op : BinOp) (t : TypeId) (x y : Operand) (a b : AV) (ρ : Store) (k : KV) : Prop := match a, b with
  | .sc (.int K m), .sc (.int K' n) => (match op with
    | .add => K' = K ∧ inR K (m + n) ∧ k (.sc (.int K (m + n))) ρ
    | .sub => K' = K ∧ inR K (m - n) ∧ k (.sc (.int K (m - n))) ρ
    | .mul => K' = K ∧ inR K (m * n) ∧ k (.sc (.int K (m * n))) ρ
    | .quo => K' = K ∧ n ≠ 0 ∧ inR K (m.tdiv n) ∧ k (.sc (.int K (m.tdiv n))) ρ
    | .rem => K' = K ∧ n ≠ 0 ∧ k (.sc (.int K (m.tmod n))) ρ
    | .eql => K' = K ∧ k (.sc (.bool (decide (m = n)))) ρ
    | .neq => K' = K ∧ k (.sc (.bool (!decide (m = n)))) ρ
    | .lss => K' = K ∧ k (.sc (.bool (decide (m < n)))) ρ
    | .leq => K' = K ∧ k (.sc (.bool (decide (m ≤ n)))) ρ
    | .gtr => K' = K ∧ k (.sc (.bool (decide (n < m)))) ρ
    | .geq => K' = K ∧ k (.sc (.bool (decide (n ≤ m)))) ρ
    | op => kBinGen P op t x y (.sc (.int K m)) (.sc (.int K' n)) ρ k)
  | a, b => kBinGen P op t x y a b ρ k
def kPick (c a b : AV) (ρ : Store) (k : KV) : Prop := match c with
  | .sc (.bool t) => k (if t then a else b) ρ
  | _ => False
def kExtract (x : AV) (i : Nat) (ρ : Store) (k : KV) : Prop := match x with
  | .tup l => kOpt l[i]? ρ k
  | _ => False
def kBuiltin (P : Program) (b : Builtin) (ts : List TypeId) (args : List AV) (ρ : Store) (k : KV) : Prop := match b, args, ts with
  | .len, [.isl _ L], [t] => (slElem P t).isSome = true ∧ k (.sc (.int .i64 L.length)) ρ
  | .len, [.sl _ _ n], [t] => (slElem P t).isSome = true ∧ k (.sc (.int .i64 n)) ρ
  | .min, [.sc (.int K m), .sc (.int K' n)], _ => K' = K ∧ k (.sc (.int K (min m n))) ρ
  | .max, [.sc (.int K m), .sc (.int K' n)], _ => K' = K ∧ k (.sc (.int K (max m n))) ρ
  | b, args, ts => ∃ v, aBuiltin P b ts.toArray args v ∧ k v ρ
def kAlloc (q : Option AV) (n : Nat) (ρ : Store) (k : KV) : Prop := match q with
  | some z => z.ok = true ∧ z.cells.length = n ∧ k (.ptr ρ.length 0 0) (ρ ++ [some ⟨n, [z], none⟩])
  | none => False
def kBox (n : Nat) (x : AV) (ρ : Store) (k : KV) : Prop := x.ok = true ∧ x.cells.length = n ∧ k (.ptr ρ.length 0 0) (ρ ++ [some ⟨n, [x], none⟩])
def kStore (kn : Bool) (n : Nat) (p x : AV) (ρ : Store) (k : KV) : Prop := match p with
  | .ptr r i j => (match ρ[r]? with
    | some (some R) => i < R.els.length ∧ kn = true ∧ x.ok = true ∧ x.cells.length = n ∧ x.cells.length ≠ 0 ∧ j + x.cells.length ≤ R.sz ∧ k .any (ρ.set r (some ⟨R.sz, R.els.set i (putEl (R.els.getD i .any) j x), R.ob⟩))
    | _ => False)
  | _ => False
def kCall (P : Program) (c : Call) (f : AV) (args : List AV) (ρ : Store) (k : KV) : Prop := match f with
  | .sc (.func (.func g) fs cs) => fs = #[] ∧ cs = #[] ∧ ∃ v, aDoes P g args ρ v ∧ k v ρ
  | .clo (.func g) fs cs => ∃ v, aDoes P g (fs ++ args ++ cs) ρ v ∧ k v ρ
  | _ => False
def kGen (P : Program) (o : Oper) (A : List AV) (ρ : Store) (k : KV) : Prop := ∃ v ρ', aop P o (aev A) ρ v ρ' ∧ k v ρ'

def kOp (P : Program) (o : Oper) (A : List AV) (ρ : Store) (k : KV) : Prop := match o.op with
  | .move x => k (aev A x) ρ
  | .assign x => k (aev A x) ρ
  | .pick c a b => kPick (aev A c) (aev A a) (aev A b) ρ k
  | .load t x => kLoad (packN P t) (aev A x) ρ k
  | .fieldAddr s x f => kFieldAddr (fieldOff P s f) (aev A x) ρ k
  | .indexAddr t x i => kIndexAddr (slElem P t) (arElem P t) (aev A x) (aev A i) ρ k
  | .binOp op t x y _ => kBin P op t x y (aev A x) (aev A y) ρ k
  | .extract x i => kExtract (aev A x) i ρ k
  | .alloc t => kAlloc (zeroA P t) (P.cellsOf t) ρ k
  | .box t x => kBox (P.cellsOf t) (aev A x) ρ k
  | .store t p x => kStore (known P t) (P.cellsOf t) (aev A p) (aev A x) ρ k
  | .call c => (match c.callee with
    | .builtin .append => kGen P o A ρ k
    | .builtin b => kBuiltin P b c.argTypes.toList (c.args.toList.map (aev A)) ρ k
    | .value f => kCall P c (aev A f) (c.args.toList.map (aev A)) ρ k
    | .invoke _ _ => False)
  | _ => kGen P o A ρ k

theorem slElem_spec {t : TypeId} {q} (h : slElem P t = some q) : P.underlying t = some (.slice q.1) ∧ known P q.1 = true ∧ q.2 = P.cellsOf q.1 := by
  unfold slElem at h
  split at h
  · rename_i e hu
    split at h
    · rename_i hk; cases h; exact ⟨hu, hk, rfl⟩
    · cases h
  · cases h
theorem arElem_spec {t : TypeId} {q} (h : arElem P t = some q) : P.underlying t = some (.array q.1 q.2.1) ∧ known P q.2.1 = true ∧ q.2.2 = P.cellsOf q.2.1 := by
  unfold arElem at h
  split at h
  · rename_i n e hu
    split at h
    · rename_i hk; cases h; exact ⟨hu, hk, rfl⟩
    · cases h
  · cases h

theorem kOpt_spec {o ρ k} (h : kOpt o ρ k) : ∃ v, o = some v ∧ k v ρ := by
  cases o with
  | none => exact h.elim
  | some v => exact ⟨v, rfl, h⟩

theorem kOp_spec {o : Oper} {A : List AV} {ρ : Store} {k : KV} (h : kOp P o A ρ k) : ∃ v ρ', aop P o (aev A) ρ v ρ' ∧ k v ρ' := by
  obtain ⟨dst, op, type, pos, after, guard⟩ := o
  unfold kOp at h
  split at h <;> rename_i hop <;> simp only at hop <;> try subst hop
  · exact ⟨_, _, ⟨rfl, rfl⟩, h⟩
  · exact ⟨_, _, ⟨rfl, rfl⟩, h⟩
  · unfold kPick at h
    split at h
    · rename_i t ht
      exact ⟨_, _, ⟨by simp only [aPure, ht], rfl⟩, h⟩
    · exact h.elim
  · unfold kLoad at h
    split at h
    · rename_i r i j hx
      split at h
      · rename_i R hR
        obtain ⟨h1, h2⟩ := h
        obtain ⟨v, h3, h4⟩ := kOpt_spec h2
        rw [packC_eq] at h3
        exact ⟨v, ρ, ⟨by simp only [aPure, hx, aLoad]; exact ⟨R, hR, h1, h3⟩, rfl⟩, h4⟩
      · exact h.elim
    · rename_i cs hx
      obtain ⟨v, h3, h4⟩ := kOpt_spec h
      rw [packC_eq] at h3
      exact ⟨v, ρ, ⟨by simp only [aPure, hx, aLoad]; exact h3, rfl⟩, h4⟩
    · exact h.elim
  · rename_i s x f
    unfold kFieldAddr at h
    split at h
    · rename_i off q hfo
      unfold fieldOff at hfo
      split at hfo
      · rename_i fs hu
        split at hfo
        · rename_i fd hfd
          split at hfo
          · rename_i hc
            cases hfo
            split at h
            · rename_i r i j hx
              exact ⟨_, ρ, ⟨by simp only [aPure, hx, aFieldAddr, hu, hfd]; exact ⟨hc.1, hc.2, trivial⟩, rfl⟩, h⟩
            · rename_i cs hx
              exact ⟨_, ρ, ⟨by simp only [aPure, hx, aFieldAddr, hu, hfd]; exact ⟨hc.1, hc.2, trivial⟩, rfl⟩, h⟩
            · exact h.elim
          · cases hfo
        · cases hfo
      · cases hfo
    · exact h.elim
  · rename_i t x i
    unfold kIndexAddr at h
    split at h
    · rename_i kk n hi
      split at h
      · rename_i e S hse
        obtain ⟨hu, hk, hS⟩ := slElem_spec hse
        simp only at hu hk hS
        split at h
        · rename_i sz L hx
          obtain ⟨h1, h2, h3, h4⟩ := h
          exact ⟨_, ρ, ⟨by simp only [aPure, hx, hi, aIndexAddr, hu]; exact ⟨hk, by rw [← hS]; exact h1, h2, h3, trivial⟩, rfl⟩, h4⟩
        · rename_i r o m hx
          split at h
          · rename_i R hR
            obtain ⟨h1, h2, h3, h4⟩ := h
            exact ⟨_, ρ, ⟨by simp only [aPure, hx, hi, aIndexAddr, hu]; exact ⟨hk, R, hR, by rw [← hS]; exact h1, h2, h3, trivial⟩, rfl⟩, h4⟩
          · exact h.elim
        · rename_i r i' j sz m hx
          obtain ⟨h1, h2, h3, h4⟩ := h
          exact ⟨_, ρ, ⟨by simp only [aPure, hx, hi, aIndexAddr, hu]; exact ⟨hk, by rw [← hS]; exact h1, h2, h3, trivial⟩, rfl⟩, h4⟩
        · exact h.elim
      · split at h
        · rename_i len e S hae
          obtain ⟨hu, hk, hS⟩ := arElem_spec hae
          simp only at hu hk hS
          obtain ⟨h2, h3, h⟩ := h
          split at h
          · rename_i r i' j hx
            exact ⟨_, ρ, ⟨by simp only [aPure, hx, hi, aIndexAddr, hu]; exact ⟨hk, h2, h3, by rw [hS]⟩, rfl⟩, h⟩
          · rename_i cs hx
            exact ⟨_, ρ, ⟨by simp only [aPure, hx, hi, aIndexAddr, hu]; exact ⟨hk, h2, h3, by rw [hS]⟩, rfl⟩, h⟩
          · exact h.elim
        · exact h.elim
    · exact h.elim
  · rename_i op t x y _
    have key : ∃ v, aBin P op t x y (aev A x) (aev A y) v ∧ k v ρ := by
      unfold kBin at h
      split at h
      · rename_i K m K' n hx hy
        rw [hx, hy]
        unfold aBin
        cases op <;> simp only [aBinInt] at h ⊢
        case add => exact ⟨_, ⟨h.1, h.2.1, rfl⟩, h.2.2⟩
        case sub => exact ⟨_, ⟨h.1, h.2.1, rfl⟩, h.2.2⟩
        case mul => exact ⟨_, ⟨h.1, h.2.1, rfl⟩, h.2.2⟩
        case quo => exact ⟨_, ⟨h.1, h.2.1, h.2.2.1, rfl⟩, h.2.2.2⟩
        case rem => exact ⟨_, ⟨h.1, h.2.1, rfl⟩, h.2.2⟩
        all_goals first | exact ⟨_, ⟨h.1, rfl⟩, h.2⟩ | exact h
      · rename_i h1 h2 hne
        obtain ⟨v, h3, h4⟩ := h
        refine ⟨v, ?_, h4⟩
        unfold aBin
        split
        · rename_i K m K' n hx hy
          exact absurd hy (hne K m K' n hx)
        · exact h3
    obtain ⟨v, h1, h2⟩ := key
    exact ⟨v, ρ, ⟨h1, rfl⟩, h2⟩
  · unfold kExtract at h
    split at h
    · rename_i l hx
      obtain ⟨v, h3, h4⟩ := kOpt_spec h
      exact ⟨v, ρ, ⟨by simp only [aPure, hx]; exact h3, rfl⟩, h4⟩
    · exact h.elim
  · unfold kAlloc at h
    split at h
    · rename_i z hz
      exact ⟨_, _, ⟨z, hz, h.1, h.2.1, rfl, rfl⟩, h.2.2⟩
    · exact h.elim
  · exact ⟨_, _, ⟨h.1, h.2.1, rfl, rfl⟩, h.2.2⟩
  · unfold kStore at h
    split at h
    · rename_i r i j hx
      split at h
      · rename_i R hR
        obtain ⟨h1, h2, h3, h4, h5, h6, h7⟩ := h
        exact ⟨_, _, by simp only [aop, aStore, hx]; exact ⟨R, hR, h1, h2, h3, h4, h5, h6, trivial, rfl⟩, h7⟩
      · exact h.elim
    · exact h.elim
  · rename_i c
    cases hc : c.callee with
    | builtin b =>
      simp only [hc] at h
      have other : b ≠ .append → (∃ v, aBuiltin P b c.argTypes (c.args.toList.map (aev A)) v ∧ k v ρ) → ∃ v ρ', aop P ⟨dst, .call c, type, pos, after, guard⟩ (aev A) ρ v ρ' ∧ k v ρ' := by
        rintro hb ⟨v, h1, h2⟩
        refine ⟨v, ρ, ?_, h2⟩
        simp only [aop, aCall, hc]
        cases b <;> first | exact absurd rfl hb | exact ⟨h1, trivial⟩ | exact ⟨h1, rfl⟩ | exact (show False from h1).elim
      by_cases hb : b = .append
      · subst hb; exact h
      · refine other hb ?_
        have h' : kBuiltin P b c.argTypes.toList (c.args.toList.map (aev A)) ρ k := by
          cases b <;> first | exact absurd rfl hb | exact h
        unfold kBuiltin at h'
        split at h'
        · rename_i sz L t h1 h2
          obtain ⟨q, hq⟩ := Option.isSome_iff_exists.1 h'.1
          refine ⟨_, ?_, h'.2⟩
          have ht : c.argTypes[0]? = some t := by rw [← Array.getElem?_toList, h2]; rfl
          simp only [aBuiltin, h1, ht, (slElem_spec hq).1]
        · rename_i r o n t h1 h2
          obtain ⟨q, hq⟩ := Option.isSome_iff_exists.1 h'.1
          refine ⟨_, ?_, h'.2⟩
          have ht : c.argTypes[0]? = some t := by rw [← Array.getElem?_toList, h2]; rfl
          simp only [aBuiltin, h1, ht, (slElem_spec hq).1]
        · rename_i K m K' n h1
          refine ⟨_, ?_, h'.2⟩
          simp only [aBuiltin, h1]
          exact ⟨[n], by simp [asInts, h'.1], rfl⟩
        · rename_i K m K' n h1
          refine ⟨_, ?_, h'.2⟩
          simp only [aBuiltin, h1]
          exact ⟨[n], by simp [asInts, h'.1], rfl⟩
        · simpa using h'
    | value f =>
      simp only [hc] at h
      unfold kCall at h
      split at h
      · rename_i g fs cs hf
        obtain ⟨h1, h2, v, h3, h4⟩ := h
        exact ⟨v, ρ, by simp only [aop, aCall, hc, hf]; exact ⟨h1, h2, h3, trivial⟩, h4⟩
      · rename_i g fs cs hf
        obtain ⟨v, h3, h4⟩ := h
        exact ⟨v, ρ, by simp only [aop, aCall, hc, hf]; exact ⟨h3, trivial⟩, h4⟩
      · exact h.elim
    | invoke r m => simp only [hc] at h
  · exact h

def contK (Kr : List AV → Store → Prop) (A : List AV) (dst : Option Tmp) : KV := fun v ρ => Kr (putA A dst v) ρ
theorem contK_eq (Kr : List AV → Store → Prop) (A : List AV) (dst : Option Tmp) (v : AV) (ρ : Store) : contK Kr A dst v ρ = Kr (putA A dst v) ρ := rfl
def kGuard (b want : Bool) (X Y : Prop) : Prop := (b = want → X) ∧ (b = (!want) → Y)
theorem kGuard_tt (X Y : Prop) : kGuard true true X Y = X := by simp [kGuard]
theorem kGuard_ff (X Y : Prop) : kGuard false false X Y = X := by simp [kGuard]
theorem kGuard_tf (X Y : Prop) : kGuard true false X Y = Y := by simp [kGuard]
theorem kGuard_ft (X Y : Prop) : kGuard false true X Y = Y := by simp [kGuard]
theorem kGuard_intro {b want : Bool} {X Y : Prop} (h1 : b = want → X) (h2 : b = (!want) → Y) : kGuard b want X Y := ⟨h1, h2⟩

/-- an operation with a guard: what follows is not looked into before the guard is known -/
def kG (q : Option Bool) (want : Bool) (P : Program) (o : Oper) (Kr : List AV → Store → Prop) (A A' : List AV) (ρ : Store) : Prop := match q with
  | some b => kGuard b want (kOp P o A ρ (contK Kr A o.dst)) (Kr (putA A' o.dst .any) ρ)
  | none => False
theorem kG_tt (P : Program) (o : Oper) (Kr : List AV → Store → Prop) (A A' : List AV) (ρ : Store) : kG (some true) true P o Kr A A' ρ = kOp P o A ρ (contK Kr A o.dst) := by simp [kG, kGuard_tt]
theorem kG_ff (P : Program) (o : Oper) (Kr : List AV → Store → Prop) (A A' : List AV) (ρ : Store) : kG (some false) false P o Kr A A' ρ = kOp P o A ρ (contK Kr A o.dst) := by simp [kG, kGuard_ff]
theorem kG_tf (P : Program) (o : Oper) (Kr : List AV → Store → Prop) (A A' : List AV) (ρ : Store) : kG (some true) false P o Kr A A' ρ = Kr (putA A' o.dst .any) ρ := by simp [kG, kGuard_tf]
theorem kG_ft (P : Program) (o : Oper) (Kr : List AV → Store → Prop) (A A' : List AV) (ρ : Store) : kG (some false) true P o Kr A A' ρ = Kr (putA A' o.dst .any) ρ := by simp [kG, kGuard_ft]
theorem kG_dec (p : Prop) [Decidable p] (want : Bool) (P : Program) (o : Oper) (Kr : List AV → Store → Prop) (A A' : List AV) (ρ : Store) :
    kG (some (decide p)) want P o Kr A A' ρ = kGuard (decide p) want (kOp P o A ρ (contK Kr A o.dst)) (Kr (putA A' o.dst .any) ρ) := rfl
theorem kG_not (b : Bool) (want : Bool) (P : Program) (o : Oper) (Kr : List AV → Store → Prop) (A A' : List AV) (ρ : Store) :
    kG (some (!b)) want P o Kr A A' ρ = kGuard (!b) want (kOp P o A ρ (contK Kr A o.dst)) (Kr (putA A' o.dst .any) ρ) := rfl

def runF (P : Program) (ops : Array Oper) : List Oper → (List AV → Store → Prop) → List AV → Store → Prop
  | [], K, A, ρ => K A ρ
  | o :: r, K, A, ρ => match o.guard with
    | none => kOp P o A ρ (contK (runF P ops r K) A o.dst)
    | some (j, want) => kG (gval ops A j) want P o (runF P ops r K) (gset ops A j want) (gset ops A j (!want)) ρ

theorem runF_spec {ops : Array Oper} : ∀ (l : List Oper) (K : List AV → Store → Prop) (A : List AV) (ρ : Store), runF P ops l K A ρ → runOps P ops l K A ρ
  | [], K, A, ρ, h => h
  | o :: r, K, A, ρ, h => by
    unfold runF at h
    unfold runOps
    split at h
    · rename_i hg
      obtain ⟨v, ρ', h1, h2⟩ := kOp_spec h
      simp only [hg]
      exact ⟨v, ρ', h1, runF_spec r K _ _ h2⟩
    · rename_i j want hg
      simp only [hg]
      unfold kG at h
      split at h
      · rename_i b hb
        simp only [hb]
        refine ⟨fun hw => ?_, fun hw => runF_spec r K _ _ (h.2 hw)⟩
        obtain ⟨v, ρ', h1, h2⟩ := kOp_spec (h.1 hw)
        exact ⟨v, ρ', h1, runF_spec r K _ _ h2⟩
      · exact h.elim

/-- the code, taken apart; each region by 'runF' -/
def awf (P : Program) (C : Ctx) : Code → (Exit → List AV → Store → Prop) → List AV → Store → Prop
  | .seq x y, Q, A, ρ => awf P C x (thenA (awf P C y Q) Q) A ρ
  | .region _ ops _, Q, A, ρ => runF P ops ops.toList (Q .normal) A ρ
  | .cond c x y, Q, A, ρ => (match aev A c with
    | .sc (.bool b) => kGuard b true (awf P C x Q A ρ) (awf P C y Q A ρ)
    | _ => False)
  | .block id c, Q, A, ρ => awf P C c (inBlockA id Q) A ρ
  | .skip, Q, A, ρ => Q .normal A ρ
  | .ret, Q, A, ρ => Q .ret A ρ
  | .exit id, Q, A, ρ => Q (.exit id) A ρ
  | .label _, Q, A, ρ => Q .normal A ρ
  | .scope c, Q, A, ρ => awf P C c (noGotoA Q) A ρ
  | c, Q, A, ρ => wpA P C c Q A ρ

theorem runOps_mono {ops : Array Oper} {K K' : List AV → Store → Prop} (hK : ∀ A ρ, K A ρ → K' A ρ) : ∀ (l : List Oper) (A : List AV) (ρ : Store), runOps P ops l K A ρ → runOps P ops l K' A ρ
  | [], A, ρ, h => hK _ _ h
  | o :: r, A, ρ, h => by
    unfold runOps at h ⊢
    split
    · rename_i hg
      simp only [hg] at h
      obtain ⟨v, ρ', h1, h2⟩ := h
      exact ⟨v, ρ', h1, runOps_mono hK r _ _ h2⟩
    · rename_i j want hg
      simp only [hg] at h
      split
      · rename_i b hb
        simp only [hb] at h
        exact ⟨fun hw => let ⟨v, ρ', h1, h2⟩ := h.1 hw; ⟨v, ρ', h1, runOps_mono hK r _ _ h2⟩, fun hw => runOps_mono hK r _ _ (h.2 hw)⟩
      · rename_i hb; simp only [hb] at h
theorem awp_mono {C : Ctx} : ∀ (c : Code) {Q Q' : Exit → List AV → Store → Prop} (hq : ∀ e A ρ, Q e A ρ → Q' e A ρ) (A : List AV) (ρ : Store), awp P C c Q A ρ → awp P C c Q' A ρ := by
  intro c
  induction c with
  | seq x y ihx ihy =>
    intro Q Q' hq A ρ h
    exact ihx (fun e A ρ h => by cases e <;> first | exact ihy hq _ _ h | exact hq _ _ _ h) _ _ h
  | region id ops draw => intro Q Q' hq A ρ h; exact runOps_mono (fun A ρ h => hq _ _ _ h) _ _ _ h
  | cond c x y ihx ihy =>
    intro Q Q' hq A ρ h
    unfold awp at h ⊢
    split
    · rename_i b hb
      simp only [hb] at h
      exact ⟨fun e => ihx hq _ _ (h.1 e), fun e => ihy hq _ _ (h.2 e)⟩
    · rename_i hb
      split at h
      · rename_i b hb'; exact absurd hb' (hb b)
      · exact h
  | block id c ih =>
    intro Q Q' hq A ρ h
    refine ih (fun e A ρ h => ?_) _ _ h
    cases e with
    | exit id' =>
      simp only [inBlockA] at h ⊢
      split
      · rename_i he; rw [if_pos he] at h; exact hq _ _ _ h
      · rename_i he; rw [if_neg he] at h; exact hq _ _ _ h
    | _ => exact hq _ _ _ h
  | skip => intro Q Q' hq A ρ h; exact hq _ _ _ h
  | ret => intro Q Q' hq A ρ h; exact hq _ _ _ h
  | exit id => intro Q Q' hq A ρ h; exact hq _ _ _ h
  | label l => intro Q Q' hq A ρ h; exact hq _ _ _ h
  | scope c ih => intro Q Q' hq A ρ h; exact ih (fun e A ρ h => by cases e <;> first | exact hq _ _ _ h | exact h.elim) _ _ h
  | _ => intro Q Q' hq A ρ h; exact wpA_mono h hq

theorem awf_spec {C : Ctx} : ∀ (c : Code) (Q : Exit → List AV → Store → Prop) (A : List AV) (ρ : Store), awf P C c Q A ρ → awp P C c Q A ρ := by
  intro c
  induction c with
  | seq x y ihx ihy =>
    intro Q A ρ h
    exact awp_mono x (fun e A ρ h => by cases e <;> first | exact ihy _ _ _ h | exact h) _ _ (ihx _ _ _ h)
  | region id ops draw => intro Q A ρ h; exact runF_spec _ _ _ _ h
  | cond c x y ihx ihy =>
    intro Q A ρ h
    unfold awf at h
    unfold awp
    split at h
    · rename_i b hb
      simp only [hb]
      exact ⟨fun e => ihx _ _ _ (h.1 e), fun e => ihy _ _ _ (h.2 (by simpa using e))⟩
    · exact h.elim
  | block id c ih => intro Q A ρ h; exact ih _ _ _ h
  | skip => intro Q A ρ h; exact h
  | ret => intro Q A ρ h; exact h
  | exit id => intro Q A ρ h; exact h
  | label l => intro Q A ρ h; exact h
  | scope c ih => intro Q A ρ h; exact ih _ _ _ h
  | _ => intro Q A ρ h; exact h

/-- what follows is put behind a variable -/
theorem awf_seq {C : Ctx} {x y : Code} {Q : Exit → List AV → Store → Prop} {A : List AV} {ρ : Store} (h : ∀ K : List AV → Store → Prop, (∀ A ρ, awf P C y Q A ρ → K A ρ) → awf P C x (thenA K Q) A ρ) : awf P C (.seq x y) Q A ρ :=
  h _ (fun _ _ h => h)

theorem Does.ofF {f : FuncId} {fn : Func} {c : Code} {args : List AV} {res : AV} (hm : P.follows .mixedOrders = true) (hf : P.funcs[f]? = some fn) (hb : fn.body = some c) (hd : codeOK c = true)
    (h : ∀ C, C.rd = none ∧ C.n0 = 0 ∧ C.own → ∀ Q : Exit → List AV → Store → Prop, (∀ e A ρ, ((e = .normal ∨ e = .ret) ∧ ∃ vs, resA P A ρ fn.results.toList vs ∧ Snap ρ (one? vs) res) → Q e A ρ) → awf P C c Q (args ++ List.replicate (fn.ntmps - args.length) .any) []) :
    Does P f false args res := Does.of' hm hf hb hd (fun C hC => awf_spec _ _ _ _ (h C hC _ (fun _ _ _ h => h)))

theorem wpA_loopF {C : Ctx} {Q : Exit → List AV → Store → Prop} {A : List AV} {ρ : Store} {c : Code} (hm : P.follows .mixedOrders = true) (hd : codeOK c = true) (l : List Nat) (nr : Nat) (hT : C.n0 ≤ nr) (Inv : Nat → List AV → Store → Prop) (n0 : Nat)
    (ht0 : ρ.length = nr ∨ (nr ≤ ρ.length ∧ BelL nr (keep l A) ∧ BelS nr (ρ.take nr))) (h0 : Inv n0 (keep l A) (ρ.take nr))
    (round : ∀ n A ρ, Inv n A ρ → ∀ K : List AV → Store → Prop, (∀ A' ρ', (∃ m, m < n ∧ (ρ'.length = nr ∨ (nr ≤ ρ'.length ∧ BelL nr (keep l A') ∧ BelS nr (ρ'.take nr))) ∧ Inv m (keep l A') (ρ'.take nr)) → K A' ρ') →
      awf P C c (thenA K Q) A ρ) : wpA P C (.loop c) Q A ρ :=
  wpA_loopK hm hd l nr hT Inv n0 ht0 h0 (fun n A ρ hi => awf_spec _ _ _ _ (round n A ρ hi _ (fun _ _ h => h)))

section
variable {C : Ctx} {Q : Exit → List AV → Store → Prop} {A : List AV} {ρ : Store}
theorem awf_block {id : Nat} {c : Code} (h : awf P C c (inBlockA id Q) A ρ) : awf P C (.block id c) Q A ρ := h
theorem awf_region {id : Nat} {l : List Oper} {d : Bool} (h : runF P l.toArray l (Q .normal) A ρ) : awf P C (.region id l.toArray d) Q A ρ := h
theorem awf_cond {c : Operand} {x y : Code} {b : Bool} (hb : aev A c = .sc (.bool b)) (h : kGuard b true (awf P C x Q A ρ) (awf P C y Q A ρ)) : awf P C (.cond c x y) Q A ρ := by
  unfold awf; simp only [hb]; exact h
theorem awf_cond_t {c : Operand} {x y : Code} (hb : aev A c = .sc (.bool true)) (h : awf P C x Q A ρ) : awf P C (.cond c x y) Q A ρ := awf_cond hb (by rw [kGuard_tt]; exact h)
theorem awf_cond_f {c : Operand} {x y : Code} (hb : aev A c = .sc (.bool false)) (h : awf P C y Q A ρ) : awf P C (.cond c x y) Q A ρ := awf_cond hb (by rw [kGuard_ft]; exact h)
theorem awf_if {c : Operand} {x y : Code} {b : Bool} (hb : aev A c = .sc (.bool b)) (ht : b = true → awf P C x Q A ρ) (hf : b = false → awf P C y Q A ρ) : awf P C (.cond c x y) Q A ρ :=
  awf_cond hb ⟨ht, fun e => hf (by simpa using e)⟩
theorem awf_exit {id : Nat} (h : Q (.exit id) A ρ) : awf P C (.exit id) Q A ρ := h
theorem awf_label {l : Nat} (h : Q .normal A ρ) : awf P C (.label l) Q A ρ := h
theorem awf_scope {c : Code} (h : awf P C c (noGotoA Q) A ρ) : awf P C (.scope c) Q A ρ := h
theorem awf_skip (h : Q .normal A ρ) : awf P C .skip Q A ρ := h
theorem awf_ret (h : Q .ret A ρ) : awf P C .ret Q A ρ := h
theorem awf_loop {c : Code} (h : wpA P C (.loop c) Q A ρ) : awf P C (.loop c) Q A ρ := h
end
end Go.Lg
