import Derived.Test.YtfjfnpknlkonnaaLp
set_option linter.unusedVariables false
set_option linter.unusedSimpArgs false
namespace Go.Lg
variable {P : Program}
def packN (P : Program) (t : TypeId) : Option (Option Nat) := if known P t then some (if aggB P t then some (P.cellsOf t) else none) else none
def packC (q : Option (Option Nat)) (cs : List AV) : Option AV := match q with
  | some (some n) => if n ≤ cs.length then some (.agg (cs.take n)) else none
  | some none => cs.head?
  | none => none
theorem packC_eq (t : TypeId) (cs : List AV) : packC (packN P t) cs = pack P t cs := by
  unfold packC packN pack
  by_cases h : known P t = true <;> by_cases h2 : aggB P t = true <;> simp [h, h2]
def fieldOff (P : Program) (s : TypeId) (f : Nat) : Option (Nat × Option (Option Nat)) := match P.underlying s with
  | some (.struct fs) => (match fs[f]? with
    | some fd => if known P fd.type = true ∧ P.cellsOf fd.type ≠ 0 then some (fd.offset, packN P fd.type) else none
    | none => none)
  | _ => none
def slElem (P : Program) (t : TypeId) : Option (TypeId × Nat) := match P.underlying t with
  | some (.slice e) => if known P e then some (e, P.cellsOf e) else none
  | _ => none
def arElem (P : Program) (t : TypeId) : Option (Nat × TypeId × Nat) := match P.underlying t with
  | some (.array n e) => if known P e then some (n, e, P.cellsOf e) else none
  | _ => none
abbrev KV := AV → Store → Prop
def kOpt (o : Option AV) (ρ : Store) (k : KV) : Prop := match o with
  | some v => k v ρ
  | none => False
def kLoad (q : Option (Option Nat)) (x : AV) (ρ : Store) (k : KV) : Prop := match x with
  | .ptr r i j => (match ρ[r]? with
    | some (some R) => i < R.els.length ∧ kOpt (packC q ((R.els.getD i .any).cells.drop j)) ρ k
    | _ => False)
  | .iptr cs => kOpt (packC q cs) ρ k
  | _ => False
def kFieldAddr (fo : Option (Nat × Option (Option Nat))) (x : AV) (ρ : Store) (k : KV) : Prop := match fo with
  | some (off, _) => (match x with
    | .ptr r i j => k (.ptr r i (j + off)) ρ
    | .iptr cs => k (.iptr (cs.drop off)) ρ
    | _ => False)
  | none => False
def kIndexAddr (se : Option (TypeId × Nat)) (ae : Option (Nat × TypeId × Nat)) (x i : AV) (ρ : Store) (k : KV) : Prop := match i with
  | .sc (.int _ n) => (match se with
    | some (_, S) => (match x with
      | .isl sz L => S = sz ∧ 0 ≤ n ∧ n < L.length ∧ k (.iptr (L.getD n.toNat .any).cells) ρ
      | .sl r o m => (match ρ[r]? with
        | some (some R) => R.sz = S ∧ 0 ≤ n ∧ n < m ∧ k (.ptr r (o + n.toNat) 0) ρ
        | _ => False)
      | .sub r i j sz m => S = sz ∧ 0 ≤ n ∧ n < m ∧ k (.ptr r i (j + n.toNat * sz)) ρ
      | _ => False)
    | none => (match ae with
      | some (len, _, S) => 0 ≤ n ∧ n < len ∧ (match x with
        | .ptr r i j => k (.ptr r i (j + n.toNat * S)) ρ
        | .iptr cs => k (.iptr (cs.drop (n.toNat * S))) ρ
        | _ => False)
      | none => False))
  | _ => False
def kBinGen (P : Program) (op : BinOp) (t : TypeId) (x y : Operand) (a b : AV) (ρ : Store) (k : KV) : Prop := ∃ v, aBinGen P op t x y a b v ∧ k v ρ
def kBin (P : Program) (op : BinOp) (t : TypeId) (x y : Operand) (a b : AV) (ρ : Store) (k : KV) : Prop := match a, b with
  | .sc (.int K m), .sc (.int K' n) => (match op with
    | .add => K' = K ∧ inR K (m + n) ∧ k (.sc (.int K (m + n))) ρ
    | .sub => K' = K ∧ inR K (m - n) ∧ k (.sc (.int K (m - n))) ρ
    | .mul => K' = K ∧ inR K (m * n) ∧ k (.sc (.int K (m * n))) ρ
    | .quo => K' = K ∧ n ≠ 0 ∧ inR K (m.tdiv n) ∧ k (.sc (.int K (m.tdiv n))) ρ
    | .rem => K' = K ∧ n ≠ 0 ∧ k (.sc (.int K (m.tmod n))) ρ
    | .eql => K' = K ∧ k (.sc (.bool (decide (m = n)))) ρ
    | .neq => K' = K ∧ k (.sc (.bool (!decide (m = n)))) ρ
    | .lss => K' = K ∧ k (.sc (.bool (decide (m < n)))) ρ
    | .leq => K' = K ∧ k (.sc (.bool (decide (m ≤ n)))) ρ
    | .gtr => K' = K ∧ k (.sc (.bool (decide (n < m)))) ρ
    | .geq => K' = K ∧ k (.sc (.bool (decide (n ≤ m)))) ρ
    | op => kBinGen P op t x y (.sc (.int K m)) (.sc (.int K' n)) ρ k)
  | a, b => kBinGen P op t x y a b ρ k
def kPick (c a b : AV) (ρ : Store) (k : KV) : Prop := match c with
  | .sc (.bool t) => k (if t then a else b) ρ
  | _ => False
def kExtract (x : AV) (i : Nat) (ρ : Store) (k : KV) : Prop := match x with
  | .tup l => kOpt l[i]? ρ k
  | _ => False
def kBuiltin (P : Program) (b : Builtin) (ts : List TypeId) (args : List AV) (ρ : Store) (k : KV) : Prop := match b, args, ts with
  | .len, [.isl _ L], [t] => (slElem P t).isSome = true ∧ k (.sc (.int .i64 L.length)) ρ
  | .len, [.sl _ _ n], [t] => (slElem P t).isSome = true ∧ k (.sc (.int .i64 n)) ρ
  | .min, [.sc (.int K m), .sc (.int K' n)], _ => K' = K ∧ k (.sc (.int K (min m n))) ρ
  | .max, [.sc (.int K m), .sc (.int K' n)], _ => K' = K ∧ k (.sc (.int K (max m n))) ρ
  | b, args, ts => ∃ v, aBuiltin P b ts.toArray args v ∧ k v ρ
def kAlloc (q : Option AV) (n : Nat) (ρ : Store) (k : KV) : Prop := match q with
  | some z => z.ok = true ∧ z.cells.length = n ∧ k (.ptr ρ.length 0 0) (ρ ++ [some ⟨n, [z], none⟩])
  | none => False
def kBox (n : Nat) (x : AV) (ρ : Store) (k : KV) : Prop := x.ok = true ∧ x.cells.length = n ∧ k (.ptr ρ.length 0 0) (ρ ++ [some ⟨n, [x], none⟩])
def kStore (kn : Bool) (n : Nat) (p x : AV) (ρ : Store) (k : KV) : Prop := match p with
  | .ptr r i j => (match ρ[r]? with
    | some (some R) => i < R.els.length ∧ kn = true ∧ x.ok = true ∧ x.cells.length = n ∧ x.cells.length ≠ 0 ∧ j + x.cells.length ≤ R.sz ∧ k .any (ρ.set r (some ⟨R.sz, R.els.set i (putEl (R.els.getD i .any) j x), R.ob⟩))
    | _ => False)
  | _ => False
def kCall (P : Program) (c : Call) (f : AV) (args : List AV) (ρ : Store) (k : KV) : Prop := match f with
  | .sc (.func (.func g) fs cs) => fs = #[] ∧ cs = #[] ∧ ∃ v, aDoes P g args ρ v ∧ k v ρ
  | .clo (.func g) fs cs => ∃ v, aDoes P g (fs ++ args ++ cs) ρ v ∧ k v ρ
  | _ => False
def kGen (P : Program) (o : Oper) (A : List AV) (ρ : Store) (k : KV) : Prop := ∃ v ρ', aop P o (aev A) ρ v ρ' ∧ k v ρ'
def kOp (P : Program) (o : Oper) (A : List AV) (ρ : Store) (k : KV) : Prop := match o.op with
  | .move x => k (aev A x) ρ
  | .assign x => k (aev A x) ρ
  | .pick c a b => kPick (aev A c) (aev A a) (aev A b) ρ k
  | .load t x => kLoad (packN P t) (aev A x) ρ k
  | .fieldAddr s x f => kFieldAddr (fieldOff P s f) (aev A x) ρ k
  | .indexAddr t x i => kIndexAddr (slElem P t) (arElem P t) (aev A x) (aev A i) ρ k
  | .binOp op t x y _ => kBin P op t x y (aev A x) (aev A y) ρ k
  | .extract x i => kExtract (aev A x) i ρ k
  | .alloc t => kAlloc (zeroA P t) (P.cellsOf t) ρ k
  | .box t x => kBox (P.cellsOf t) (aev A x) ρ k
  | .store t p x => kStore (known P t) (P.cellsOf t) (aev A p) (aev A x) ρ k
  | .call c => (match c.callee with
    | .builtin .append => kGen P o A ρ k
    | .builtin b => kBuiltin P b c.argTypes.toList (c.args.toList.map (aev A)) ρ k
    | .value f => kCall P c (aev A f) (c.args.toList.map (aev A)) ρ k
    | .invoke _ _ => False)
  | _ => kGen P o A ρ k
theorem slElem_spec {t : TypeId} {q} (h : slElem P t = some q) : P.underlying t = some (.slice q.1) ∧ known P q.1 = true ∧ q.2 = P.cellsOf q.1 := by
  unfold slElem at h
  split at h
  · rename_i e hu
    split at h
    · rename_i hk; cases h; exact ⟨hu, hk, rfl⟩
    · cases h
  · cases h
theorem arElem_spec {t : TypeId} {q} (h : arElem P t = some q) : P.underlying t = some (.array q.1 q.2.1) ∧ known P q.2.1 = true ∧ q.2.2 = P.cellsOf q.2.1 := by
  unfold arElem at h
  split at h
  · rename_i n e hu
    split at h
    · rename_i hk; cases h; exact ⟨hu, hk, rfl⟩
    · cases h
  · cases h
def contK (Kr : List AV → Store → Prop) (A : List AV) (dst : Option Tmp) : KV := fun v ρ => Kr (putA A dst v) ρ
def kGuard (b want : Bool) (X Y : Prop) : Prop := (b = want → X) ∧ (b = (!want) → Y)
def kG (q : Option Bool) (want : Bool) (P : Program) (o : Oper) (Kr : List AV → Store → Prop) (A A' : List AV) (ρ : Store) : Prop := match q with
  | some b => kGuard b want (kOp P o A ρ (contK Kr A o.dst)) (Kr (putA A' o.dst .any) ρ)
  | none => False
def runF (P : Program) (ops : Array Oper) : List Oper → (List AV → Store → Prop) → List AV → Store → Prop
  | [], K, A, ρ => K A ρ
  | o :: r, K, A, ρ => match o.guard with
    | none => kOp P o A ρ (contK (runF P ops r K) A o.dst)
    | some (j, want) => kG (gval ops A j) want P o (runF P ops r K) (gset ops A j want) (gset ops A j (!want)) ρ
def awf (P : Program) (C : Ctx) : Code → (Exit → List AV → Store → Prop) → List AV → Store → Prop
  | .seq x y, Q, A, ρ => awf P C x (thenA (awf P C y Q) Q) A ρ
  | .region _ ops _, Q, A, ρ => runF P ops ops.toList (Q .normal) A ρ
  | .cond c x y, Q, A, ρ => (match aev A c with
    | .sc (.bool b) => kGuard b true (awf P C x Q A ρ) (awf P C y Q A ρ)
    | _ => False)
  | .block id c, Q, A, ρ => awf P C c (inBlockA id Q) A ρ
  | .skip, Q, A, ρ => Q .normal A ρ
  | .ret, Q, A, ρ => Q .ret A ρ
  | .exit id, Q, A, ρ => Q (.exit id) A ρ
  | .label _, Q, A, ρ => Q .normal A ρ
  | .scope c, Q, A, ρ => awf P C c (noGotoA Q) A ρ
  | c, Q, A, ρ => wpA P C c Q A ρ
section
variable {C : Ctx} {Q : Exit → List AV → Store → Prop} {A : List AV} {ρ : Store}
end
end Go.Lg
