import Derived.WalkKit
import Derived.Orders
import Derived.BigQuiet
import Derived.RangeFuncNested
import Derived.RangeFuncBound
import Derived.RangeFuncCalls
import Derived.RangeFuncLeaves
import Derived.OrdersIn
import Derived.TacticsIn
import Derived.LoopIn
set_option linter.unusedVariables false
namespace Go.Lg
/-- abstract values -/
inductive AV where
  | any
  | sc (v : Value)
  | ptr (r i j : Nat)
  | sl (r o n : Nat)
  | isl (sz : Nat) (L : List AV)
  | iptr (c : List AV)
  | agg (c : List AV)
  | tup (l : List AV)
  | clo (fn : Fn) (first captured : List AV)
  | yld (r : Nat)
  /-- a slice of cells within an element: n elements of sz cells -/
  | sub (r i j sz n : Nat)
  /-- a map, or an iterator: its row stands for the object -/
  | mp (r : Nat)
  | sit (r : Nat)
  | ifc (t : TypeId) (v : AV)
  deriving Inhabited

def AV.cells : AV → List AV
  | .agg c => c
  | v => [v]

structure Loc where
  b : Nat
  off : Nat
  sz : Nat

/-- what an object of its own holds -/
inductive ObjA where
  | map (es : List (Value × Nat × AV)) (n : Nat)
  | siter (s : ByteArray) (pos : Nat)
structure Root where
  sz : Nat
  els : List AV
  ob : Option ObjA

abbrev Store := List (Option Root)

def cellf (w : World) (b o : Nat) : Option Value := w.cell? ⟨b, o, none⟩

inductive Rel (c : Nat → Nat → Option Value) (I : Nat → Prop) (N : Nat) (β : Nat → Option Loc) : AV → Value → Prop
  | any (v : Value) : Rel c I N β .any v
  | sc (v : Value) : Rel c I N β (.sc v) v
  | ptr (r i j : Nat) (l : Loc) (hr : r < N) (hl : β r = some l) : Rel c I N β (.ptr r i j) (.pointer (some ⟨l.b, l.off + i * l.sz + j, none⟩))
  | sl (r o n cap : Nat) (l : Loc) (hr : r < N) (hl : β r = some l) (hn : n ≤ cap) (hc : ∀ k, k < cap * l.sz → (c l.b (l.off + o * l.sz + k)).isSome = true) :
      Rel c I N β (.sl r o n) (.slice (some ⟨l.b, l.off + o * l.sz, none⟩) n cap)
  | slz (r o : Nat) (a : Option Addr) (hr : r < N) : Rel c I N β (.sl r o 0) (.slice a 0 0)
  | isl (sz : Nat) (L : List AV) (b off cap : Nat) (vs : Nat → Nat → Value) (hb : I b) (hn : L.length ≤ cap) (hz : ∀ i, i < L.length → (L.getD i .any).cells.length = sz)
      (hc : ∀ i, i < L.length → ∀ j, j < sz → c b (off + i * sz + j) = some (vs i j))
      (hv : ∀ i, i < L.length → ∀ j, j < sz → Rel c I N β ((L.getD i .any).cells.getD j .any) (vs i j)) :
      Rel c I N β (.isl sz L) (.slice (some ⟨b, off, none⟩) L.length cap)
  | islz (sz : Nat) (a : Option Addr) : Rel c I N β (.isl sz []) (.slice a 0 0)
  | iptr (cs : List AV) (b off : Nat) (vs : Nat → Value) (hb : I b)
      (hc : ∀ j, j < cs.length → c b (off + j) = some (vs j)) (hv : ∀ j, j < cs.length → Rel c I N β (cs.getD j .any) (vs j)) :
      Rel c I N β (.iptr cs) (.pointer (some ⟨b, off, none⟩))
  | agg (cs : List AV) (vs : Array Value) (hn : vs.size = cs.length) (hv : ∀ j, j < cs.length → Rel c I N β (cs.getD j .any) (vs.getD j undef)) :
      Rel c I N β (.agg cs) (.agg vs)
  | tup (cs : List AV) (vs : Array Value) (hn : vs.size = cs.length) (hv : ∀ j, j < cs.length → Rel c I N β (cs.getD j .any) (vs.getD j undef)) :
      Rel c I N β (.tup cs) (.tuple vs)
  | clo (fn : Fn) (fs cs : List AV) (us vs : Array Value) (hm : us.size = fs.length) (hu : ∀ j, j < fs.length → Rel c I N β (fs.getD j .any) (us.getD j undef))
      (hn : vs.size = cs.length) (hv : ∀ j, j < cs.length → Rel c I N β (cs.getD j .any) (vs.getD j undef)) :
      Rel c I N β (.clo fn fs cs) (.func fn us vs)
  | yld (r : Nat) (l : Loc) (hr : r < N) (hl : β r = some l) : Rel c I N β (.yld r) (.func (.yield l.b) #[] #[])
  | sub (r i j sz n cap : Nat) (l : Loc) (hr : r < N) (hl : β r = some l) (hn : n ≤ cap) : Rel c I N β (.sub r i j sz n) (.slice (some ⟨l.b, l.off + i * l.sz + j, none⟩) n cap)
  | subz (r i j sz : Nat) (a : Option Addr) (hr : r < N) : Rel c I N β (.sub r i j sz 0) (.slice a 0 0)
  | mp (r : Nat) (l : Loc) (hr : r < N) (hl : β r = some l) : Rel c I N β (.mp r) (.map (some l.b))
  | sit (r : Nat) (l : Loc) (hr : r < N) (hl : β r = some l) : Rel c I N β (.sit r) (.pointer (some ⟨l.b, 0, none⟩))
  | ifc (t : TypeId) (a : AV) (v : Value) (h : Rel c I N β a v) : Rel c I N β (.ifc t a) (.iface t v)

theorem Rel.mono {c c' : Nat → Nat → Option Value} {I I' : Nat → Prop} {N N' : Nat} {β β' : Nat → Option Loc} {a : AV} {v : Value}
    (h : Rel c I N β a v) (hc : ∀ b o x, I b → c b o = some x → c' b o = some x) (hs : ∀ b o, (c b o).isSome = true → (c' b o).isSome = true)
    (hI : ∀ b, I b → I' b) (hN : N ≤ N') (hβ : ∀ r, r < N → β' r = β r) : Rel c' I' N' β' a v := by
  induction h with
  | any v => exact .any v
  | sc v => exact .sc v
  | ptr r i j l hr hl => exact .ptr r i j l (by omega) (by rw [hβ r hr, hl])
  | sl r o n cap l hr hl hn h4 => exact .sl r o n cap l (by omega) (by rw [hβ r hr, hl]) hn (fun k hk => hs _ _ (h4 k hk))
  | slz r o a hr => exact .slz r o a (by omega)
  | isl sz L b off cap vs hb hn hz h1 h2 ih => exact .isl sz L b off cap vs (hI _ hb) hn hz (fun i hi j hj => hc _ _ _ hb (h1 i hi j hj)) ih
  | islz sz a => exact .islz sz a
  | iptr cs b off vs hb h1 h2 ih => exact .iptr cs b off vs (hI _ hb) (fun j hj => hc _ _ _ hb (h1 j hj)) ih
  | agg cs vs hn h1 ih => exact .agg cs vs hn ih
  | tup cs vs hn h1 ih => exact .tup cs vs hn ih
  | clo fn fs cs us vs hm hu hn hv ih1 ih2 => exact .clo fn fs cs us vs hm ih1 hn ih2
  | yld r l hr hl => exact .yld r l (by omega) (by rw [hβ r hr, hl])
  | sub r i j sz n cap l hr hl hn => exact .sub r i j sz n cap l (by omega) (by rw [hβ r hr, hl]) hn
  | subz r i j sz a hr => exact .subz r i j sz a (by omega)
  | mp r l hr hl => exact .mp r l (by omega) (by rw [hβ r hr, hl])
  | sit r l hr hl => exact .sit r l (by omega) (by rw [hβ r hr, hl])
  | ifc t a v h ih => exact .ifc t a v ih

/-- what a row's object reads as -/
inductive ObRel (R : AV → Value → Prop) : ObjA → Obj → Prop
  | map (es : List (Value × Nat × AV)) (en : Array MapEntry) (n : Nat) (hk : en.toList.map (fun e => (e.key, e.born)) = es.map (fun e => (e.1, e.2.1))) (hv : ∀ (i : Nat) e x, en.toList[i]? = some e → es[i]? = some x → R x.2.2 e.val) : ObRel R (.map es n) (.map en n)
  | siter (s : ByteArray) (p : Nat) : ObRel R (.siter s p) (.stringIter s p)
theorem ObRel.mono {R R' : AV → Value → Prop} {o : ObjA} {x : Obj} (k : ObRel R o x) (h : ∀ a v, R a v → R' a v) : ObRel R' o x := by
  cases k with
  | map es en n hk hv => exact .map es en n hk fun i e x h1 h2 => h _ _ (hv i e x h1 h2)
  | siter s p => exact .siter s p
theorem ObRel.notCells {R : AV → Value → Prop} {o : ObjA} {x : Obj} (k : ObRel R o x) : ∀ c e f, x ≠ .cells c e f := by
  cases k <;> intros <;> simp
structure SR (w : World) (F I : Nat → Prop) (β : Nat → Option Loc) (ρ : Store) : Prop where
  real : ∀ r R l, ρ[r]? = some (some R) → β r = some l → l.sz = R.sz ∧ l.b < w.heap.size ∧ ¬ I l.b ∧ ¬ F l.b
  cells : ∀ r R l, ρ[r]? = some (some R) → β r = some l → ∀ i, i < R.els.length → (R.els.getD i .any).cells.length = R.sz ∧
    ∀ j, j < R.sz → ∃ v, cellf w l.b (l.off + i * R.sz + j) = some v ∧ Rel (cellf w) I ρ.length β ((R.els.getD i .any).cells.getD j .any) v
  phantom : ∀ r R, ρ[r]? = some (some R) → β r = none → R.els = []
  inj : ∀ r s R S l m, ρ[r]? = some (some R) → ρ[s]? = some (some S) → β r = some l → β s = some m → l.b = m.b → r = s
  ilt : ∀ b, I b → b < w.heap.size
  flt : ∀ b, F b → b < w.heap.size
  thaw : ∀ r R l, ρ[r]? = some (some R) → β r = some l → ∀ o, w.frozen? ⟨l.b, o, none⟩ = false
  obs : ∀ r R o, ρ[r]? = some (some R) → R.ob = some o → R.els = [] ∧ ∃ l x, β r = some l ∧ w.heap[l.b]? = some x ∧ ObRel (Rel (cellf w) I ρ.length β) o x

structure Keeps (F : Nat → Prop) (w0 w : World) : Prop where
  os : w.os = w0.os
  tape : w.tape = w0.tape
  output : w.output = w0.output
  size : w0.heap.size ≤ w.heap.size
  block : ∀ b, F b → w.heap[b]? = w0.heap[b]?

theorem Keeps.refl (F : Nat → Prop) (w : World) : Keeps F w w := ⟨rfl, rfl, rfl, Nat.le_refl _, fun _ _ => rfl⟩
theorem Keeps.sub {F G : Nat → Prop} {a b : World} (h : Keeps F a b) (hs : ∀ b, G b → F b) : Keeps G a b := ⟨h.os, h.tape, h.output, h.size, fun b hb => h.block b (hs b hb)⟩
theorem Keeps.trans {F : Nat → Prop} {a b c : World} (h : Keeps F a b) (k : Keeps F b c) : Keeps F a c :=
  ⟨k.os.trans h.os, k.tape.trans h.tape, k.output.trans h.output, Nat.le_trans h.size k.size, fun b hb => (k.block b hb).trans (h.block b hb)⟩

def aev (A : List AV) : Operand → AV
  | .tmp t => A.getD t .any
  | .const v => .sc v
  | .global _ => .any
  | .func f => .sc (.func (.func f) #[] #[])

/-- the mark that a range over a function leaves behind -/
def dmark (D : Nat) : Deferred := { target := .collected D, args := #[] }
def Marked (w : World) (F I : Nat → Prop) (a : Act) : Prop :=
  ∃ Ds : List Nat, Ds.Nodup ∧ a.defers = Ds.map dmark ∧ ∀ D, D ∈ Ds → F D ∧ ¬ I D ∧ w.heap[D]? = some (.deferred (some []))
theorem Marked.keep {w w' F I I' a} (h : Marked w F I a) (hF : ∀ b, F b → w'.heap[b]? = w.heap[b]?) (hI : ∀ b, I' b → I b ∨ w.heap.size ≤ b) (hl : ∀ b, F b → b < w.heap.size) : Marked w' F I' a := by
  obtain ⟨Ds, h1, h2, h3⟩ := h
  exact ⟨Ds, h1, h2, fun D hD => ⟨(h3 D hD).1, fun hi => (hI D hi).elim (h3 D hD).2.1 (fun h => Nat.lt_irrefl _ (Nat.lt_of_lt_of_le (hl D (h3 D hD).1) h)), (hF D (h3 D hD).1).trans (h3 D hD).2.2⟩⟩
theorem Marked.put {w F I a} (h : Marked w F I a) (d : Option Tmp) (u : Value) : Marked w F I (a.put d u) := by
  obtain ⟨Ds, h1, h2, h3⟩ := h
  exact ⟨Ds, h1, by cases d <;> exact h2, h3⟩

structure FRel (w : World) (F I : Nat → Prop) (β : Nat → Option Loc) (a : Act) (A : List AV) (ρ : Store) : Prop where
  sr : SR w F I β ρ
  df : Marked w F I a
  size : a.tmps.size = A.length
  rel : ∀ i, i < A.length → Rel (cellf w) I ρ.length β (A.getD i .any) (a.tmps.getD i undef)

/-- no reference into the frame's own store -/
inductive Pure : AV → Prop
  | any : Pure .any
  | sc (v : Value) : Pure (.sc v)
  | isl (sz : Nat) (L : List AV) (h : ∀ i, i < L.length → ∀ j, j < sz → Pure ((L.getD i .any).cells.getD j .any)) : Pure (.isl sz L)
  | iptr (c : List AV) (h : ∀ j, j < c.length → Pure (c.getD j .any)) : Pure (.iptr c)
  | agg (c : List AV) (h : ∀ j, j < c.length → Pure (c.getD j .any)) : Pure (.agg c)
  | tup (c : List AV) (h : ∀ j, j < c.length → Pure (c.getD j .any)) : Pure (.tup c)
  | clo (fn : Fn) (fs cs : List AV) (h : ∀ j, j < fs.length → Pure (fs.getD j .any)) (h' : ∀ j, j < cs.length → Pure (cs.getD j .any)) : Pure (.clo fn fs cs)
  | ifc (t : TypeId) (a : AV) (h : Pure a) : Pure (.ifc t a)

/-- it refers to rows below this number alone -/
inductive Bel (n : Nat) : AV → Prop
  | pure (a : AV) (h : Pure a) : Bel n a
  | ptr (r i j : Nat) (h : r < n) : Bel n (.ptr r i j)
  | sl (r o k : Nat) (h : r < n) : Bel n (.sl r o k)
  | agg (c : List AV) (h : ∀ j, j < c.length → Bel n (c.getD j .any)) : Bel n (.agg c)
  | tup (c : List AV) (h : ∀ j, j < c.length → Bel n (c.getD j .any)) : Bel n (.tup c)
  | clo (fn : Fn) (fs cs : List AV) (h : ∀ j, j < fs.length → Bel n (fs.getD j .any)) (h' : ∀ j, j < cs.length → Bel n (cs.getD j .any)) : Bel n (.clo fn fs cs)
  | yld (r : Nat) (h : r < n) : Bel n (.yld r)
  | sub (r i j sz k : Nat) (h : r < n) : Bel n (.sub r i j sz k)
  | mp (r : Nat) (h : r < n) : Bel n (.mp r)
  | sit (r : Nat) (h : r < n) : Bel n (.sit r)
  | ifc (t : TypeId) (a : AV) (h : Bel n a) : Bel n (.ifc t a)

theorem Bel.le {n m : Nat} {a : AV} (h : Bel n a) (hm : n ≤ m) : Bel m a := by
  induction h with
  | pure a h => exact .pure a h
  | ptr r i j h => exact .ptr r i j (by omega)
  | sl r o k h => exact .sl r o k (by omega)
  | agg c h ih => exact .agg c ih
  | tup c h ih => exact .tup c ih
  | clo fn fs cs h h' ih ih' => exact .clo fn fs cs ih ih'
  | yld r h => exact .yld r (by omega)
  | sub r i j sz k h => exact .sub r i j sz k (by omega)
  | mp r h => exact .mp r (by omega)
  | sit r h => exact .sit r (by omega)
  | ifc t a h ih => exact .ifc t a ih

def BelQ (n : Nat) : Option ObjA → Prop
  | some (.map es _) => ∀ x ∈ es, Bel n x.2.2
  | _ => True

/-- what an operation may do to the world and the store, as the frame sees it -/
structure Grow (w w' : World) (I I' : Nat → Prop) (N N' : Nat) (β β' : Nat → Option Loc) : Prop where
  hc : ∀ b o x, I b → cellf w b o = some x → cellf w' b o = some x
  hs : ∀ b o, (cellf w b o).isSome = true → (cellf w' b o).isSome = true
  hI : ∀ b, I b → I' b
  hN : N ≤ N'
  hβ : ∀ r, r < N → β' r = β r
  hI2 : ∀ b, I' b → I b ∨ w.heap.size ≤ b
  hz : w.heap.size ≤ w'.heap.size
theorem Grow.refl (w I N β) : Grow w w I I N N β β := ⟨fun _ _ _ _ h => h, fun _ _ h => h, fun _ h => h, Nat.le_refl _, fun _ _ => rfl, fun _ h => .inl h, Nat.le_refl _⟩
theorem Grow.rel {w w' I I' N N' β β' a v} (g : Grow w w' I I' N N' β β') (h : Rel (cellf w) I N β a v) : Rel (cellf w') I' N' β' a v := h.mono g.hc g.hs g.hI g.hN g.hβ
theorem Grow.trans {w w' w'' I I' I'' N N' N'' β β' β''} (g : Grow w w' I I' N N' β β') (h : Grow w' w'' I' I'' N' N'' β' β'') : Grow w w'' I I'' N N'' β β'' :=
  ⟨fun b o x hb hx => h.hc b o x (g.hI b hb) (g.hc b o x hb hx), fun b o hx => h.hs b o (g.hs b o hx), fun b hb => h.hI b (g.hI b hb), Nat.le_trans g.hN h.hN, fun r hr => (h.hβ r (Nat.lt_of_lt_of_le hr g.hN)).trans (g.hβ r hr),
    fun b hb => (h.hI2 b hb).elim (fun h => g.hI2 b h) (fun h => .inr (Nat.le_trans g.hz h)), Nat.le_trans g.hz h.hz⟩
/-- fewer rows -/
theorem Grow.cut {w w' I I' N N' β β'} (g : Grow w w' I I' N N' β β') (n : Nat) (h : N ≤ n) : Grow w w' I I' N n β β' :=
  ⟨g.hc, g.hs, g.hI, h, g.hβ, g.hI2, g.hz⟩

/-- where a call began: what it must leave alone, what it may read, the world, the rows that are the caller's -/
structure Ctx where
  F : Nat → Prop
  I0 : Nat → Prop
  w0 : World
  g0 : World
  rd : Option Nat
  M : Nat → Prop
  up : ∀ D, w0.heap.size ≤ D → M D
  n0 : Nat
  β0 : Nat → Option Loc

/-- all that was there is left alone -/
def Ctx.own (C : Ctx) : Prop := ∀ b, b < C.g0.heap.size → C.F b

/-- the fence in which all is walked: as wide as can be, in a round or not -/
def fz (r : Option Nat) : Fence := { Fence.wide with round := r }

def SRel (C : Ctx) (a : Act) (w : World) (A : List AV) (ρ : Store) : Prop :=
  ∃ I β, Keeps C.F C.w0 w ∧ Grow C.g0 w C.I0 I C.n0 ρ.length C.β0 β ∧ ∃ F', ((∀ b, C.F b → F' b) ∧ (∀ D, dmark D ∈ a.defers → C.M D)) ∧ FRel w F' I β a A ρ

theorem FRel.eval {w F I β a A ρ} (h : FRel w F I β a A ρ) (x : Operand) : Rel (cellf w) I ρ.length β (aev A x) (a.eval x) := by
  cases x with
  | tmp t =>
    by_cases ht : t < A.length
    · exact h.rel t ht
    · have : A.getD t .any = .any := by simp [List.getD, List.getElem?_eq_none (Nat.le_of_not_lt ht)]
      show Rel _ _ _ _ (A.getD t .any) _
      rw [this]; exact .any _
  | const v => exact .sc v
  | global g => exact .any _
  | func f => exact .sc _

def putA (A : List AV) : Option Tmp → AV → List AV
  | none, _ => A
  | some d, v => A.set d v

theorem putA_length (A : List AV) (d : Option Tmp) (v : AV) : (putA A d v).length = A.length := by cases d <;> simp [putA]

/-- the frame and a new value, in a world (and a store) that has grown or changed -/
theorem FRel.put {w w' F I I' β β' a A ρ ρ'} (h : FRel w F I β a A ρ) (dst : Option Tmp) {v : AV} {u : Value}
    (hsr : SR w' F I' β' ρ') (hv : Rel (cellf w') I' ρ'.length β' v u)
    (hc : ∀ b o x, I b → cellf w b o = some x → cellf w' b o = some x) (hs : ∀ b o, (cellf w b o).isSome = true → (cellf w' b o).isSome = true)
    (hI : ∀ b, I b → I' b) (hN : ρ.length ≤ ρ'.length) (hβ : ∀ r, r < ρ.length → β' r = β r) (hF : ∀ b, F b → w'.heap[b]? = w.heap[b]?) (hI2 : ∀ b, I' b → I b ∨ w.heap.size ≤ b) :
    FRel w' F I' β' (a.put dst u) (putA A dst v) ρ' := by
  have hold : ∀ i, i < A.length → Rel (cellf w') I' ρ'.length β' (A.getD i .any) (a.tmps.getD i undef) := fun i hi => (h.rel i hi).mono hc hs hI hN hβ
  cases dst with
  | none => exact ⟨hsr, (h.df.keep hF hI2 h.sr.flt).put none u, h.size, hold⟩
  | some d =>
    refine ⟨hsr, (h.df.keep hF hI2 h.sr.flt).put (some d) u, by simp [Act.put, putA, h.size], fun i hi => ?_⟩
    have hi' : i < A.length := by simpa [putA] using hi
    simp only [putA, Act.put]
    by_cases e : d = i
    · subst e
      have e1 : (A.set d v).getD d .any = v := by simp [List.getD, hi']
      have e2 : (a.tmps.setIfInBounds d u).getD d undef = u := by simp [Array.getD, h.size, hi']
      rw [e1, e2]; exact hv
    · have e1 : (A.set d v).getD i .any = A.getD i .any := by simp [List.getD, List.getElem?_set_ne e]
      have e2 : (a.tmps.setIfInBounds d u).getD i undef = a.tmps.getD i undef := by
        by_cases hs' : i < a.tmps.size <;> simp [Array.getD, hs', Array.getElem_setIfInBounds_ne, e]
      rw [e1, e2]; exact hold i hi'

theorem FRel.put0 {w F I β a A ρ} (h : FRel w F I β a A ρ) (dst : Option Tmp) {v : AV} {u : Value} (hv : Rel (cellf w) I ρ.length β v u) :
    FRel w F I β (a.put dst u) (putA A dst v) ρ :=
  h.put dst h.sr hv (fun _ _ _ _ h => h) (fun _ _ h => h) (fun _ h => h) (Nat.le_refl _) (fun _ _ => rfl) (fun _ _ => rfl) (fun _ h => .inl h)
end Go.Lg
