import Derived.Test.YtpannbkmpbioiaaQaQaVQbQcQcVQd
set_option linter.unusedVariables false
namespace Go.Proofs.Ytpannbkmpbioiaa
open Go Go.Lg
/-! what the program finds -/
open Classical in
noncomputable def stt (m : Mn) (j i : Nat) : Int := if ∃ k, k < i ∧ m.va (up m j k - 1) = 2 then 1 else 2
open Classical in
noncomputable def fedS (m : Mn) (j : Nat) : Int := if ∃ k, k < dpt m j j ∧ m.va (up m j k - 1) = 1 then 0 else stt m j (dpt m j j)
open Classical in
noncomputable def chkN (w : Nw) (z : Int) : Int := if okNet w then (if 0 ≤ z ∧ z < w.j.n then 0 else 2) else 1
open Classical in
noncomputable def vaT (m : Mn) (j i k : Nat) : Int := if ∃ q, q < i ∧ up m j q - 1 = k then 0 else m.va k
noncomputable def opM (m : Mn) (j : Nat) : Mn := ⟨m.n, m.fr, m.dr, vaT m j (dpt m j j), m.co⟩
def pas (b : Bool) (v : Int) : Bool := match b with
  | true => !decide (v = 1)
  | false => decide (v = 0)
def needE (b : Bool) (l h : Int) : Int := match b with
  | true => h
  | false => l
def srcE (b : Bool) (l h : Int) : Int := match b with
  | true => l
  | false => h
def govd (g p : Int) : Int := if g = -1 then p else min p g
def ledL (m : Mn) (b : Bool) : Nat → Nat → List Nat
  | 0, j => [j]
  | F + 1, j => j :: (List.range m.n).flatMap fun k => if m.fr k = j ∧ pas b (m.va k) = true then ledL m b F (k + 1) else []
/-- all that a junction leads to -/
def led (m : Mn) (b : Bool) (j : Nat) : List Nat := ledL m b (m.n + 1 - j) j
def sumL (f : Nat → Int) : List Nat → Int
  | [] => 0
  | x :: l => f x + sumL f l
def flowS (b : Bool) (w : Nw) (j : Nat) : Int := sumL (fun i => needE b (w.j.nl i) (w.j.nh i)) (led w.m b j)
def prL (b : Bool) (w : Nw) : Nat → Nat → Int
  | 0, j => govd (w.j.go j) (srcE b w.s0 w.s1)
  | F + 1, j => govd (w.j.go j) (if j = 0 then srcE b w.s0 w.s1 else prL b w F (w.m.fr (j - 1)).toNat - w.m.dr (j - 1) * flowS b w j)
def prS (b : Bool) (w : Nw) (j : Nat) : Int := prL b w j j
noncomputable def opW (w : Nw) (j : Nat) : Nw := ⟨w.s0, w.s1, w.j, opM w.m j⟩
noncomputable def prLo (w : Nw) (j : Nat) : Int := prS true (opW w j) j
noncomputable def prHi (w : Nw) (j : Nat) : Int := prS false (opW w j) j
/-- a junction is not right -/
structure badJ (w : Nw) (j : Nat) : Prop where
  fed : ¬ fedS w.m j = 0
  out : prLo w j < w.j.le j ∨ w.j.mo j < prHi w j
open Classical in
/-- the first junction that is not right, or their number -/
noncomputable def fstB (w : Nw) : Nat → Nat
  | 0 => 0
  | i + 1 => if fstB w i < i then fstB w i else if badJ w i then i else i + 1
/-! values -/
def fnV (g : FuncId) : SV := .val (.func (.func g) #[] #[])
def endV (b : Bool) : SV := match b with
  | true => .agg [fnV 81, fnV 82, fnV 83]
  | false => .agg [fnV 82, fnV 81, fnV 87]
def endP (b : Bool) : SV := match b with
  | true => .ipt [fnV 81, fnV 82, fnV 83]
  | false => .ipt [fnV 82, fnV 81, fnV 87]
/-! contracts -/
def netC (g : FuncId) (C : Nw → List SV → (SV → Prop) → Prop) : Ctr := ⟨g, fun args k => match args with
  | x :: r => x = (wOf x).sv ∧ C (wOf x) r k
  | [] => False⟩
def maiL (g : FuncId) (C : Mn → List SV → (SV → Prop) → Prop) : Ctr := ⟨g, fun args k => match args with
  | x :: r => x = (mOf x).sv ∧ C (mOf x) r k
  | [] => False⟩
def vnetC (g : FuncId) : Ctr := netC g fun w r k => match r with
  | [] => k (.dec (okNet w) (Classical.propDecidable _))
  | _ => False
def chkC : Ctr := netC 33 fun w r k => match r with
  | [.int .i64 z] => k (i6 (chkN w z))
  | _ => False
structure okJ (m : Mn) (z : Int) : Prop where
  hm : okM m
  hn : m.n ≤ 1000
  hz : 0 ≤ z ∧ z ≤ m.n
def wayC : Ctr := maiL 56 fun m r k => match r with
  | [.int .i64 z] => k (.clo (.func 79) [] [.ipt [i6 z], .ipt [m.sv]])
  | _ => False
def wayI : ICtr := ⟨79, fun fs us k => match fs, us with
  | [], [.ipt [.int .i64 z], .ipt [x]] => x = (mOf x).sv ∧ okJ (mOf x) z ∧ k (dpt (mOf x) z.toNat z.toNat) 1 fun i => [i6 ((up (mOf x) z.toNat i : Int) - 1)]
  | _, _ => False⟩
def fedC : Ctr := maiL 34 fun m r k => match r with
  | [.int .i64 z] => okJ m z ∧ k (i6 (fedS m z.toNat))
  | _ => False
def openC : Ctr := maiL 57 fun m r k => match r with
  | [.int .i64 z] => okJ m z ∧ k (opM m z.toNat).sv
  | _ => False
def loC : Ctr := ⟨81, fun args k => match args with
  | [.agg [.int .i64 x, .int .i64 y]] => k (i6 x)
  | _ => False⟩
def hiC : Ctr := ⟨82, fun args k => match args with
  | [.agg [.int .i64 x, .int .i64 y]] => k (i6 y)
  | _ => False⟩
def pasC (b : Bool) (g : FuncId) : Ctr := ⟨g, fun args k => match args with
  | [.int .i64 v] => (match b with
    | true => k (.dec (¬ v = 1) inferInstance)
    | false => k (.dec (v = 0) inferInstance))
  | _ => False⟩
def endC (b : Bool) (g : FuncId) : Ctr := ⟨g, fun args k => match args with
  | [] => k (endV b)
  | _ => False⟩
def govC : Ctr := ⟨86, fun args k => match args with
  | [.agg [.int .i64 a, .int .i64 b, .int .i64 c, .int .i64 d, .int .i64 g], .int .i64 p] => k (i6 (govd g p))
  | _ => False⟩
def ledC (b : Bool) : Ctr := ⟨96, fun args k => match args with
  | [e, x, .int .i64 z] => e = endV b ∧ x = (mOf x).sv ∧ k (.clo (.func 98) [] [.ipt [i6 z], .ipt [x], endP b])
  | _ => False⟩
def ledI (b : Bool) (M : Nat) : ICtr := ⟨98, fun fs us k => match fs, us with
  | [], [.ipt [.int .i64 z], .ipt [x], e] => e = endP b ∧ x = (mOf x).sv ∧ okJ (mOf x) z ∧ (mOf x).n + 1 - z.toNat < M ∧ k (led (mOf x) b z.toNat).length 1 fun i => [i6 (((led (mOf x) b z.toNat).getD i 0 : Nat) : Int)]
  | _, _ => False⟩
def flowC (b : Bool) : Ctr := ⟨85, fun args k => match args with
  | [e, x, .int .i64 z] => e = endV b ∧ x = (wOf x).sv ∧ (okNet (wOf x) ∧ 0 ≤ z ∧ z < (wOf x).j.n) ∧ k (i6 (flowS b (wOf x) z.toNat))
  | _ => False⟩
noncomputable def atX (b : Bool) (w : Nw) : XS := mkX [vr 3 (endV b), vr 4 w.sv, vr 1 (.clo (.func 84) [] [.ptr 0 0 0, .ptr 1 0 0, .ptr 2 0 0])]
noncomputable def atC (b : Bool) (M : Nat) : SCtr where
  f := 84
  p := Nw × Int
  pre := fun p => okNet p.1 ∧ (0 ≤ p.2 ∧ p.2 < p.1.j.n) ∧ p.2.toNat < M
  X0 := fun p => atX b p.1
  args := fun p => [i6 p.2, .ptr 0 0 0, .ptr 1 0 0, .ptr 2 0 0]
  res := fun p => i6 (prS b p.1 p.2.toNat)
  rd := fun args X k => match args with
    | .int _ z :: _ => (match X.row 1 with
      | some R => (match R.f 0 with
        | .agg c => k (wOf (.agg c), z)
        | _ => False)
      | none => False)
    | _ => False
  rdOK := fun args X k h => by
    split at h
    · split at h
      · split at h
        · exact ⟨_, h⟩
        · exact h.elim
      · exact h.elim
    · exact h.elim
def presC (b : Bool) : Ctr := ⟨59, fun args k => match args with
  | [e, x, .int .i64 z] => e = endV b ∧ x = (wOf x).sv ∧ (okNet (wOf x) ∧ 0 ≤ z ∧ z < (wOf x).j.n) ∧ k (i6 (prS b (wOf x) z.toNat))
  | _ => False⟩
/-! conditions -/
noncomputable def csV : CSpec := ctrs [vnetC 40, vnetC 23]
noncomputable def chkG (w : Nw) (z : Int) : Prop := funH Try.prog csV noX (ictrs []) noL noL 33 [w.sv, i6 z] (i6 (chkN w z))
noncomputable def fedG (m : Mn) (z : Int) : Prop := funH Try.prog (ctrsF [wayC] (ctrs [])) noX (ictrs [wayI]) noL
  (oneL 0 (itS 3 (fun j => ∀ k, k < j → ¬ m.va (up m z.toNat k - 1) = 1) (mkF 21 [(2, .ptr 0 0 0), (4, .ptr 1 0 0), (5, .ptr 2 0 0)]) (fun j => mkX [vr 1 m.sv, vr 1 (i6 0), vr 1 (i6 (stt m z.toNat j))]) (fun _ => none))) 34 [m.sv, i6 z] (i6 (fedS m z.toNat))
noncomputable def opnG (m : Mn) (z : Int) : Prop := funH Try.prog (ctrsF [wayC] (ctrs [])) (inl Try.prog (ctrs []) none (ictrs []) 80 noL noL noX) (ictrs [wayI]) noL
  (oneL 0 (itS 2 (fun j => True) (mkF 18 [(5, .ptr 1 0 0)]) (fun j => mkX [rw' 4 m.n fun k => .agg [i6 (m.fr k), i6 (m.dr k), i6 (vaT m z.toNat j k), i6 (m.co k)], vr 1 (.sl 0 0 m.n)]) (fun _ => none))) 57 [m.sv, i6 z] (opM m z.toNat).sv
noncomputable def loG (x y : Int) : Prop := funH Try.prog (ctrs []) noX (ictrs []) noL noL 81 [.agg [i6 x, i6 y]] (i6 x)
noncomputable def hiG (x y : Int) : Prop := funH Try.prog (ctrs []) noX (ictrs []) noL noL 82 [.agg [i6 x, i6 y]] (i6 y)
noncomputable def pasTG (v : Int) : Prop := funH Try.prog (ctrs []) noX (ictrs []) noL noL 83 [i6 v] (.dec (¬ v = 1) inferInstance)
noncomputable def pasFG (v : Int) : Prop := funH Try.prog (ctrs []) noX (ictrs []) noL noL 87 [i6 v] (.dec (v = 0) inferInstance)
noncomputable def endTG : Prop := funH Try.prog (ctrs []) noX (ictrs []) noL noL 58 [] (endV true)
noncomputable def endFG : Prop := funH Try.prog (ctrs []) noX (ictrs []) noL noL 60 [] (endV false)
noncomputable def govG (a b c d g p : Int) : Prop := funH Try.prog (ctrs []) noX (ictrs []) noL noL 86 [.agg [i6 a, i6 b, i6 c, i6 d, i6 g], i6 p] (i6 (govd g p))
noncomputable def ledTG (m : Mn) (z : Int) : Prop := funH Try.prog (ctrs []) noX (ictrs []) noL noL 96 [endV true, m.sv, i6 z] (.clo (.func 98) [] [.ipt [i6 z], .ipt [m.sv], endP true])
noncomputable def ledFG (m : Mn) (z : Int) : Prop := funH Try.prog (ctrs []) noX (ictrs []) noL noL 96 [endV false, m.sv, i6 z] (.clo (.func 98) [] [.ipt [i6 z], .ipt [m.sv], endP false])
/-- how many have been yielded before the main k is looked at -/
def cnt (m : Mn) (b : Bool) (j : Nat) : Nat → Nat
  | 0 => 1
  | k + 1 => cnt m b j k + (if m.fr k = j ∧ pas b (m.va k) = true then (led m b (k + 1)).length else 0)
noncomputable def led1 (b : Bool) (M : Nat) (m : Mn) (j : Nat) : Prop := itH Try.prog (ctrsF [ledC b] (ctrs [pasC true 83, pasC false 87])) noX (ictrs [ledI b M])
  (oneL 0 (natH (fun k => k ≤ m.n) (fun k => m.n - k) 2 (fun k => mkF 42 [(1, .ipt [i6 j]), (2, .ipt [m.sv]), (3, endP b), (4, .ptr 1 0 0), (12, m.sv), (13, i6 m.n), (14, i6 k)]) (fun _ => mkX [none, vr 1 (.yld 0)]) fun k => some (cnt m b j k)))
  (oneL 2 (itN 42 14 2 (fun k i => k < m.n ∧ m.fr k = j ∧ pas b (m.va k) = true) (fun k => mkF 42 [(1, .ipt [i6 j]), (2, .ipt [m.sv]), (3, endP b), (4, .ptr 1 0 0), (12, m.sv), (13, i6 m.n), (14, i6 k)]) (fun _ _ => mkX [none, vr 1 (.yld 0)]) fun k i => some (cnt m b j k + i))) 98 [] [.ipt [i6 j], .ipt [m.sv], endP b] (led m b j).length fun i => [i6 (((led m b j).getD i 0 : Nat) : Int)]
noncomputable def led1T (M : Nat) (m : Mn) (j : Nat) : Prop := led1 true M m j
noncomputable def led1F (M : Nat) (m : Mn) (j : Nat) : Prop := led1 false M m j
end Go.Proofs.Ytpannbkmpbioiaa

set_option linter.unusedVariables false
set_option maxRecDepth 100000
namespace Go.Proofs.Ytpannbkmpbioiaa
open Go Go.Lg
theorem chkG_vc (w : Nw) (z : Int) : chkG w z = ((0 : Nat) < (1 : Nat) ∧ (∀ (i : Nat), i < w.j.1 → True ∧ True ∧ True ∧ True ∧ True ∧ True) ∧ (∀ (i : Nat), i < w.m.1 → True ∧ True ∧ True ∧ True ∧ True) ∧ w.sv = w.sv ∧ (¬okNet w → (1 : Int) = chkN w z ∧ True) ∧ (¬¬okNet w → (z < (0 : Int) → (2 : Int) = chkN w z ∧ True) ∧ (¬z < (0 : Int) → (0 : Nat) < (1 : Nat) ∧ ((↑w.j.1 : Int) ≤ z → (2 : Int) = chkN w z ∧ True) ∧ (¬(↑w.j.1 : Int) ≤ z → (0 : Int) = chkN w z ∧ True)))) := by kernel_rfl
theorem fedG_vc (m : Mn) (z : Int) : fedG m z = ((0 : Nat) < (1 : Nat) ∧ (∀ (i : Nat), i < m.1 → True ∧ True ∧ True ∧ True ∧ True) ∧ m.sv = m.sv ∧ (∀ (i : Nat), i < m.1 → True ∧ True ∧ True ∧ True ∧ True) ∧ m.sv = m.sv ∧ okJ m z ∧ ((True ∧ True) ∧ ((∀ (i : Nat), i < m.1 → True ∧ True ∧ True ∧ True ∧ True) ∧ True) ∧ ∃ z_1, (z_1 = (0 : Nat) ∧ ∀ (k : Nat), k < (0 : Nat) → ¬m.4 (up m z.toNat k - (1 : Nat)) = (1 : Int)) ∧ (0 : Nat) = (0 : Nat) ∧ (0 : Nat) = (0 : Nat) ∧ (0 : Nat) = (0 : Nat) ∧ (0 : Nat) = (0 : Nat) ∧ (0 : Nat) = (0 : Nat) ∧ (0 : Nat) = (0 : Nat) ∧ Fn.func (79 : FuncId) = Fn.func (79 : FuncId) ∧ SV.denL [i6 z] = SV.denL [SV.int IntKind.i64 z] ∧ (True ∧ True) ∧ SV.denL [m.sv] = SV.denL [m.sv] ∧ ((∀ (i : Nat), i < m.1 → True ∧ True ∧ True ∧ True ∧ True) ∧ True) ∧ m.1 = m.1 ∧ (∀ (i : Nat), i < m.1 → (SV.agg [i6 (m.fr i), i6 (m.dr i), i6 (m.va i), i6 (m.co i)]).den = (SV.agg [i6 (m.fr i), i6 (m.dr i), i6 (m.va i), i6 (m.co i)]).den ∧ True ∧ True ∧ True ∧ True ∧ True) ∧ (0 : Int) = (0 : Int) ∧ (2 : Int) = stt m z.toNat z_1 ∧ True) ∧ (∀ (j : Nat), j < dpt m z.toNat z.toNat → ∀ (z_1 : Nat), (z_1 = j ∧ ∀ (k : Nat), k < j → ¬m.4 (up m z.toNat k - (1 : Nat)) = (1 : Int)) → (0 : Nat) < (1 : Nat) ∧ (0 : Int) ≤ (↑(up m z.toNat j) : Int) - (1 : Int) ∧ (↑(up m z.toNat j) : Int) - (1 : Int) < (↑m.1 : Int) ∧ (m.4 ((↑(up m z.toNat j) : Int) - (1 : Int)).toNat = (1 : Int) → (0 : Nat) < (1 : Nat) ∧ (0 : Int) = fedS m z.toNat ∧ True) ∧ (¬m.4 ((↑(up m z.toNat j) : Int) - (1 : Int)).toNat = (1 : Int) → (m.4 ((↑(up m z.toNat j) : Int) - (1 : Int)).toNat = (2 : Int) → ∃ z_2, (z_2 = j.succ ∧ ∀ (k : Nat), k < j.succ → ¬m.4 (up m z.toNat k - (1 : Nat)) = (1 : Int)) ∧ m.1 = m.1 ∧ (∀ (i : Nat), i < m.1 → (SV.agg [i6 (m.fr i), i6 (m.dr i), i6 (m.va i), i6 (m.co i)]).den = (SV.agg
 [i6 (m.fr i), i6 (m.dr i), i6 (m.va i), i6 (m.co i)]).den ∧ True ∧ True ∧ True ∧ True ∧ True) ∧ (0 : Int) = (0 : Int) ∧ (1 : Int) = stt m z.toNat z_2 ∧ True) ∧ (¬m.4 ((↑(up m z.toNat j) : Int) - (1 : Int)).toNat = (2 : Int) → ∃ z_2, (z_2 = j.succ ∧ ∀ (k : Nat), k < j.succ → ¬m.4 (up m z.toNat k - (1 : Nat)) = (1 : Int)) ∧ m.1 = m.1 ∧ (∀ (i : Nat), i < m.1 → (SV.agg [i6 (m.fr i), i6 (m.dr i), i6 (m.va i), i6 (m.co i)]).den = (SV.agg [i6 (m.fr i), i6 (m.dr i), i6 (m.va i), i6 (m.co i)]).den ∧ True ∧ True ∧ True ∧ True ∧ True) ∧ (0 : Int) = (0 : Int) ∧ stt m z.toNat z_1 = stt m z.toNat z_2 ∧ True))) ∧ ∀ (z_1 : Nat), (z_1 = dpt m z.toNat z.toNat ∧ ∀ (k : Nat), k < dpt m z.toNat z.toNat → ¬m.4 (up m z.toNat k - (1 : Nat)) = (1 : Int)) → (0 : Nat) < (1 : Nat) ∧ (0 : Nat) < (1 : Nat) ∧ stt m z.toNat z_1 = fedS m z.toNat ∧ True) := by kernel_rfl
theorem opnG_vc (m : Mn) (z : Int) : opnG m z = ((0 : Int) ≤ (↑m.1 : Int) ∧ (↑m.1 : Int) ≤ (↑m.1 : Int) ∧ (↑m.1 : Int) ≤ (1048576 : Int) ∧ (↑m.1 : Int) * (↑(32 : Nat) : Int) ≤ (140737488355328 : Int) ∧ (0 : Nat) = (0 : Nat) ∧ (↑m.1 : Int).toNat = (↑m.1 : Int).toNat ∧ m.1 = (↑m.1 : Int).toNat ∧ (∀ (i : Nat), i < m.1 → true = true) ∧ (∀ (i : Nat), i < m.1 → True ∧ True ∧ True ∧ True ∧ True) ∧ m.sv = m.sv ∧ (∀ (i : Nat), i < m.1 → True ∧ True ∧ True ∧ True ∧ True) ∧ m.sv = m.sv ∧ okJ m z ∧ ((True ∧ True) ∧ ((∀ (i : Nat), i < m.1 → True ∧ True ∧ True ∧ True ∧ True) ∧ True) ∧ ∃ z_1, (z_1 = (0 : Nat) ∧ True) ∧ (0 : Nat) = (0 : Nat) ∧ (0 : Nat) = (0 : Nat) ∧ Fn.func (79 : FuncId) = Fn.func (79 : FuncId) ∧ SV.denL [i6 z] = SV.denL [SV.int IntKind.i64 z] ∧ (True ∧ True) ∧ SV.denL [m.sv] = SV.denL [m.sv] ∧ ((∀ (i : Nat), i < m.1 → True ∧ True ∧ True ∧ True ∧ True) ∧ True) ∧ m.1 = m.1 ∧ (∀ (i : Nat), i < m.1 → (4 : Nat) = (4 : Nat) ∧ m.2 i = m.2 i ∧ m.3 i = m.3 i ∧ m.4 i = vaT m z.toNat z_1 i ∧ m.5 i = m.5 i ∧ True) ∧ (0 : Nat) = (0 : Nat) ∧ (↑m.1 : Int).toNat = m.1 ∧ True) ∧ (∀ (j : Nat), j < dpt m z.toNat z.toNat → ∀ (z_1 : Nat), z_1 = j ∧ True → (0 : Nat) < (1 : Nat) ∧ (0 : Int) ≤ (↑(up m z.toNat j) : Int) - (1 : Int) ∧ (↑(up m z.toNat j) : Int) - (1 : Int) < (↑m.1 : Int) ∧ (2 : Nat) + (1 : Nat) ≤ (4 : Nat) ∧ (0 : Nat) + ((↑(up m z.toNat j) : Int) - (1 : Int)).toNat < m.1 ∧ (∀ (i' : Nat), true = true) ∧ ∃ z_2, (z_2 = j.succ ∧ True) ∧ m.1 = m.1 ∧ (∀ (i : Nat), i < m.1 → (4 : Nat) = (4 : Nat) ∧ (if i = (0 : Nat) + ((↑(up m z.toNat j) : Int) - (1 : Int)).toNat then m.2 i else m.2 i) = m.2 i ∧ (if i = (0 : Nat) + ((↑(up m z.toNat j) : Int) - (1 : Int)).toNat then m.3 i else m.3 i) = m.3 i ∧ (if i = (0 : Nat) + ((↑(up m z.toNat j) : Int) - (1 : Int)).toNat then (0 : Int)
 else vaT m z.toNat z_1 i) = vaT m z.toNat z_2 i ∧ (if i = (0 : Nat) + ((↑(up m z.toNat j) : Int) - (1 : Int)).toNat then m.5 i else m.5 i) = m.5 i ∧ True) ∧ (0 : Nat) = (0 : Nat) ∧ m.1 = m.1 ∧ True) ∧ ∀ (z_1 : Nat), z_1 = dpt m z.toNat z.toNat ∧ True → (0 : Nat) < (1 : Nat) ∧ m.1 = m.1 ∧ (0 : Nat) + m.1 ≤ m.1 ∧ (∀ (i : Nat), i < m.1 → (4 : Nat) = (4 : Nat) ∧ (4 : Nat) = (4 : Nat) ∧ m.2 (i + (0 : Nat)) = m.2 i ∧ m.3 (i + (0 : Nat)) = m.3 i ∧ vaT m z.toNat z_1 (i + (0 : Nat)) = vaT m z.toNat (dpt m z.toNat z.toNat) i ∧ m.5 (i + (0 : Nat)) = m.5 i ∧ True) ∧ True) := by kernel_rfl
theorem loG_vc (x : Int) (y : Int) : loG x y = ((0 : Nat) < (1 : Nat) ∧ x = x ∧ True) := by kernel_rfl
theorem hiG_vc (x : Int) (y : Int) : hiG x y = ((0 : Nat) < (1 : Nat) ∧ y = y ∧ True) := by kernel_rfl
theorem pasTG_vc (v : Int) : pasTG v = ((¬v = (1 : Int) ↔ ¬v = (1 : Int)) ∧ True) := by kernel_rfl
theorem pasFG_vc (v : Int) : pasFG v = ((v = (0 : Int) ↔ v = (0 : Int)) ∧ True) := by kernel_rfl
theorem endTG_vc  : endTG  = ((0 : Nat) < (1 : Nat) ∧ Value.func (Fn.func (81 : Nat)) #[] #[] = Value.func (Fn.func (81 : FuncId)) #[] #[] ∧ Value.func (Fn.func (82 : Nat)) #[] #[] = Value.func (Fn.func (82 : FuncId)) #[] #[] ∧ Value.func (Fn.func (83 : Nat)) #[] #[] = Value.func (Fn.func (83 : FuncId)) #[] #[] ∧ True) := by kernel_rfl
theorem endFG_vc  : endFG  = ((0 : Nat) < (1 : Nat) ∧ Value.func (Fn.func (82 : Nat)) #[] #[] = Value.func (Fn.func (82 : FuncId)) #[] #[] ∧ Value.func (Fn.func (81 : Nat)) #[] #[] = Value.func (Fn.func (81 : FuncId)) #[] #[] ∧ Value.func (Fn.func (87 : Nat)) #[] #[] = Value.func (Fn.func (87 : FuncId)) #[] #[] ∧ True) := by kernel_rfl
theorem govG_vc (a : Int) (b : Int) (c : Int) (d : Int) (g : Int) (p : Int) : govG a b c d g p = ((0 : Nat) < (1 : Nat) ∧ (g = (-1 : Int) → p = govd g p ∧ True) ∧ (¬g = (-1 : Int) → (0 : Nat) < (1 : Nat) ∧ min p g = govd g p ∧ True)) := by kernel_rfl
theorem ledTG_vc (m : Mn) (z : Int) : ledTG m z = ((0 : Nat) < (1 : Nat) ∧ z = z ∧ (0 : Nat) < (1 : Nat) ∧ m.1 = m.1 ∧ (∀ (i : Nat), i < m.1 → (SV.agg [i6 (m.fr i), i6 (m.dr i), i6 (m.va i), i6 (m.co i)]).den = (SV.agg [i6 (m.fr i), i6 (m.dr i), i6 (m.va i), i6 (m.co i)]).den ∧ True ∧ True ∧ True ∧ True ∧ True) ∧ (0 : Nat) < (1 : Nat) ∧ Value.func (Fn.func (81 : FuncId)) #[] #[] = Value.func (Fn.func (81 : FuncId)) #[] #[] ∧ Value.func (Fn.func (82 : FuncId)) #[] #[] = Value.func (Fn.func (82 : FuncId)) #[] #[] ∧ Value.func (Fn.func (83 : FuncId)) #[] #[] = Value.func (Fn.func (83 : FuncId)) #[] #[] ∧ True) := by kernel_rfl
theorem ledFG_vc (m : Mn) (z : Int) : ledFG m z = ((0 : Nat) < (1 : Nat) ∧ z = z ∧ (0 : Nat) < (1 : Nat) ∧ m.1 = m.1 ∧ (∀ (i : Nat), i < m.1 → (SV.agg [i6 (m.fr i), i6 (m.dr i), i6 (m.va i), i6 (m.co i)]).den = (SV.agg [i6 (m.fr i), i6 (m.dr i), i6 (m.va i), i6 (m.co i)]).den ∧ True ∧ True ∧ True ∧ True ∧ True) ∧ (0 : Nat) < (1 : Nat) ∧ Value.func (Fn.func (82 : FuncId)) #[] #[] = Value.func (Fn.func (82 : FuncId)) #[] #[] ∧ Value.func (Fn.func (81 : FuncId)) #[] #[] = Value.func (Fn.func (81 : FuncId)) #[] #[] ∧ Value.func (Fn.func (87 : FuncId)) #[] #[] = Value.func (Fn.func (87 : FuncId)) #[] #[] ∧ True) := by kernel_rfl
theorem led1T_vc (M : Nat) (m : Mn) (j : Nat) : led1T M m j = ((0 : Nat) < (1 : Nat) ∧ (0 : Nat) < (led m true j).length ∧ (↑j : Int) = (↑((led m true j).getD (0 : Nat) (0 : Nat)) : Int) ∧ ((∃ z, z.le m.n ∧ (1 : Nat) = cnt m true j z ∧ SV.denL [i6 (↑j : Int)] = SV.denL [i6 (↑j : Int)] ∧ (True ∧ True) ∧ SV.denL [m.sv] = SV.denL [m.sv] ∧ ((∀ (i : Nat), i < m.1 → True ∧ True ∧ True ∧ True ∧ True) ∧ True) ∧ SV.denL [fnV (81 : FuncId), fnV (82 : FuncId), fnV (83 : FuncId)] = SV.denL [fnV (81 : FuncId), fnV (82 : FuncId), fnV (83 : FuncId)] ∧ (True ∧ True ∧ True ∧ True) ∧ (0 : Nat) = (0 : Nat) ∧ (0 : Nat) = (0 : Nat) ∧ m.1 = m.1 ∧ (∀ (i : Nat), i < m.1 → (SV.agg [i6 (m.fr i), i6 (m.dr i), i6 (m.va i), i6 (m.co i)]).den = (SV.agg [i6 (m.fr i), i6 (m.dr i), i6 (m.va i), i6 (m.co i)]).den ∧ True ∧ True ∧ True ∧ True ∧ True) ∧ (↑m.1 : Int) = (↑m.1 : Int) ∧ (0 : Int) = (↑z : Int) ∧ True) ∧ ∀ (z : Nat), z.le m.n → ((↑z : Int) < (↑m.1 : Int) → (0 : Int) ≤ (↑z : Int) ∧ (↑z : Int) < (↑m.1 : Int) ∧ (0 : Nat) < (1 : Nat) ∧ (¬m.2 (↑z : Int).toNat = (↑j : Int) → ((-9223372036854775808 : Int) ≤ (↑z : Int) + (1 : Int) ∧ (↑z : Int) + (1 : Int) ≤ (9223372036854775807 : Int)) ∧ ∃ z_1, z_1.le m.n ∧ m.1 - z_1 < m.1 - z ∧ cnt m true j z = cnt m true j z_1 ∧ SV.denL [i6 (↑j : Int)] = SV.denL [i6 (↑j : Int)] ∧ (True ∧ True) ∧ SV.denL [m.sv] = SV.denL [m.sv] ∧ ((∀ (i : Nat), i < m.1 → True ∧ True ∧ True ∧ True ∧ True) ∧ True) ∧ SV.denL [fnV (81 : FuncId), fnV (82 : FuncId), fnV (83 : FuncId)] = SV.denL [fnV (81 : FuncId), fnV (82 : FuncId), fnV (83 : FuncId)] ∧ (True ∧ True ∧ True ∧ True) ∧ (0 : Nat) = (0 : Nat) ∧ (0 : Nat) = (0 : Nat) ∧ m.1 = m.1 ∧ (∀ (i : Nat), i < m.1 → (SV.agg [i6 (m.fr i), i6 (m.dr i), i6 (m.va i), i6 (m.co i)]).den = (SV.agg [i6 (m.fr i), i6 (m.dr i), i6 (m.va i),
 i6 (m.co i)]).den ∧ True ∧ True ∧ True ∧ True ∧ True) ∧ (↑m.1 : Int) = (↑m.1 : Int) ∧ (↑z : Int) + (1 : Int) = (↑z_1 : Int) ∧ True) ∧ (¬¬m.2 (↑z : Int).toNat = (↑j : Int) → (0 : Nat) < (1 : Nat) ∧ (¬¬m.4 (↑z : Int).toNat = (1 : Int) → ((-9223372036854775808 : Int) ≤ (↑z : Int) + (1 : Int) ∧ (↑z : Int) + (1 : Int) ≤ (9223372036854775807 : Int)) ∧ ∃ z_1, z_1.le m.n ∧ m.1 - z_1 < m.1 - z ∧ cnt m true j z = cnt m true j z_1 ∧ SV.denL [i6 (↑j : Int)] = SV.denL [i6 (↑j : Int)] ∧ (True ∧ True) ∧ SV.denL [m.sv] = SV.denL [m.sv] ∧ ((∀ (i : Nat), i < m.1 → True ∧ True ∧ True ∧ True ∧ True) ∧ True) ∧ SV.denL [fnV (81 : FuncId), fnV (82 : FuncId), fnV (83 : FuncId)] = SV.denL [fnV (81 : FuncId), fnV (82 : FuncId), fnV (83 : FuncId)] ∧ (True ∧ True ∧ True ∧ True) ∧ (0 : Nat) = (0 : Nat) ∧ (0 : Nat) = (0 : Nat) ∧ m.1 = m.1 ∧ (∀ (i : Nat), i < m.1 → (SV.agg [i6 (m.fr i), i6 (m.dr i), i6 (m.va i), i6 (m.co i)]).den = (SV.agg [i6 (m.fr i), i6 (m.dr i), i6 (m.va i), i6 (m.co i)]).den ∧ True ∧ True ∧ True ∧ True ∧ True) ∧ (↑m.1 : Int) = (↑m.1 : Int) ∧ (↑z : Int) + (1 : Int) = (↑z_1 : Int) ∧ True) ∧ (¬¬¬m.4 (↑z : Int).toNat = (1 : Int) → ((-9223372036854775808 : Int) ≤ (↑z : Int) + (1 : Int) ∧ (↑z : Int) + (1 : Int) ≤ (9223372036854775807 : Int)) ∧ (∀ (i : Nat), i < m.1 → True ∧ True ∧ True ∧ True ∧ True) ∧ SV.agg [SV.val (Value.func (Fn.func (81 : FuncId)) #[] #[]), SV.val (Value.func (Fn.func (82 : FuncId)) #[] #[]), SV.val (Value.func (Fn.func (83 : FuncId)) #[] #[])] = endV true ∧ m.sv = m.sv ∧ (∀ (i : Nat), i < m.1 → True ∧ True ∧ True ∧ True ∧ True) ∧ SV.ipt [SV.val (Value.func (Fn.func (81 : FuncId)) #[] #[]), SV.val (Value.func (Fn.func (82 : FuncId)) #[] #[]), SV.val (Value.func (Fn.func (83 : FuncId)) #[] #[])] = endP true ∧ m.sv = m.sv ∧ okJ m ((↑z : Int) + (1 : Int)) ∧
 m.1 + (1 : Nat) - ((↑z : Int) + (1 : Int)).toNat < M ∧ ((True ∧ True) ∧ ((∀ (i : Nat), i < m.1 → True ∧ True ∧ True ∧ True ∧ True) ∧ True) ∧ (True ∧ True ∧ True ∧ True) ∧ (∀ (i : Nat), i < m.1 → True ∧ True ∧ True ∧ True ∧ True) ∧ (True ∧ True) ∧ ((∀ (i : Nat), i < m.1 → True ∧ True ∧ True ∧ True ∧ True) ∧ True) ∧ (True ∧ True ∧ True ∧ True) ∧ ∃ z_1, (z_1 = (0 : Nat) ∧ (↑z : Int).toNat < m.1 ∧ m.2 (↑z : Int).toNat = (↑j : Int) ∧ pas true (m.va (↑z : Int).toNat) = true) ∧ cnt m true j z = cnt m true j (↑z : Int).toNat + (0 : Nat) ∧ SV.denL [i6 (↑j : Int)] = SV.denL [i6 (↑j : Int)] ∧ (True ∧ True) ∧ SV.denL [m.sv] = SV.denL [m.sv] ∧ ((∀ (i : Nat), i < m.1 → True ∧ True ∧ True ∧ True ∧ True) ∧ True) ∧ SV.denL [fnV (81 : FuncId), fnV (82 : FuncId), fnV (83 : FuncId)] = SV.denL [fnV (81 : FuncId), fnV (82 : FuncId), fnV (83 : FuncId)] ∧ (True ∧ True ∧ True ∧ True) ∧ (0 : Nat) = (0 : Nat) ∧ (0 : Nat) = (0 : Nat) ∧ m.1 = m.1 ∧ (∀ (i : Nat), i < m.1 → (SV.agg [i6 (m.fr i), i6 (m.dr i), i6 (m.va i), i6 (m.co i)]).den = (SV.agg [i6 (m.fr i), i6 (m.dr i), i6 (m.va i), i6 (m.co i)]).den ∧ True ∧ True ∧ True ∧ True ∧ True) ∧ (↑m.1 : Int) = (↑m.1 : Int) ∧ (↑z : Int) = (↑(↑z : Int).toNat : Int) ∧ Fn.func (98 : FuncId) = Fn.func (98 : FuncId) ∧ SV.denL [i6 ((↑z : Int) + (1 : Int))] = SV.denL [SV.int IntKind.i64 ((↑z : Int) + (1 : Int))] ∧ (True ∧ True) ∧ SV.denL [m.sv] = SV.denL [m.sv] ∧ ((∀ (i : Nat), i < m.1 → True ∧ True ∧ True ∧ True ∧ True) ∧ True) ∧ SV.denL [fnV (81 : FuncId), fnV (82 : FuncId), fnV (83 : FuncId)] = SV.denL [SV.val (Value.func (Fn.func (81 : FuncId)) #[] #[]), SV.val (Value.func (Fn.func (82 : FuncId)) #[] #[]), SV.val (Value.func (Fn.func (83 : FuncId)) #[] #[])] ∧ (True ∧ True ∧ True ∧ True) ∧ True) ∧ (∀ (j_1 : Nat),
 j_1 < (led m true ((↑z : Int) + (1 : Int)).toNat).length → ∀ (z_1 : Nat), z_1 = j_1 ∧ (↑z : Int).toNat < m.1 ∧ m.2 (↑z : Int).toNat = (↑j : Int) ∧ pas true (m.va (↑z : Int).toNat) = true → (0 : Nat) < (1 : Nat) ∧ cnt m true j (↑z : Int).toNat + j_1 < (led m true j).length ∧ (↑((led m true ((↑z : Int) + (1 : Int)).toNat).getD j_1 (0 : Nat)) : Int) = (↑((led m true j).getD (cnt m true j (↑z : Int).toNat + j_1) (0 : Nat)) : Int) ∧ (∃ z_2, (z_2 = j_1.succ ∧ (↑z : Int).toNat < m.1 ∧ m.2 (↑z : Int).toNat = (↑j : Int) ∧ pas true (m.va (↑z : Int).toNat) = true) ∧ (cnt m true j (↑z : Int).toNat + j_1).succ = cnt m true j (↑z : Int).toNat + j_1.succ ∧ True) ∧ True) ∧ ∀ (z_1 : Nat), z_1 = (led m true ((↑z : Int) + (1 : Int)).toNat).length ∧ (↑z : Int).toNat < m.1 ∧ m.2 (↑z : Int).toNat = (↑j : Int) ∧ pas true (m.va (↑z : Int).toNat) = true → ((-9223372036854775808 : Int) ≤ (↑(↑z : Int).toNat : Int) + (1 : Int) ∧ (↑(↑z : Int).toNat : Int) + (1 : Int) ≤ (9223372036854775807 : Int)) ∧ ∃ z_2, z_2.le m.n ∧ m.1 - z_2 < m.1 - z ∧ cnt m true j (↑z : Int).toNat + (led m true ((↑z : Int) + (1 : Int)).toNat).length = cnt m true j z_2 ∧ SV.denL [i6 (↑j : Int)] = SV.denL [i6 (↑j : Int)] ∧ (True ∧ True) ∧ SV.denL [m.sv] = SV.denL [m.sv] ∧ ((∀ (i : Nat), i < m.1 → True ∧ True ∧ True ∧ True ∧ True) ∧ True) ∧ SV.denL [fnV (81 : FuncId), fnV (82 : FuncId), fnV (83 : FuncId)] = SV.denL [fnV (81 : FuncId), fnV (82 : FuncId), fnV (83 : FuncId)] ∧ (True ∧ True ∧ True ∧ True) ∧ (0 : Nat) = (0 : Nat) ∧ (0 : Nat) = (0 : Nat) ∧ m.1 = m.1 ∧ (∀ (i : Nat), i < m.1 → (SV.agg [i6 (m.fr i), i6 (m.dr i), i6 (m.va i), i6 (m.co i)]).den = (SV.agg [i6 (m.fr i), i6 (m.dr i), i6 (m.va i), i6 (m.co i)]).den ∧ True ∧ True ∧ True ∧ True ∧ True) ∧ (↑m.1 : Int) = (↑m.1 : Int) ∧ (↑(↑z : Int).toNat : Int) + (1 : Int) =
 (↑z_2 : Int) ∧ True))) ∧ (¬(↑z : Int) < (↑m.1 : Int) → cnt m true j z = (led m true j).length)) ∧ True) := by kernel_rfl
theorem led1F_vc (M : Nat) (m : Mn) (j : Nat) : led1F M m j = ((0 : Nat) < (1 : Nat) ∧ (0 : Nat) < (led m false j).length ∧ (↑j : Int) = (↑((led m false j).getD (0 : Nat) (0 : Nat)) : Int) ∧ ((∃ z, z.le m.n ∧ (1 : Nat) = cnt m false j z ∧ SV.denL [i6 (↑j : Int)] = SV.denL [i6 (↑j : Int)] ∧ (True ∧ True) ∧ SV.denL [m.sv] = SV.denL [m.sv] ∧ ((∀ (i : Nat), i < m.1 → True ∧ True ∧ True ∧ True ∧ True) ∧ True) ∧ SV.denL [fnV (82 : FuncId), fnV (81 : FuncId), fnV (87 : FuncId)] = SV.denL [fnV (82 : FuncId), fnV (81 : FuncId), fnV (87 : FuncId)] ∧ (True ∧ True ∧ True ∧ True) ∧ (0 : Nat) = (0 : Nat) ∧ (0 : Nat) = (0 : Nat) ∧ m.1 = m.1 ∧ (∀ (i : Nat), i < m.1 → (SV.agg [i6 (m.fr i), i6 (m.dr i), i6 (m.va i), i6 (m.co i)]).den = (SV.agg [i6 (m.fr i), i6 (m.dr i), i6 (m.va i), i6 (m.co i)]).den ∧ True ∧ True ∧ True ∧ True ∧ True) ∧ (↑m.1 : Int) = (↑m.1 : Int) ∧ (0 : Int) = (↑z : Int) ∧ True) ∧ ∀ (z : Nat), z.le m.n → ((↑z : Int) < (↑m.1 : Int) → (0 : Int) ≤ (↑z : Int) ∧ (↑z : Int) < (↑m.1 : Int) ∧ (0 : Nat) < (1 : Nat) ∧ (¬m.2 (↑z : Int).toNat = (↑j : Int) → ((-9223372036854775808 : Int) ≤ (↑z : Int) + (1 : Int) ∧ (↑z : Int) + (1 : Int) ≤ (9223372036854775807 : Int)) ∧ ∃ z_1, z_1.le m.n ∧ m.1 - z_1 < m.1 - z ∧ cnt m false j z = cnt m false j z_1 ∧ SV.denL [i6 (↑j : Int)] = SV.denL [i6 (↑j : Int)] ∧ (True ∧ True) ∧ SV.denL [m.sv] = SV.denL [m.sv] ∧ ((∀ (i : Nat), i < m.1 → True ∧ True ∧ True ∧ True ∧ True) ∧ True) ∧ SV.denL [fnV (82 : FuncId), fnV (81 : FuncId), fnV (87 : FuncId)] = SV.denL [fnV (82 : FuncId), fnV (81 : FuncId), fnV (87 : FuncId)] ∧ (True ∧ True ∧ True ∧ True) ∧ (0 : Nat) = (0 : Nat) ∧ (0 : Nat) = (0 : Nat) ∧ m.1 = m.1 ∧ (∀ (i : Nat), i < m.1 → (SV.agg [i6 (m.fr i), i6 (m.dr i), i6 (m.va i), i6 (m.co i)]).den = (SV.agg [i6 (m.fr i), i6 (m.dr i), i6 (m.va i),
 i6 (m.co i)]).den ∧ True ∧ True ∧ True ∧ True ∧ True) ∧ (↑m.1 : Int) = (↑m.1 : Int) ∧ (↑z : Int) + (1 : Int) = (↑z_1 : Int) ∧ True) ∧ (¬¬m.2 (↑z : Int).toNat = (↑j : Int) → (0 : Nat) < (1 : Nat) ∧ (¬m.4 (↑z : Int).toNat = (0 : Int) → ((-9223372036854775808 : Int) ≤ (↑z : Int) + (1 : Int) ∧ (↑z : Int) + (1 : Int) ≤ (9223372036854775807 : Int)) ∧ ∃ z_1, z_1.le m.n ∧ m.1 - z_1 < m.1 - z ∧ cnt m false j z = cnt m false j z_1 ∧ SV.denL [i6 (↑j : Int)] = SV.denL [i6 (↑j : Int)] ∧ (True ∧ True) ∧ SV.denL [m.sv] = SV.denL [m.sv] ∧ ((∀ (i : Nat), i < m.1 → True ∧ True ∧ True ∧ True ∧ True) ∧ True) ∧ SV.denL [fnV (82 : FuncId), fnV (81 : FuncId), fnV (87 : FuncId)] = SV.denL [fnV (82 : FuncId), fnV (81 : FuncId), fnV (87 : FuncId)] ∧ (True ∧ True ∧ True ∧ True) ∧ (0 : Nat) = (0 : Nat) ∧ (0 : Nat) = (0 : Nat) ∧ m.1 = m.1 ∧ (∀ (i : Nat), i < m.1 → (SV.agg [i6 (m.fr i), i6 (m.dr i), i6 (m.va i), i6 (m.co i)]).den = (SV.agg [i6 (m.fr i), i6 (m.dr i), i6 (m.va i), i6 (m.co i)]).den ∧ True ∧ True ∧ True ∧ True ∧ True) ∧ (↑m.1 : Int) = (↑m.1 : Int) ∧ (↑z : Int) + (1 : Int) = (↑z_1 : Int) ∧ True) ∧ (¬¬m.4 (↑z : Int).toNat = (0 : Int) → ((-9223372036854775808 : Int) ≤ (↑z : Int) + (1 : Int) ∧ (↑z : Int) + (1 : Int) ≤ (9223372036854775807 : Int)) ∧ (∀ (i : Nat), i < m.1 → True ∧ True ∧ True ∧ True ∧ True) ∧ SV.agg [SV.val (Value.func (Fn.func (82 : FuncId)) #[] #[]), SV.val (Value.func (Fn.func (81 : FuncId)) #[] #[]), SV.val (Value.func (Fn.func (87 : FuncId)) #[] #[])] = endV false ∧ m.sv = m.sv ∧ (∀ (i : Nat), i < m.1 → True ∧ True ∧ True ∧ True ∧ True) ∧ SV.ipt [SV.val (Value.func (Fn.func (82 : FuncId)) #[] #[]), SV.val (Value.func (Fn.func (81 : FuncId)) #[] #[]), SV.val (Value.func (Fn.func (87 : FuncId)) #[] #[])] = endP false ∧ m.sv = m.sv ∧ okJ m ((↑z : Int) + (1 : Int)) ∧
 m.1 + (1 : Nat) - ((↑z : Int) + (1 : Int)).toNat < M ∧ ((True ∧ True) ∧ ((∀ (i : Nat), i < m.1 → True ∧ True ∧ True ∧ True ∧ True) ∧ True) ∧ (True ∧ True ∧ True ∧ True) ∧ (∀ (i : Nat), i < m.1 → True ∧ True ∧ True ∧ True ∧ True) ∧ (True ∧ True) ∧ ((∀ (i : Nat), i < m.1 → True ∧ True ∧ True ∧ True ∧ True) ∧ True) ∧ (True ∧ True ∧ True ∧ True) ∧ ∃ z_1, (z_1 = (0 : Nat) ∧ (↑z : Int).toNat < m.1 ∧ m.2 (↑z : Int).toNat = (↑j : Int) ∧ pas false (m.va (↑z : Int).toNat) = true) ∧ cnt m false j z = cnt m false j (↑z : Int).toNat + (0 : Nat) ∧ SV.denL [i6 (↑j : Int)] = SV.denL [i6 (↑j : Int)] ∧ (True ∧ True) ∧ SV.denL [m.sv] = SV.denL [m.sv] ∧ ((∀ (i : Nat), i < m.1 → True ∧ True ∧ True ∧ True ∧ True) ∧ True) ∧ SV.denL [fnV (82 : FuncId), fnV (81 : FuncId), fnV (87 : FuncId)] = SV.denL [fnV (82 : FuncId), fnV (81 : FuncId), fnV (87 : FuncId)] ∧ (True ∧ True ∧ True ∧ True) ∧ (0 : Nat) = (0 : Nat) ∧ (0 : Nat) = (0 : Nat) ∧ m.1 = m.1 ∧ (∀ (i : Nat), i < m.1 → (SV.agg [i6 (m.fr i), i6 (m.dr i), i6 (m.va i), i6 (m.co i)]).den = (SV.agg [i6 (m.fr i), i6 (m.dr i), i6 (m.va i), i6 (m.co i)]).den ∧ True ∧ True ∧ True ∧ True ∧ True) ∧ (↑m.1 : Int) = (↑m.1 : Int) ∧ (↑z : Int) = (↑(↑z : Int).toNat : Int) ∧ Fn.func (98 : FuncId) = Fn.func (98 : FuncId) ∧ SV.denL [i6 ((↑z : Int) + (1 : Int))] = SV.denL [SV.int IntKind.i64 ((↑z : Int) + (1 : Int))] ∧ (True ∧ True) ∧ SV.denL [m.sv] = SV.denL [m.sv] ∧ ((∀ (i : Nat), i < m.1 → True ∧ True ∧ True ∧ True ∧ True) ∧ True) ∧ SV.denL [fnV (82 : FuncId), fnV (81 : FuncId), fnV (87 : FuncId)] = SV.denL [SV.val (Value.func (Fn.func (82 : FuncId)) #[] #[]), SV.val (Value.func (Fn.func (81 : FuncId)) #[] #[]), SV.val (Value.func (Fn.func (87 : FuncId)) #[] #[])] ∧ (True ∧ True ∧ True ∧ True) ∧ True) ∧ (∀ (j_1 : Nat),
 j_1 < (led m false ((↑z : Int) + (1 : Int)).toNat).length → ∀ (z_1 : Nat), z_1 = j_1 ∧ (↑z : Int).toNat < m.1 ∧ m.2 (↑z : Int).toNat = (↑j : Int) ∧ pas false (m.va (↑z : Int).toNat) = true → (0 : Nat) < (1 : Nat) ∧ cnt m false j (↑z : Int).toNat + j_1 < (led m false j).length ∧ (↑((led m false ((↑z : Int) + (1 : Int)).toNat).getD j_1 (0 : Nat)) : Int) = (↑((led m false j).getD (cnt m false j (↑z : Int).toNat + j_1) (0 : Nat)) : Int) ∧ (∃ z_2, (z_2 = j_1.succ ∧ (↑z : Int).toNat < m.1 ∧ m.2 (↑z : Int).toNat = (↑j : Int) ∧ pas false (m.va (↑z : Int).toNat) = true) ∧ (cnt m false j (↑z : Int).toNat + j_1).succ = cnt m false j (↑z : Int).toNat + j_1.succ ∧ True) ∧ True) ∧ ∀ (z_1 : Nat), z_1 = (led m false ((↑z : Int) + (1 : Int)).toNat).length ∧ (↑z : Int).toNat < m.1 ∧ m.2 (↑z : Int).toNat = (↑j : Int) ∧ pas false (m.va (↑z : Int).toNat) = true → ((-9223372036854775808 : Int) ≤ (↑(↑z : Int).toNat : Int) + (1 : Int) ∧ (↑(↑z : Int).toNat : Int) + (1 : Int) ≤ (9223372036854775807 : Int)) ∧ ∃ z_2, z_2.le m.n ∧ m.1 - z_2 < m.1 - z ∧ cnt m false j (↑z : Int).toNat + (led m false ((↑z : Int) + (1 : Int)).toNat).length = cnt m false j z_2 ∧ SV.denL [i6 (↑j : Int)] = SV.denL [i6 (↑j : Int)] ∧ (True ∧ True) ∧ SV.denL [m.sv] = SV.denL [m.sv] ∧ ((∀ (i : Nat), i < m.1 → True ∧ True ∧ True ∧ True ∧ True) ∧ True) ∧ SV.denL [fnV (82 : FuncId), fnV (81 : FuncId), fnV (87 : FuncId)] = SV.denL [fnV (82 : FuncId), fnV (81 : FuncId), fnV (87 : FuncId)] ∧ (True ∧ True ∧ True ∧ True) ∧ (0 : Nat) = (0 : Nat) ∧ (0 : Nat) = (0 : Nat) ∧ m.1 = m.1 ∧ (∀ (i : Nat), i < m.1 → (SV.agg [i6 (m.fr i), i6 (m.dr i), i6 (m.va i), i6 (m.co i)]).den = (SV.agg [i6 (m.fr i), i6 (m.dr i), i6 (m.va i), i6 (m.co i)]).den ∧ True ∧ True ∧ True ∧ True ∧ True) ∧ (↑m.1 : Int) = (↑m.1 : Int) ∧ (↑(↑z : Int).toNat : Int) +
 (1 : Int) = (↑z_2 : Int) ∧ True))) ∧ (¬(↑z : Int) < (↑m.1 : Int) → cnt m false j z = (led m false j).length)) ∧ True) := by kernel_rfl
end Go.Proofs.Ytpannbkmpbioiaa

set_option linter.unusedVariables false
namespace Go.Proofs.Ytpannbkmpbioiaa
open Go Go.Lg
attribute [local irreducible] bodyH
theorem chk_true (w : Nw) (z : Int) : chkG w z := by
  rw [chkG_vc]
  simp only [and_true, true_and, Nat.zero_lt_one, implies_true, Classical.not_not]
  refine ⟨fun h => by simp [chkN, h], fun h => ⟨fun h1 => ?_, fun h1 => ⟨fun h2 => ?_, fun h2 => ?_⟩⟩⟩
  · simp only [chkN, h, if_true]; rw [if_neg (by omega)]
  · simp only [chkN, h, if_true]; rw [if_neg (by omega)]
  · simp only [chkN, h, if_true]; rw [if_pos (by omega)]
theorem way_dep {m : Mn} {z : Int} (h : okJ m z) : ∀ i, i < dpt m z.toNat z.toNat → 0 < up m z.toNat i ∧ up m z.toNat i ≤ m.n := fun i hi => by
  have hz := h.hz
  obtain ⟨h1, h2, h3⟩ := way_at h.hm z.toNat z.toNat (Nat.le_refl _) (by omega) i (by omega)
  omega
theorem fed_true {m : Mn} {z : Int} (h : okJ m z) : fedG m z := by
  rw [fedG_vc]
  have hw := way_dep h
  simp only [and_true, true_and, Nat.zero_lt_one, implies_true]
  refine ⟨h, ⟨0, ⟨rfl, fun k hk => by omega⟩, ?_⟩, fun j hj z1 hz1 => ?_, fun z1 hz1 => ?_⟩
  · simp [stt]
  · obtain ⟨rfl, hz1⟩ := hz1
    obtain ⟨h1, h2⟩ := hw z1 hj
    have e : ((up m z.toNat z1 : Int) - 1).toNat = up m z.toNat z1 - 1 := by omega
    rw [e]
    refine ⟨by omega, by omega, fun h3 => ?_, fun h3 => ⟨fun h4 => ⟨z1 + 1, ⟨rfl, to_succ hz1 h3⟩, ?_⟩, fun h4 => ⟨z1 + 1, ⟨rfl, to_succ hz1 h3⟩, ?_⟩⟩⟩
    · unfold fedS; rw [if_pos ⟨z1, hj, h3⟩]
    · unfold stt; rw [if_pos ⟨z1, by omega, h4⟩]
    · unfold stt
      congr 1
      apply propext
      exact ⟨fun ⟨k, hk, hv⟩ => ⟨k, by omega, hv⟩, fun ⟨k, hk, hv⟩ => ⟨k, by
        rcases Nat.lt_succ_iff_lt_or_eq.1 hk with h' | rfl
        · exact h'
        · exact absurd hv h4, hv⟩⟩
  · obtain ⟨rfl, hz1⟩ := hz1
    unfold fedS; rw [if_neg (fun ⟨k, hk, hv⟩ => hz1 k hk hv)]
theorem opn_true {m : Mn} {z : Int} (h : okJ m z) : opnG m z := by
  rw [opnG_vc]
  have hw := way_dep h
  have hn := h.hn
  simp only [and_true, true_and, Nat.zero_lt_one, implies_true, Int.toNat_natCast, Nat.add_zero, Nat.zero_add, ite_self]
  refine ⟨by omega, by omega, by omega, by omega, h, ⟨0, rfl, fun i hi => ?_⟩, fun j hj z1 hz1 => ?_, fun z1 hz1 => ?_⟩
  · simp [vaT]
  · subst hz1
    obtain ⟨h1, h2⟩ := hw z1 hj
    have e : ((up m z.toNat z1 : Int) - 1).toNat = up m z.toNat z1 - 1 := by omega
    rw [e]
    refine ⟨by omega, by omega, by omega, by omega, z1 + 1, rfl, fun i hi => ?_⟩
    unfold vaT
    by_cases h3 : i = up m z.toNat z1 - 1
    · rw [if_pos h3, if_pos ⟨z1, by omega, h3.symm⟩]
    · rw [if_neg h3]
      congr 1
      apply propext
      exact ⟨fun ⟨k, hk, hv⟩ => ⟨k, by omega, hv⟩, fun ⟨k, hk, hv⟩ => ⟨k, by
        rcases Nat.lt_succ_iff_lt_or_eq.1 hk with h' | rfl
        · exact h'
        · exact absurd hv.symm h3, hv⟩⟩
  · subst hz1
    exact ⟨by omega, fun i hi => rfl⟩
theorem lo_true (x y : Int) : loG x y := by rw [loG_vc]; simp
theorem hi_true (x y : Int) : hiG x y := by rw [hiG_vc]; simp
theorem pasT_true (v : Int) : pasTG v := by rw [pasTG_vc]; simp
theorem pasF_true (v : Int) : pasFG v := by rw [pasFG_vc]; simp
theorem endT_true : endTG := by rw [endTG_vc]; exact ⟨Nat.one_pos, rfl, rfl, rfl, trivial⟩
theorem endF_true : endFG := by rw [endFG_vc]; exact ⟨Nat.one_pos, rfl, rfl, rfl, trivial⟩
theorem gov_true (a b c d g p : Int) : govG a b c d g p := by
  rw [govG_vc]
  refine ⟨Nat.one_pos, fun h => ⟨by simp [govd, h], trivial⟩, fun h => ⟨Nat.one_pos, by simp [govd, h], trivial⟩⟩
theorem ledT_true (m : Mn) (z : Int) : ledTG m z := by rw [ledTG_vc]; simp
theorem ledF_true (m : Mn) (z : Int) : ledFG m z := by rw [ledFG_vc]; simp
end Go.Proofs.Ytpannbkmpbioiaa
