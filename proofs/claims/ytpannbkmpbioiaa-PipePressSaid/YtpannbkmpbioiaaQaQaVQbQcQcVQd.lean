import Derived.ProofKit
import Derived.Test.YtpannbkmpbioiaaProg
import Derived.Test.YtpannbkmpbioiaaPfPgPh
set_option linter.unusedVariables false
namespace Go.Proofs.Ytpannbkmpbioiaa
open Go Go.Lg
theorem mixed : Try.prog.follows .mixedOrders = true := by kernel_rfl
/-- mains, junctions, a network -/
structure Mn where
  n : Nat
  fr : Nat → Int
  dr : Nat → Int
  va : Nat → Int
  co : Nat → Int
structure Jn where
  n : Nat
  nl : Nat → Int
  nh : Nat → Int
  le : Nat → Int
  mo : Nat → Int
  go : Nat → Int
structure Nw where
  s0 : Int
  s1 : Int
  j : Jn
  m : Mn
def Mn.sv (m : Mn) : SV := .lst 4 m.n fun k => .agg [i6 (m.fr k), i6 (m.dr k), i6 (m.va k), i6 (m.co k)]
def Jn.sv (j : Jn) : SV := .lst 5 j.n fun k => .agg [i6 (j.nl k), i6 (j.nh k), i6 (j.le k), i6 (j.mo k), i6 (j.go k)]
def Nw.sv (w : Nw) : SV := .agg [i6 w.s0, i6 w.s1, w.j.sv, w.m.sv]
def mOf (x : SV) : Mn := ⟨lenV x, fun k => prI (nth' (cells' (eltV x k)) 0), fun k => prI (nth' (cells' (eltV x k)) 1), fun k => prI (nth' (cells' (eltV x k)) 2), fun k => prI (nth' (cells' (eltV x k)) 3)⟩
def jOf (x : SV) : Jn := ⟨lenV x, fun k => prI (nth' (cells' (eltV x k)) 0), fun k => prI (nth' (cells' (eltV x k)) 1), fun k => prI (nth' (cells' (eltV x k)) 2), fun k => prI (nth' (cells' (eltV x k)) 3), fun k => prI (nth' (cells' (eltV x k)) 4)⟩
def wOf (x : SV) : Nw := ⟨prI (nth' (cells' x) 0), prI (nth' (cells' x) 1), jOf (nth' (cells' x) 2), mOf (nth' (cells' x) 3)⟩
theorem mOf_sv (m : Mn) : mOf m.sv = m := rfl
theorem jOf_sv (m : Jn) : jOf m.sv = m := rfl
theorem wOf_sv (w : Nw) : wOf w.sv = w := rfl
theorem mOf_lst (m : Mn) : mOf (.lst 4 m.n fun k => .agg [i6 (m.fr k), i6 (m.dr k), i6 (m.va k), i6 (m.co k)]) = m := rfl
theorem jOf_lst (j : Jn) : jOf (.lst 5 j.n fun k => .agg [i6 (j.nl k), i6 (j.nh k), i6 (j.le k), i6 (j.mo k), i6 (j.go k)]) = j := rfl
theorem m_fold (m : Mn) : (SV.lst 4 m.n fun k => .agg [i6 (m.fr k), i6 (m.dr k), i6 (m.va k), i6 (m.co k)]) = m.sv := rfl
theorem j_fold (j : Jn) : (SV.lst 5 j.n fun k => .agg [i6 (j.nl k), i6 (j.nh k), i6 (j.le k), i6 (j.mo k), i6 (j.go k)]) = j.sv := rfl
theorem w_fold (w : Nw) : SV.agg [i6 w.s0, i6 w.s1, w.j.sv, w.m.sv] = w.sv := rfl
/-- the way from a junction to the works -/
def up (m : Mn) (j : Nat) : Nat → Nat
  | 0 => j
  | i + 1 => (m.fr (up m j i - 1)).toNat
def dpt (m : Mn) : Nat → Nat → Nat
  | 0, _ => 0
  | F + 1, j => if j = 0 then 0 else 1 + dpt m F (m.fr (j - 1)).toNat
/-- each main comes from a junction before -/
def okM (m : Mn) : Prop := ∀ k, k < m.n → 0 ≤ m.fr k ∧ m.fr k ≤ k
structure okW (m : Mn) (j N : Nat) : Prop where
  hm : okM m
  hj : j ≤ m.n
  hN : N = dpt m j j
/-- simple ones -/
noncomputable def isFromG (n a b : Int) : Prop := funH Try.prog (ctrs []) noX (ictrs []) noL noL 62 [i6 n, i6 a, i6 b] (.dec (a ≤ n ∧ n ≤ b) inferInstance)
noncomputable def inG (n a b : Int) : Prop := funH Try.prog (ctrs []) noX (ictrs []) noL noL 35 [i6 n, i6 a, i6 b] (.dec (a ≤ n ∧ n ≤ b) inferInstance)
noncomputable def way1G (m : Mn) (j N : Nat) : Prop := itH Try.prog (ctrs []) noX (ictrs [])
  (oneL 0 (natH (fun i => i ≤ N) (fun i => N - i) 1 (fun i => mkF 19 [(0, .yld 0), (1, .ipt [i6 j]), (2, .ipt [m.sv]), (4, i6 (up m j i))]) (fun _ => ⟨1, .nil⟩) fun i => some i)) noL 79 [] [.ipt [i6 j], .ipt [m.sv]] N fun i => [i6 ((up m j i : Int) - 1)]
noncomputable def wayG (m : Mn) (j : Int) : Prop := funH Try.prog (ctrs []) noX (ictrs []) noL noL 56 [m.sv, i6 j] (.clo (.func 79) [] [.ipt [i6 j], .ipt [m.sv]])
end Go.Proofs.Ytpannbkmpbioiaa

set_option linter.unusedVariables false
set_option maxRecDepth 100000
namespace Go.Proofs.Ytpannbkmpbioiaa
open Go Go.Lg
theorem isFromG_vc (n : Int) (a : Int) (b : Int) : isFromG n a b =
 ((a ≤ n → (n ≤ b ↔ a ≤ n ∧ n ≤ b) ∧ True) ∧ (¬a ≤ n → (false = true ↔ a ≤ n ∧ n ≤ b) ∧ True)) := by kernel_rfl
theorem inG_vc (n : Int) (a : Int) (b : Int) : inG n a b =
 ((a ≤ n → (n ≤ b ↔ a ≤ n ∧ n ≤ b) ∧ True) ∧ (¬a ≤ n → (false = true ↔ a ≤ n ∧ n ≤ b) ∧ True)) := by kernel_rfl
theorem way1G_vc (m : Mn) (j : Nat) (N : Nat) : way1G m j N =
 ((∃ z,
    z.le N ∧
      (0 : Nat) = z ∧
        SV.denL [i6 (↑j : Int)] = SV.denL [i6 (↑j : Int)] ∧
          (True ∧ True) ∧
            SV.denL [m.sv] = SV.denL [m.sv] ∧
              ((∀ (i : Nat), i < m.1 → True ∧ True ∧ True ∧ True ∧ True) ∧ True) ∧
                (↑j : Int) = (↑(up m j z) : Int) ∧ True) ∧
  ∀ (z : Nat),
    z.le N →
      ((0 : Int) < (↑(up m j z) : Int) →
          ((-9223372036854775808 : Int) ≤ (↑(up m j z) : Int) - (1 : Int) ∧
              (↑(up m j z) : Int) - (1 : Int) ≤ (9223372036854775807 : Int)) ∧
            z < N ∧
              (↑(up m j z) : Int) - (1 : Int) = (↑(up m j z) : Int) - (1 : Int) ∧
                (((-9223372036854775808 : Int) ≤ (↑(up m j z) : Int) - (1 : Int) ∧
                      (↑(up m j z) : Int) - (1 : Int) ≤ (9223372036854775807 : Int)) ∧
                    (0 : Int) ≤ (↑(up m j z) : Int) - (1 : Int) ∧
                      (↑(up m j z) : Int) - (1 : Int) < (↑m.1 : Int) ∧
                        ∃ z_1,
                          z_1.le N ∧
                            N - z_1 < N - z ∧
                              z.succ = z_1 ∧
                                SV.denL [i6 (↑j : Int)] = SV.denL [i6 (↑j : Int)] ∧
                                  (True ∧ True) ∧
                                    SV.denL [m.sv] = SV.denL [m.sv] ∧
                                      ((∀ (i : Nat), i < m.1 → True ∧ True ∧ True ∧ True ∧ True) ∧ True) ∧
                                        m.2 ((↑(up m j z) : Int) - (1 : Int)).toNat = (↑(up m j z_1) : Int) ∧ True) ∧
                  True) ∧
        (¬(0 : Int) < (↑(up m j z) : Int) → z = N)) := by kernel_rfl
theorem wayG_vc (m : Mn) (j : Int) : wayG m j =
 ((0 : Nat) < (1 : Nat) ∧
  j = j ∧
    (0 : Nat) < (1 : Nat) ∧
      m.1 = m.1 ∧
        (∀ (i : Nat),
            i < m.1 →
              (SV.agg [i6 (m.fr i), i6 (m.dr i), i6 (m.va i), i6 (m.co i)]).den =
                  (SV.agg [i6 (m.fr i), i6 (m.dr i), i6 (m.va i), i6 (m.co i)]).den ∧
                True ∧ True ∧ True ∧ True ∧ True) ∧
          True) := by kernel_rfl
end Go.Proofs.Ytpannbkmpbioiaa

set_option linter.unusedVariables false
namespace Go.Proofs.Ytpannbkmpbioiaa
open Go Go.Lg
attribute [local irreducible] bodyH
theorem isFrom_true (n a b : Int) : isFromG n a b := by
  rw [isFromG_vc]
  exact ⟨fun h => by simp [h], fun h => by simp [h]⟩
theorem in_true (n a b : Int) : inG n a b := by
  rw [inG_vc]
  exact ⟨fun h => by simp [h], fun h => by simp [h]⟩
/-- how it stands on the way -/
theorem way_at {m : Mn} (hm : okM m) : ∀ (F j : Nat), j ≤ F → j ≤ m.n → ∀ i, i ≤ dpt m F j → up m j i ≤ j ∧ (up m j i = 0 ↔ i = dpt m F j) ∧ (i < dpt m F j → up m j (i + 1) < up m j i)
  | 0, j, h, hn, i, hi => by
    have : j = 0 := by omega
    subst this
    have : i = 0 := by simpa [dpt] using hi
    subst this
    simp [up, dpt]
  | F + 1, j, h, hn, i, hi => by
    by_cases hj : j = 0
    · subst hj
      have : i = 0 := by simpa [dpt] using hi
      subst this
      simp [up, dpt]
    · have e : dpt m (F + 1) j = 1 + dpt m F (m.fr (j - 1)).toNat := by simp [dpt, hj]
      have hb := hm (j - 1) (by omega)
      have hlt : (m.fr (j - 1)).toNat < j := by omega
      have sh : ∀ i, up m j (i + 1) = up m (m.fr (j - 1)).toNat i := by
        intro i
        induction i with
        | zero => rfl
        | succ i ih => show (m.fr (up m j (i + 1) - 1)).toNat = _; rw [ih]; rfl
      rw [e] at hi ⊢
      cases i with
      | zero =>
        refine ⟨by simp [up], ⟨fun h => by simp [up] at h; omega, fun h => by omega⟩, fun _ => ?_⟩
        rw [sh]; simp only [up]; omega
      | succ i =>
        have ih := way_at hm F (m.fr (j - 1)).toNat (by omega) (by omega) i (by omega)
        rw [sh, sh]
        exact ⟨by omega, by omega, fun h => ih.2.2 (by omega)⟩
theorem way1_true {m : Mn} {j N : Nat} (h : okW m j N) (hn : m.n ≤ 1000) : way1G m j N := by
  rw [way1G_vc]
  obtain ⟨hm, hj, hN⟩ := h
  have hw := way_at hm j j (Nat.le_refl _) hj
  rw [← hN] at hw
  simp only [and_true, true_and, implies_true]
  refine ⟨⟨0, Nat.zero_le _, rfl, by simp [up]⟩, fun z hz => ⟨fun h => ?_, fun h => ?_⟩⟩
  · have hz : z ≤ N := hz
    obtain ⟨h1, h2, h3⟩ := hw z hz
    have hlt : z < N := by omega
    have hb := hm (up m j z - 1) (by omega)
    refine ⟨by omega, hlt, by omega, by omega, by omega, z + 1, hlt, by omega, rfl, ?_⟩
    have e : ((up m j z : Int) - 1).toNat = up m j z - 1 := by omega
    rw [e]
    show m.fr (up m j z - 1) = (((m.fr (up m j z - 1)).toNat : Nat) : Int)
    omega
  · have hz : z ≤ N := hz
    obtain ⟨h1, h2, h3⟩ := hw z hz
    omega
theorem way_true (m : Mn) (j : Int) : wayG m j := by
  rw [wayG_vc]
  simp
end Go.Proofs.Ytpannbkmpbioiaa

set_option linter.unusedVariables false
namespace Go.Proofs.Ytpannbkmpbioiaa
open Go Go.Lg
structure okJn (nl nh le mo go : Int) : Prop where
  need : 0 ≤ nl ∧ nl ≤ nh ∧ nh ≤ 1000000
  press : -1099511627776 ≤ le ∧ le ≤ mo ∧ mo ≤ 1099511627776
  gov : go = -1 ∨ (0 ≤ go ∧ go ≤ 1099511627776)
structure okMa (fr dr va co : Int) (k : Int) : Prop where
  fr : 0 ≤ fr ∧ fr ≤ k
  dr : 0 ≤ dr ∧ dr ≤ 1000
  va : va = 0 ∨ va = 1 ∨ va = 2
  co : 1 ≤ co ∧ co ≤ 1000000
structure okNet (w : Nw) : Prop where
  src : 0 ≤ w.s0 ∧ w.s0 ≤ w.s1 ∧ w.s1 ≤ 1099511627776
  n : 1 ≤ w.j.n ∧ w.j.n ≤ 9 ∧ w.m.n + 1 = w.j.n
  js : ∀ i, i < w.j.n → okJn (w.j.nl i) (w.j.nh i) (w.j.le i) (w.j.mo i) (w.j.go i)
  ms : ∀ k, k < w.m.n → okMa (w.m.fr k) (w.m.dr k) (w.m.va k) (w.m.co k) k
def fromC (g : FuncId) : Ctr := ⟨g, fun args k => match args with
  | [.int .i64 n, .int .i64 a, .int .i64 b] => k (.dec (a ≤ n ∧ n ≤ b) inferInstance)
  | _ => False⟩
def spanC (g : FuncId) : Ctr := ⟨g, fun args k => match args with
  | [.agg [.int .i64 x, .int .i64 y], .int .i64 b] => k (.dec (0 ≤ x ∧ x ≤ y ∧ y ≤ b) inferInstance)
  | _ => False⟩
def junC : Ctr := ⟨63, fun args k => match args with
  | [.agg [.int .i64 a, .int .i64 b, .int .i64 c, .int .i64 d, .int .i64 e]] => k (.dec (okJn a b c d e) (Classical.propDecidable _))
  | _ => False⟩
def maiC : Ctr := ⟨64, fun args k => match args with
  | [.agg [.int .i64 a, .int .i64 b, .int .i64 c, .int .i64 d], .int .i64 e] => k (.dec (okMa a b c d e) (Classical.propDecidable _))
  | _ => False⟩
noncomputable def cs0 : CSpec := ctrs [fromC 62, fromC 35]
noncomputable def cs1 : CSpec := ctrs [fromC 62, fromC 35, spanC 61, spanC 48]
noncomputable def cs2 : CSpec := ctrs [fromC 62, fromC 35, spanC 61, spanC 48, junC, maiC]
noncomputable def vspanG (x y b : Int) : Prop := funH Try.prog cs0 noX (ictrs []) noL noL 61 [.agg [i6 x, i6 y], i6 b] (.dec (0 ≤ x ∧ x ≤ y ∧ y ≤ b) inferInstance)
noncomputable def rspanG (x y b : Int) : Prop := funH Try.prog cs0 noX (ictrs []) noL noL 48 [.agg [i6 x, i6 y], i6 b] (.dec (0 ≤ x ∧ x ≤ y ∧ y ≤ b) inferInstance)
noncomputable def vjunG (a b c d e : Int) : Prop := funH Try.prog cs1 noX (ictrs []) noL noL 63 [.agg [i6 a, i6 b, i6 c, i6 d, i6 e]] (.dec (okJn a b c d e) (Classical.propDecidable _))
noncomputable def vmaiG (a b c d e : Int) : Prop := funH Try.prog cs1 noX (ictrs []) noL noL 64 [.agg [i6 a, i6 b, i6 c, i6 d], i6 e] (.dec (okMa a b c d e) (Classical.propDecidable _))
def jsTo (w : Nw) (i : Nat) : Prop := ∀ k, k < i → okJn (w.j.nl k) (w.j.nh k) (w.j.le k) (w.j.mo k) (w.j.go k)
def msTo (w : Nw) (i : Nat) : Prop := ∀ k, k < i → okMa (w.m.fr k) (w.m.dr k) (w.m.va k) (w.m.co k) k
noncomputable def vnetG (w : Nw) : Prop := funH Try.prog cs2 noX (ictrs [])
  (twoL 0 (natH (fun i => i ≤ w.j.n ∧ jsTo w i) (fun i => w.j.n - i) 1 (fun i => mkF 52 [(1, .ptr 0 0 0), (2, .bool false), (29, w.j.sv), (30, i6 w.j.n), (31, i6 i)]) (fun _ => mkX [vr 4 w.sv]) fun _ => none)
  (oneL 2 (natH (fun i => i ≤ w.m.n ∧ jsTo w w.j.n ∧ msTo w i) (fun i => w.m.n - i) 1 (fun i => mkF 52 [(1, .ptr 0 0 0), (2, .bool false), (40, w.m.sv), (41, i6 w.m.n), (42, i6 i)]) (fun _ => mkX [vr 4 w.sv]) fun _ => none))) noL
  40 [w.sv] (.dec (okNet w) (Classical.propDecidable _))
noncomputable def rnetG (w : Nw) : Prop := funH Try.prog cs2 noX (ictrs [])
  (twoL 0 (natH (fun i => i ≤ w.j.n ∧ jsTo w i) (fun i => w.j.n - i) 1 (fun i => mkF 99 [(1, .ptr 0 0 0), (2, .bool false), (3, i6 i)]) (fun _ => mkX [vr 4 w.sv]) fun _ => none)
  (oneL 2 (natH (fun i => i ≤ w.m.n ∧ jsTo w w.j.n ∧ msTo w i) (fun i => w.m.n - i) 1 (fun i => mkF 99 [(1, .ptr 0 0 0), (2, .bool false), (5, i6 i)]) (fun _ => mkX [vr 4 w.sv]) fun _ => none))) noL
  23 [w.sv] (.dec (okNet w) (Classical.propDecidable _))
end Go.Proofs.Ytpannbkmpbioiaa

set_option linter.unusedVariables false
set_option maxRecDepth 100000
namespace Go.Proofs.Ytpannbkmpbioiaa
open Go Go.Lg
theorem vspanG_vc (x : Int) (y : Int) (b : Int) : vspanG x y b = ((0 : Nat) < (1 : Nat) ∧ (0 : Nat) < (1 : Nat) ∧ ((0 : Int) ≤ x ∧ x ≤ y → (0 : Nat) < (1 : Nat) ∧ (y ≤ b ↔ (0 : Int) ≤ x ∧ x ≤ y ∧ y ≤ b) ∧ True) ∧ (¬((0 : Int) ≤ x ∧ x ≤ y) → (false = true ↔ (0 : Int) ≤ x ∧ x ≤ y ∧ y ≤ b) ∧ True)) := by kernel_rfl
theorem rspanG_vc (x : Int) (y : Int) (b : Int) : rspanG x y b = ((0 : Nat) < (1 : Nat) ∧ ((0 : Int) ≤ x → (0 : Nat) < (1 : Nat) ∧ (0 : Nat) < (1 : Nat) ∧ (x ≤ y → (0 : Nat) < (1 : Nat) ∧ (y ≤ b ↔ (0 : Int) ≤ x ∧ x ≤ y ∧ y ≤ b) ∧ True) ∧ (¬x ≤ y → (false = true ↔ (0 : Int) ≤ x ∧ x ≤ y ∧ y ≤ b) ∧ True)) ∧ (¬(0 : Int) ≤ x → (false = true ↔ (0 : Int) ≤ x ∧ x ≤ y ∧ y ≤ b) ∧ True)) := by kernel_rfl
theorem vjunG_vc (a : Int) (b : Int) (c : Int) (d : Int) (e : Int) : vjunG a b c d e = ((0 : Nat) < (1 : Nat) ∧ ((0 : Int) ≤ a ∧ a ≤ b ∧ b ≤ (1000000 : Int) → (0 : Nat) < (1 : Nat) ∧ (0 : Nat) < (1 : Nat) ∧ ((-1099511627776 : Int) ≤ c ∧ c ≤ d → (0 : Nat) < (1 : Nat) ∧ (d ≤ (1099511627776 : Int) → (0 : Nat) < (1 : Nat) ∧ (e = (-1 : Int) → (true = true ↔ okJn a b c d e) ∧ True) ∧ (¬e = (-1 : Int) → (0 : Nat) < (1 : Nat) ∧ ((0 : Int) ≤ e ∧ e ≤ (1099511627776 : Int) ↔ okJn a b c d e) ∧ True)) ∧ (¬d ≤ (1099511627776 : Int) → (false = true ↔ okJn a b c d e) ∧ True)) ∧ (¬((-1099511627776 : Int) ≤ c ∧ c ≤ d) → (false = true ↔ okJn a b c d e) ∧ True)) ∧ (¬((0 : Int) ≤ a ∧ a ≤ b ∧ b ≤ (1000000 : Int)) → (false = true ↔ okJn a b c d e) ∧ True)) := by kernel_rfl
theorem vmaiG_vc (a : Int) (b : Int) (c : Int) (d : Int) (e : Int) : vmaiG a b c d e = ((0 : Nat) < (1 : Nat) ∧ ((0 : Int) ≤ a ∧ a ≤ e → (0 : Nat) < (1 : Nat) ∧ ((0 : Int) ≤ b ∧ b ≤ (1000 : Int) → (0 : Nat) < (1 : Nat) ∧ (c = (0 : Int) → (0 : Nat) < (1 : Nat) ∧ ((1 : Int) ≤ d ∧ d ≤ (1000000 : Int) ↔ okMa a b c d e) ∧ True) ∧ (¬c = (0 : Int) → (0 : Nat) < (1 : Nat) ∧ (c = (1 : Int) → (0 : Nat) < (1 : Nat) ∧ ((1 : Int) ≤ d ∧ d ≤ (1000000 : Int) ↔ okMa a b c d e) ∧ True) ∧ (¬c = (1 : Int) → (0 : Nat) < (1 : Nat) ∧ (c = (2 : Int) → (0 : Nat) < (1 : Nat) ∧ ((1 : Int) ≤ d ∧ d ≤ (1000000 : Int) ↔ okMa a b c d e) ∧ True) ∧ (¬c = (2 : Int) → (false = true ↔ okMa a b c d e) ∧ True)))) ∧ (¬((0 : Int) ≤ b ∧ b ≤ (1000 : Int)) → (false = true ↔ okMa a b c d e) ∧ True)) ∧ (¬((0 : Int) ≤ a ∧ a ≤ e) → (false = true ↔ okMa a b c d e) ∧ True)) := by kernel_rfl
theorem vnetG_vc (w : Nw) : vnetG w = ((0 : Nat) < (1 : Nat) ∧ (¬((0 : Int) ≤ w.1 ∧ w.1 ≤ w.2 ∧ w.2 ≤ (1099511627776 : Int)) → (false = true ↔ okNet w) ∧ True) ∧ (¬¬((0 : Int) ≤ w.1 ∧ w.1 ≤ w.2 ∧ w.2 ≤ (1099511627776 : Int)) → (0 : Nat) < (1 : Nat) ∧ (¬((1 : Int) ≤ (↑w.j.1 : Int) ∧ (↑w.j.1 : Int) ≤ (9 : Int)) → (false = true ↔ okNet w) ∧ True) ∧ (¬¬((1 : Int) ≤ (↑w.j.1 : Int) ∧ (↑w.j.1 : Int) ≤ (9 : Int)) → (0 : Nat) < (1 : Nat) ∧ (0 : Nat) < (1 : Nat) ∧ ((-9223372036854775808 : Int) ≤ (↑w.j.1 : Int) - (1 : Int) ∧ (↑w.j.1 : Int) - (1 : Int) ≤ (9223372036854775807 : Int)) ∧ (¬(↑w.m.1 : Int) = (↑w.j.1 : Int) - (1 : Int) → (false = true ↔ okNet w) ∧ True) ∧ (¬¬(↑w.m.1 : Int) = (↑w.j.1 : Int) - (1 : Int) → (0 : Nat) < (1 : Nat) ∧ (∃ z, (z ≤ w.j.1 ∧ jsTo w z) ∧ (0 : Nat) = (0 : Nat) ∧ (0 : Nat) = (0 : Nat) ∧ false = false ∧ w.j.1 = w.j.1 ∧ (∀ (i : Nat), i < w.j.1 → (SV.agg [i6 (w.j.nl i), i6 (w.j.nh i), i6 (w.j.le i), i6 (w.j.mo i), i6 (w.j.go i)]).den = (SV.agg [i6 (w.j.nl i), i6 (w.j.nh i), i6 (w.j.le i), i6 (w.j.mo i), i6 (w.j.go i)]).den ∧ True ∧ True ∧ True ∧ True ∧ True ∧ True) ∧ (↑w.j.1 : Int) = (↑w.j.1 : Int) ∧ (0 : Int) = (↑z : Int) ∧ w.1 = w.1 ∧ w.2 = w.2 ∧ w.j.1 = w.j.1 ∧ (∀ (i : Nat), i < w.j.1 → (SV.agg [i6 (w.j.nl i), i6 (w.j.nh i), i6 (w.j.le i), i6 (w.j.mo i), i6 (w.j.go i)]).den = (SV.agg [i6 (w.j.nl i), i6 (w.j.nh i), i6 (w.j.le i), i6 (w.j.mo i), i6 (w.j.go i)]).den ∧ True ∧ True ∧ True ∧ True ∧ True ∧ True) ∧ w.m.1 = w.m.1 ∧ (∀ (i : Nat), i < w.m.1 → (SV.agg [i6 (w.m.fr i), i6 (w.m.dr i), i6 (w.m.va i), i6 (w.m.co i)]).den = (SV.agg [i6 (w.m.fr i), i6 (w.m.dr i), i6 (w.m.va i), i6 (w.m.co i)]).den ∧ True ∧ True ∧ True ∧ True ∧ True) ∧ True) ∧ ∀ (z : Nat), z ≤ w.j.1 ∧ jsTo w z → ((↑z : Int) < (↑w.j.1 : Int) → (0 : Int) ≤ (↑z : Int) ∧
 (↑z : Int) < (↑w.j.1 : Int) ∧ (0 : Nat) < (1 : Nat) ∧ (¬okJn (w.j.nl (↑z : Int).toNat) (w.j.nh (↑z : Int).toNat) (w.j.le (↑z : Int).toNat) (w.j.mo (↑z : Int).toNat) (w.j.go (↑z : Int).toNat) → (false = true ↔ okNet w) ∧ True) ∧ (¬¬okJn (w.j.nl (↑z : Int).toNat) (w.j.nh (↑z : Int).toNat) (w.j.le (↑z : Int).toNat) (w.j.mo (↑z : Int).toNat) (w.j.go (↑z : Int).toNat) → ((-9223372036854775808 : Int) ≤ (↑z : Int) + (1 : Int) ∧ (↑z : Int) + (1 : Int) ≤ (9223372036854775807 : Int)) ∧ ∃ z_1, (z_1 ≤ w.j.1 ∧ jsTo w z_1) ∧ w.j.1 - z_1 < w.j.1 - z ∧ (0 : Nat) = (0 : Nat) ∧ (0 : Nat) = (0 : Nat) ∧ false = false ∧ w.j.1 = w.j.1 ∧ (∀ (i : Nat), i < w.j.1 → (SV.agg [i6 (w.j.nl i), i6 (w.j.nh i), i6 (w.j.le i), i6 (w.j.mo i), i6 (w.j.go i)]).den = (SV.agg [i6 (w.j.nl i), i6 (w.j.nh i), i6 (w.j.le i), i6 (w.j.mo i), i6 (w.j.go i)]).den ∧ True ∧ True ∧ True ∧ True ∧ True ∧ True) ∧ (↑w.j.1 : Int) = (↑w.j.1 : Int) ∧ (↑z : Int) + (1 : Int) = (↑z_1 : Int) ∧ w.1 = w.1 ∧ w.2 = w.2 ∧ w.j.1 = w.j.1 ∧ (∀ (i : Nat), i < w.j.1 → (SV.agg [i6 (w.j.nl i), i6 (w.j.nh i), i6 (w.j.le i), i6 (w.j.mo i), i6 (w.j.go i)]).den = (SV.agg [i6 (w.j.nl i), i6 (w.j.nh i), i6 (w.j.le i), i6 (w.j.mo i), i6 (w.j.go i)]).den ∧ True ∧ True ∧ True ∧ True ∧ True ∧ True) ∧ w.m.1 = w.m.1 ∧ (∀ (i : Nat), i < w.m.1 → (SV.agg [i6 (w.m.fr i), i6 (w.m.dr i), i6 (w.m.va i), i6 (w.m.co i)]).den = (SV.agg [i6 (w.m.fr i), i6 (w.m.dr i), i6 (w.m.va i), i6 (w.m.co i)]).den ∧ True ∧ True ∧ True ∧ True ∧ True) ∧ True)) ∧ (¬(↑z : Int) < (↑w.j.1 : Int) → (0 : Nat) < (1 : Nat) ∧ (∃ z, (z ≤ w.m.1 ∧ jsTo w w.j.n ∧ msTo w z) ∧ (0 : Nat) = (0 : Nat) ∧ (0 : Nat) = (0 : Nat) ∧ false = false ∧ w.m.1 = w.m.1 ∧ (∀ (i : Nat), i < w.m.1 → (SV.agg [i6 (w.m.fr i), i6 (w.m.dr i), i6 (w.m.va i), i6 (w.m.co i)]).den = (SV.agg
 [i6 (w.m.fr i), i6 (w.m.dr i), i6 (w.m.va i), i6 (w.m.co i)]).den ∧ True ∧ True ∧ True ∧ True ∧ True) ∧ (↑w.m.1 : Int) = (↑w.m.1 : Int) ∧ (0 : Int) = (↑z : Int) ∧ w.1 = w.1 ∧ w.2 = w.2 ∧ w.j.1 = w.j.1 ∧ (∀ (i : Nat), i < w.j.1 → (SV.agg [i6 (w.j.nl i), i6 (w.j.nh i), i6 (w.j.le i), i6 (w.j.mo i), i6 (w.j.go i)]).den = (SV.agg [i6 (w.j.nl i), i6 (w.j.nh i), i6 (w.j.le i), i6 (w.j.mo i), i6 (w.j.go i)]).den ∧ True ∧ True ∧ True ∧ True ∧ True ∧ True) ∧ w.m.1 = w.m.1 ∧ (∀ (i : Nat), i < w.m.1 → (SV.agg [i6 (w.m.fr i), i6 (w.m.dr i), i6 (w.m.va i), i6 (w.m.co i)]).den = (SV.agg [i6 (w.m.fr i), i6 (w.m.dr i), i6 (w.m.va i), i6 (w.m.co i)]).den ∧ True ∧ True ∧ True ∧ True ∧ True) ∧ True) ∧ ∀ (z : Nat), z ≤ w.m.1 ∧ jsTo w w.j.n ∧ msTo w z → ((↑z : Int) < (↑w.m.1 : Int) → (0 : Int) ≤ (↑z : Int) ∧ (↑z : Int) < (↑w.m.1 : Int) ∧ (0 : Nat) < (1 : Nat) ∧ (¬okMa (w.m.fr (↑z : Int).toNat) (w.m.dr (↑z : Int).toNat) (w.m.va (↑z : Int).toNat) (w.m.co (↑z : Int).toNat) (↑z : Int) → (false = true ↔ okNet w) ∧ True) ∧ (¬¬okMa (w.m.fr (↑z : Int).toNat) (w.m.dr (↑z : Int).toNat) (w.m.va (↑z : Int).toNat) (w.m.co (↑z : Int).toNat) (↑z : Int) → ((-9223372036854775808 : Int) ≤ (↑z : Int) + (1 : Int) ∧ (↑z : Int) + (1 : Int) ≤ (9223372036854775807 : Int)) ∧ ∃ z_1, (z_1 ≤ w.m.1 ∧ jsTo w w.j.n ∧ msTo w z_1) ∧ w.m.1 - z_1 < w.m.1 - z ∧ (0 : Nat) = (0 : Nat) ∧ (0 : Nat) = (0 : Nat) ∧ false = false ∧ w.m.1 = w.m.1 ∧ (∀ (i : Nat), i < w.m.1 → (SV.agg [i6 (w.m.fr i), i6 (w.m.dr i), i6 (w.m.va i), i6 (w.m.co i)]).den = (SV.agg [i6 (w.m.fr i), i6 (w.m.dr i), i6 (w.m.va i), i6 (w.m.co i)]).den ∧ True ∧ True ∧ True ∧ True ∧ True) ∧ (↑w.m.1 : Int) = (↑w.m.1 : Int) ∧ (↑z : Int) + (1 : Int) = (↑z_1 : Int) ∧ w.1 = w.1 ∧ w.2 = w.2 ∧ w.j.1 = w.j.1 ∧ (∀ (i : Nat), i < w.j.1 → (SV.agg [i6 (w.j.nl i),
 i6 (w.j.nh i), i6 (w.j.le i), i6 (w.j.mo i), i6 (w.j.go i)]).den = (SV.agg [i6 (w.j.nl i), i6 (w.j.nh i), i6 (w.j.le i), i6 (w.j.mo i), i6 (w.j.go i)]).den ∧ True ∧ True ∧ True ∧ True ∧ True ∧ True) ∧ w.m.1 = w.m.1 ∧ (∀ (i : Nat), i < w.m.1 → (SV.agg [i6 (w.m.fr i), i6 (w.m.dr i), i6 (w.m.va i), i6 (w.m.co i)]).den = (SV.agg [i6 (w.m.fr i), i6 (w.m.dr i), i6 (w.m.va i), i6 (w.m.co i)]).den ∧ True ∧ True ∧ True ∧ True ∧ True) ∧ True)) ∧ (¬(↑z : Int) < (↑w.m.1 : Int) → (true = true ↔ okNet w) ∧ True)))))) := by kernel_rfl
theorem rnetG_vc (w : Nw) : rnetG w = ((0 : Nat) < (1 : Nat) ∧ (¬((0 : Int) ≤ w.1 ∧ w.1 ≤ w.2 ∧ w.2 ≤ (1099511627776 : Int)) → (false = true ↔ okNet w) ∧ True) ∧ (¬¬((0 : Int) ≤ w.1 ∧ w.1 ≤ w.2 ∧ w.2 ≤ (1099511627776 : Int)) → (0 : Nat) < (1 : Nat) ∧ (¬((1 : Int) ≤ (↑w.j.1 : Int) ∧ (↑w.j.1 : Int) ≤ (9 : Int)) → (false = true ↔ okNet w) ∧ True) ∧ (¬¬((1 : Int) ≤ (↑w.j.1 : Int) ∧ (↑w.j.1 : Int) ≤ (9 : Int)) → (0 : Nat) < (1 : Nat) ∧ (0 : Nat) < (1 : Nat) ∧ ((-9223372036854775808 : Int) ≤ (↑w.j.1 : Int) - (1 : Int) ∧ (↑w.j.1 : Int) - (1 : Int) ≤ (9223372036854775807 : Int)) ∧ (¬(↑w.m.1 : Int) = (↑w.j.1 : Int) - (1 : Int) → (false = true ↔ okNet w) ∧ True) ∧ (¬¬(↑w.m.1 : Int) = (↑w.j.1 : Int) - (1 : Int) → (∃ z, (z ≤ w.j.1 ∧ jsTo w z) ∧ (0 : Nat) = (0 : Nat) ∧ (0 : Nat) = (0 : Nat) ∧ false = false ∧ (0 : Int) = (↑z : Int) ∧ w.1 = w.1 ∧ w.2 = w.2 ∧ w.j.1 = w.j.1 ∧ (∀ (i : Nat), i < w.j.1 → (SV.agg [i6 (w.j.nl i), i6 (w.j.nh i), i6 (w.j.le i), i6 (w.j.mo i), i6 (w.j.go i)]).den = (SV.agg [i6 (w.j.nl i), i6 (w.j.nh i), i6 (w.j.le i), i6 (w.j.mo i), i6 (w.j.go i)]).den ∧ True ∧ True ∧ True ∧ True ∧ True ∧ True) ∧ w.m.1 = w.m.1 ∧ (∀ (i : Nat), i < w.m.1 → (SV.agg [i6 (w.m.fr i), i6 (w.m.dr i), i6 (w.m.va i), i6 (w.m.co i)]).den = (SV.agg [i6 (w.m.fr i), i6 (w.m.dr i), i6 (w.m.va i), i6 (w.m.co i)]).den ∧ True ∧ True ∧ True ∧ True ∧ True) ∧ True) ∧ ∀ (z : Nat), z ≤ w.j.1 ∧ jsTo w z → (0 : Nat) < (1 : Nat) ∧ ((↑z : Int) < (↑w.j.1 : Int) → (0 : Nat) < (1 : Nat) ∧ (0 : Int) ≤ (↑z : Int) ∧ (↑z : Int) < (↑w.j.1 : Int) ∧ (0 : Nat) < (1 : Nat) ∧ (¬((0 : Int) ≤ w.j.2 (↑z : Int).toNat ∧ w.j.2 (↑z : Int).toNat ≤ w.j.3 (↑z : Int).toNat ∧ w.j.3 (↑z : Int).toNat ≤ (1000000 : Int)) → (false = true ↔ okNet w) ∧ True) ∧ (¬¬((0 : Int) ≤ w.j.2 (↑z : Int).toNat ∧
 w.j.2 (↑z : Int).toNat ≤ w.j.3 (↑z : Int).toNat ∧ w.j.3 (↑z : Int).toNat ≤ (1000000 : Int)) → (0 : Nat) < (1 : Nat) ∧ (¬((-1099511627776 : Int) ≤ w.j.5 (↑z : Int).toNat ∧ w.j.5 (↑z : Int).toNat ≤ (1099511627776 : Int)) → (false = true ↔ okNet w) ∧ True) ∧ (¬¬((-1099511627776 : Int) ≤ w.j.5 (↑z : Int).toNat ∧ w.j.5 (↑z : Int).toNat ≤ (1099511627776 : Int)) → (0 : Nat) < (1 : Nat) ∧ (0 : Nat) < (1 : Nat) ∧ (¬((-1099511627776 : Int) ≤ w.j.4 (↑z : Int).toNat ∧ w.j.4 (↑z : Int).toNat ≤ w.j.5 (↑z : Int).toNat) → (false = true ↔ okNet w) ∧ True) ∧ (¬¬((-1099511627776 : Int) ≤ w.j.4 (↑z : Int).toNat ∧ w.j.4 (↑z : Int).toNat ≤ w.j.5 (↑z : Int).toNat) → (0 : Nat) < (1 : Nat) ∧ (¬((-1 : Int) ≤ w.j.6 (↑z : Int).toNat ∧ w.j.6 (↑z : Int).toNat ≤ (1099511627776 : Int)) → (false = true ↔ okNet w) ∧ True) ∧ (¬¬((-1 : Int) ≤ w.j.6 (↑z : Int).toNat ∧ w.j.6 (↑z : Int).toNat ≤ (1099511627776 : Int)) → ((-9223372036854775808 : Int) ≤ (↑z : Int) + (1 : Int) ∧ (↑z : Int) + (1 : Int) ≤ (9223372036854775807 : Int)) ∧ ∃ z_1, (z_1 ≤ w.j.1 ∧ jsTo w z_1) ∧ w.j.1 - z_1 < w.j.1 - z ∧ (0 : Nat) = (0 : Nat) ∧ (0 : Nat) = (0 : Nat) ∧ false = false ∧ (↑z : Int) + (1 : Int) = (↑z_1 : Int) ∧ w.1 = w.1 ∧ w.2 = w.2 ∧ w.j.1 = w.j.1 ∧ (∀ (i : Nat), i < w.j.1 → (SV.agg [i6 (w.j.nl i), i6 (w.j.nh i), i6 (w.j.le i), i6 (w.j.mo i), i6 (w.j.go i)]).den = (SV.agg [i6 (w.j.nl i), i6 (w.j.nh i), i6 (w.j.le i), i6 (w.j.mo i), i6 (w.j.go i)]).den ∧ True ∧ True ∧ True ∧ True ∧ True ∧ True) ∧ w.m.1 = w.m.1 ∧ (∀ (i : Nat), i < w.m.1 → (SV.agg [i6 (w.m.fr i), i6 (w.m.dr i), i6 (w.m.va i), i6 (w.m.co i)]).den = (SV.agg [i6 (w.m.fr i), i6 (w.m.dr i), i6 (w.m.va i), i6 (w.m.co i)]).den ∧ True ∧ True ∧ True ∧ True ∧ True) ∧ True))))) ∧ (¬(↑z : Int) < (↑w.j.1 : Int) → (∃ z, (z ≤ w.m.1 ∧ jsTo w w.j.n ∧ msTo w z) ∧
 (0 : Nat) = (0 : Nat) ∧ (0 : Nat) = (0 : Nat) ∧ false = false ∧ (0 : Int) = (↑z : Int) ∧ w.1 = w.1 ∧ w.2 = w.2 ∧ w.j.1 = w.j.1 ∧ (∀ (i : Nat), i < w.j.1 → (SV.agg [i6 (w.j.nl i), i6 (w.j.nh i), i6 (w.j.le i), i6 (w.j.mo i), i6 (w.j.go i)]).den = (SV.agg [i6 (w.j.nl i), i6 (w.j.nh i), i6 (w.j.le i), i6 (w.j.mo i), i6 (w.j.go i)]).den ∧ True ∧ True ∧ True ∧ True ∧ True ∧ True) ∧ w.m.1 = w.m.1 ∧ (∀ (i : Nat), i < w.m.1 → (SV.agg [i6 (w.m.fr i), i6 (w.m.dr i), i6 (w.m.va i), i6 (w.m.co i)]).den = (SV.agg [i6 (w.m.fr i), i6 (w.m.dr i), i6 (w.m.va i), i6 (w.m.co i)]).den ∧ True ∧ True ∧ True ∧ True ∧ True) ∧ True) ∧ ∀ (z : Nat), z ≤ w.m.1 ∧ jsTo w w.j.n ∧ msTo w z → (0 : Nat) < (1 : Nat) ∧ ((↑z : Int) < (↑w.m.1 : Int) → (0 : Nat) < (1 : Nat) ∧ (0 : Int) ≤ (↑z : Int) ∧ (↑z : Int) < (↑w.m.1 : Int) ∧ (0 : Nat) < (1 : Nat) ∧ (¬((0 : Int) ≤ w.m.2 (↑z : Int).toNat ∧ w.m.2 (↑z : Int).toNat ≤ (↑z : Int)) → (false = true ↔ okNet w) ∧ True) ∧ (¬¬((0 : Int) ≤ w.m.2 (↑z : Int).toNat ∧ w.m.2 (↑z : Int).toNat ≤ (↑z : Int)) → (0 : Nat) < (1 : Nat) ∧ (¬((0 : Int) ≤ w.m.3 (↑z : Int).toNat ∧ w.m.3 (↑z : Int).toNat ≤ (1000 : Int)) → (false = true ↔ okNet w) ∧ True) ∧ (¬¬((0 : Int) ≤ w.m.3 (↑z : Int).toNat ∧ w.m.3 (↑z : Int).toNat ≤ (1000 : Int)) → (0 : Nat) < (1 : Nat) ∧ (¬((0 : Int) ≤ w.m.4 (↑z : Int).toNat ∧ w.m.4 (↑z : Int).toNat ≤ (2 : Int)) → (false = true ↔ okNet w) ∧ True) ∧ (¬¬((0 : Int) ≤ w.m.4 (↑z : Int).toNat ∧ w.m.4 (↑z : Int).toNat ≤ (2 : Int)) → (0 : Nat) < (1 : Nat) ∧ (¬((1 : Int) ≤ w.m.5 (↑z : Int).toNat ∧ w.m.5 (↑z : Int).toNat ≤ (1000000 : Int)) → (false = true ↔ okNet w) ∧ True) ∧ (¬¬((1 : Int) ≤ w.m.5 (↑z : Int).toNat ∧ w.m.5 (↑z : Int).toNat ≤ (1000000 : Int)) → ((-9223372036854775808 : Int) ≤ (↑z : Int) + (1 : Int) ∧ (↑z : Int) + (1 : Int) ≤
 (9223372036854775807 : Int)) ∧ ∃ z_1, (z_1 ≤ w.m.1 ∧ jsTo w w.j.n ∧ msTo w z_1) ∧ w.m.1 - z_1 < w.m.1 - z ∧ (0 : Nat) = (0 : Nat) ∧ (0 : Nat) = (0 : Nat) ∧ false = false ∧ (↑z : Int) + (1 : Int) = (↑z_1 : Int) ∧ w.1 = w.1 ∧ w.2 = w.2 ∧ w.j.1 = w.j.1 ∧ (∀ (i : Nat), i < w.j.1 → (SV.agg [i6 (w.j.nl i), i6 (w.j.nh i), i6 (w.j.le i), i6 (w.j.mo i), i6 (w.j.go i)]).den = (SV.agg [i6 (w.j.nl i), i6 (w.j.nh i), i6 (w.j.le i), i6 (w.j.mo i), i6 (w.j.go i)]).den ∧ True ∧ True ∧ True ∧ True ∧ True ∧ True) ∧ w.m.1 = w.m.1 ∧ (∀ (i : Nat), i < w.m.1 → (SV.agg [i6 (w.m.fr i), i6 (w.m.dr i), i6 (w.m.va i), i6 (w.m.co i)]).den = (SV.agg [i6 (w.m.fr i), i6 (w.m.dr i), i6 (w.m.va i), i6 (w.m.co i)]).den ∧ True ∧ True ∧ True ∧ True ∧ True) ∧ True))))) ∧ (¬(↑z : Int) < (↑w.m.1 : Int) → (true = true ↔ okNet w) ∧ True)))))) := by kernel_rfl
end Go.Proofs.Ytpannbkmpbioiaa

set_option linter.unusedVariables false
namespace Go.Proofs.Ytpannbkmpbioiaa
open Go Go.Lg
attribute [local irreducible] bodyH
theorem vspan_true (x y b : Int) : vspanG x y b := by
  rw [vspanG_vc]
  simp only [and_true, true_and, Nat.zero_lt_one, Bool.false_eq_true, false_iff]
  exact ⟨fun h => by omega, fun h h' => h ⟨h'.1, h'.2.1⟩⟩
theorem rspan_true (x y b : Int) : rspanG x y b := by
  rw [rspanG_vc]
  simp only [and_true, true_and, Nat.zero_lt_one, Bool.false_eq_true, false_iff]
  exact ⟨fun h => ⟨fun h2 => by omega, fun h2 => by omega⟩, fun h h' => h h'.1⟩
theorem vjun_true (a b c d e : Int) : vjunG a b c d e := by
  rw [vjunG_vc]
  simp only [and_true, true_and, Nat.zero_lt_one, Bool.false_eq_true, false_iff, true_iff]
  refine ⟨fun h1 => ⟨fun h2 => ⟨fun h3 => ⟨fun h4 => ⟨h1, by omega, .inl h4⟩, fun h4 => ⟨fun h5 => ⟨h1, by omega, .inr h5⟩, fun h => h.gov.resolve_left h4⟩⟩, fun h3 h => ?_⟩, fun h2 h => ?_⟩, fun h1 h => h1 h.need⟩
  · have := h.press; omega
  · have := h.press; omega
theorem vmai_true (a b c d e : Int) : vmaiG a b c d e := by
  rw [vmaiG_vc]
  simp only [and_true, true_and, Nat.zero_lt_one, Bool.false_eq_true, false_iff]
  have fin : (0 ≤ a ∧ a ≤ e) → (0 ≤ b ∧ b ≤ 1000) → (c = 0 ∨ c = 1 ∨ c = 2) → (1 ≤ d ∧ d ≤ 1000000 ↔ okMa a b c d e) := fun h1 h2 h3 => ⟨fun h4 => ⟨h1, h2, h3, h4⟩, fun h => h.co⟩
  refine ⟨fun h1 => ⟨fun h2 => ⟨fun h3 => fin h1 h2 (.inl h3), fun h3 => ⟨fun h4 => fin h1 h2 (.inr (.inl h4)), fun h4 => ⟨fun h5 => fin h1 h2 (.inr (.inr h5)), fun h5 h => ?_⟩⟩⟩, fun h2 h => h2 h.dr⟩, fun h1 h => h1 h.fr⟩
  rcases h.va with h | h | h
  · exact h3 h
  · exact h4 h
  · exact h5 h
theorem to_succ {p : Nat → Prop} {i : Nat} (h : ∀ k, k < i → p k) (hi : p i) : ∀ k, k < i + 1 → p k := fun k hk => by
  rcases Nat.lt_succ_iff_lt_or_eq.1 hk with h' | rfl
  · exact h k h'
  · exact hi
theorem vnet_true (w : Nw) : vnetG w := by
  rw [vnetG_vc]
  simp only [and_true, true_and, Nat.zero_lt_one, Bool.false_eq_true, false_iff, true_iff, implies_true, Int.toNat_natCast, Classical.not_not]
  refine ⟨fun h1 h => h1 h.src, fun h1 => ⟨fun h2 h => h2 (by have := h.n; omega), fun h2 => ⟨by omega, fun h3 h => h3 (by have := h.n; omega), fun h3 => ⟨⟨0, ⟨by omega, fun k hk => by omega⟩, rfl⟩, fun z hz => ⟨fun h4 => ⟨by omega, h4, fun h5 h => h5 (h.js z (by omega)), fun h5 => ⟨by omega, z + 1, ⟨by omega, to_succ hz.2 h5⟩, by omega, by omega⟩⟩, fun h4 => ?_⟩⟩⟩⟩⟩
  have e : z = w.j.n := by omega
  subst e
  refine ⟨⟨0, ⟨by omega, hz.2, fun k hk => by omega⟩, rfl⟩, fun y hy => ⟨fun h6 => ⟨by omega, h6, fun h7 h => h7 (h.ms y (by omega)), fun h7 => ⟨by omega, y + 1, ⟨by omega, hy.2.1, to_succ hy.2.2 h7⟩, by omega, by omega⟩⟩, fun h6 => ?_⟩⟩
  have e2 : y = w.m.n := by omega
  subst e2
  exact ⟨h1, by omega, hy.2.1, hy.2.2⟩
theorem okJn_of {a b c d e : Int} (h1 : 0 ≤ a ∧ a ≤ b ∧ b ≤ 1000000) (h2 : -1099511627776 ≤ d ∧ d ≤ 1099511627776) (h3 : -1099511627776 ≤ c ∧ c ≤ d) (h4 : -1 ≤ e ∧ e ≤ 1099511627776) : okJn a b c d e :=
  ⟨h1, by omega, by omega⟩
theorem rnet_true (w : Nw) : rnetG w := by
  rw [rnetG_vc]
  simp only [and_true, true_and, Nat.zero_lt_one, Bool.false_eq_true, false_iff, true_iff, implies_true, Int.toNat_natCast, Classical.not_not]
  refine ⟨fun h1 h => h1 h.src, fun h1 => ⟨fun h2 h => h2 (by have := h.n; omega), fun h2 => ⟨by omega, fun h3 h => h3 (by have := h.n; omega), fun h3 => ⟨⟨0, ⟨by omega, fun k hk => by omega⟩, rfl⟩, fun z hz => ⟨fun h4 => ⟨by omega, h4, fun h5 h => h5 (h.js z (by omega)).need, fun h5 => ⟨fun h6 h => ?_, fun h6 => ⟨fun h7 h => ?_, fun h7 => ⟨fun h8 h => ?_, fun h8 => ⟨by omega, z + 1, ⟨by omega, to_succ hz.2 (okJn_of h5 h6 h7 h8)⟩, by omega, by omega⟩⟩⟩⟩⟩, fun h4 => ?_⟩⟩⟩⟩⟩
  · have := (h.js z (by omega)).press; omega
  · have := (h.js z (by omega)).press; omega
  · have := (h.js z (by omega)).gov; omega
  have e : z = w.j.n := by omega
  subst e
  refine ⟨⟨0, ⟨by omega, hz.2, fun k hk => by omega⟩, rfl⟩, fun y hy => ⟨fun h6 => ⟨by omega, h6, fun h7 h => h7 (h.ms y (by omega)).fr, fun h7 => ⟨fun h8 h => h8 (h.ms y (by omega)).dr, fun h8 => ⟨fun h9 h => ?_, fun h9 => ⟨fun h10 h => h10 (h.ms y (by omega)).co, fun h10 => ⟨by omega, y + 1, ⟨by omega, hy.2.1, to_succ hy.2.2 ⟨h7, h8, by omega, h10⟩⟩, by omega, by omega⟩⟩⟩⟩⟩, fun h6 => ?_⟩⟩
  · have := (h.ms y (by omega)).va; omega
  have e2 : y = w.m.n := by omega
  subst e2
  exact ⟨h1, by omega, hy.2.1, hy.2.2⟩
end Go.Proofs.Ytpannbkmpbioiaa
