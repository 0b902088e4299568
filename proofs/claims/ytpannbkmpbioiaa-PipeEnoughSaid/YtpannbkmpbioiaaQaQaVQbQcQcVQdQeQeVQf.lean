import Derived.ProofKit
import Derived.Test.YtpannbkmpbioiaaProg
import Derived.Test.YtpannbkmpbioiaaPfPgPh
set_option linter.unusedVariables false
set_option linter.unusedSimpArgs false
namespace Go.Proofs.Ytpannbkmpbioiaa
open Go Go.Lg
theorem mixed : Try.prog.follows .mixedOrders = true := by kernel_rfl
structure Mn where
  n : Nat
  fr : Nat → Int
  dr : Nat → Int
  va : Nat → Int
  co : Nat → Int
structure Jn where
  n : Nat
  nl : Nat → Int
  nh : Nat → Int
  le : Nat → Int
  mo : Nat → Int
  go : Nat → Int
structure Nw where
  s0 : Int
  s1 : Int
  j : Jn
  m : Mn
def Mn.sv (m : Mn) : SV := .lst 4 m.n fun k => .agg [i6 (m.fr k), i6 (m.dr k), i6 (m.va k), i6 (m.co k)]
def Jn.sv (j : Jn) : SV := .lst 5 j.n fun k => .agg [i6 (j.nl k), i6 (j.nh k), i6 (j.le k), i6 (j.mo k), i6 (j.go k)]
def Nw.sv (w : Nw) : SV := .agg [i6 w.s0, i6 w.s1, w.j.sv, w.m.sv]
def mOf (x : SV) : Mn := ⟨lenV x, fun k => prI (nth' (cells' (eltV x k)) 0), fun k => prI (nth' (cells' (eltV x k)) 1), fun k => prI (nth' (cells' (eltV x k)) 2), fun k => prI (nth' (cells' (eltV x k)) 3)⟩
def jOf (x : SV) : Jn := ⟨lenV x, fun k => prI (nth' (cells' (eltV x k)) 0), fun k => prI (nth' (cells' (eltV x k)) 1), fun k => prI (nth' (cells' (eltV x k)) 2), fun k => prI (nth' (cells' (eltV x k)) 3), fun k => prI (nth' (cells' (eltV x k)) 4)⟩
def wOf (x : SV) : Nw := ⟨prI (nth' (cells' x) 0), prI (nth' (cells' x) 1), jOf (nth' (cells' x) 2), mOf (nth' (cells' x) 3)⟩
def up (m : Mn) (j : Nat) : Nat → Nat
  | 0 => j
  | i + 1 => (m.fr (up m j i - 1)).toNat
def dpt (m : Mn) : Nat → Nat → Nat
  | 0, _ => 0
  | F + 1, j => if j = 0 then 0 else 1 + dpt m F (m.fr (j - 1)).toNat
def okM (m : Mn) : Prop := ∀ k, k < m.n → 0 ≤ m.fr k ∧ m.fr k ≤ k
structure okW (m : Mn) (j N : Nat) : Prop where
  hm : okM m
  hj : j ≤ m.n
  hN : N = dpt m j j
noncomputable def isFromG (n a b : Int) : Prop := funH Try.prog (ctrs []) noX (ictrs []) noL noL 62 [i6 n, i6 a, i6 b] (.dec (a ≤ n ∧ n ≤ b) inferInstance)
noncomputable def inG (n a b : Int) : Prop := funH Try.prog (ctrs []) noX (ictrs []) noL noL 35 [i6 n, i6 a, i6 b] (.dec (a ≤ n ∧ n ≤ b) inferInstance)
noncomputable def way1G (m : Mn) (j N : Nat) : Prop := itH Try.prog (ctrs []) noX (ictrs [])
  (oneL 0 (natH (fun i => i ≤ N) (fun i => N - i) 1 (fun i => mkF 19 [(0, .yld 0), (1, .ipt [i6 j]), (2, .ipt [m.sv]), (4, i6 (up m j i))]) (fun _ => ⟨1, .nil⟩) fun i => some i)) noL 79 [] [.ipt [i6 j], .ipt [m.sv]] N fun i => [i6 ((up m j i : Int) - 1)]
noncomputable def wayG (m : Mn) (j : Int) : Prop := funH Try.prog (ctrs []) noX (ictrs []) noL noL 56 [m.sv, i6 j] (.clo (.func 79) [] [.ipt [i6 j], .ipt [m.sv]])
end Go.Proofs.Ytpannbkmpbioiaa

set_option maxRecDepth 100000
namespace Go.Proofs.Ytpannbkmpbioiaa
open Go Go.Lg
theorem isFromG_vc (n : Int) (a : Int) (b : Int) : isFromG n a b =
 ((a ≤ n → (n ≤ b ↔ a ≤ n ∧ n ≤ b) ∧ True) ∧ (¬a ≤ n → (false = true ↔ a ≤ n ∧ n ≤ b) ∧ True)) := by kernel_rfl
theorem inG_vc (n : Int) (a : Int) (b : Int) : inG n a b =
 ((a ≤ n → (n ≤ b ↔ a ≤ n ∧ n ≤ b) ∧ True) ∧ (¬a ≤ n → (false = true ↔ a ≤ n ∧ n ≤ b) ∧ True)) := by kernel_rfl
theorem way1G_vc (m : Mn) (j : Nat) (N : Nat) : way1G m j N =
 ((∃ z,
    z.le N ∧
      (0 : Nat) = z ∧
        SV.denL [i6 (↑j : Int)] = SV.denL [i6 (↑j : Int)] ∧
          (True ∧ True) ∧
            SV.denL [m.sv] = SV.denL [m.sv] ∧
              ((∀ (i : Nat), i < m.1 → True ∧ True ∧ True ∧ True ∧ True) ∧ True) ∧
                (↑j : Int) = (↑(up m j z) : Int) ∧ True) ∧
  ∀ (z : Nat),
    z.le N →
      ((0 : Int) < (↑(up m j z) : Int) →
          ((-9223372036854775808 : Int) ≤ (↑(up m j z) : Int) - (1 : Int) ∧
              (↑(up m j z) : Int) - (1 : Int) ≤ (9223372036854775807 : Int)) ∧
            z < N ∧
              (↑(up m j z) : Int) - (1 : Int) = (↑(up m j z) : Int) - (1 : Int) ∧
                (((-9223372036854775808 : Int) ≤ (↑(up m j z) : Int) - (1 : Int) ∧
                      (↑(up m j z) : Int) - (1 : Int) ≤ (9223372036854775807 : Int)) ∧
                    (0 : Int) ≤ (↑(up m j z) : Int) - (1 : Int) ∧
                      (↑(up m j z) : Int) - (1 : Int) < (↑m.1 : Int) ∧
                        ∃ z_1,
                          z_1.le N ∧
                            N - z_1 < N - z ∧
                              z.succ = z_1 ∧
                                SV.denL [i6 (↑j : Int)] = SV.denL [i6 (↑j : Int)] ∧
                                  (True ∧ True) ∧
                                    SV.denL [m.sv] = SV.denL [m.sv] ∧
                                      ((∀ (i : Nat), i < m.1 → True ∧ True ∧ True ∧ True ∧ True) ∧ True) ∧
                                        m.2 ((↑(up m j z) : Int) - (1 : Int)).toNat = (↑(up m j z_1) : Int) ∧ True) ∧
                  True) ∧
        (¬(0 : Int) < (↑(up m j z) : Int) → z = N)) := by kernel_rfl
theorem wayG_vc (m : Mn) (j : Int) : wayG m j =
 ((0 : Nat) < (1 : Nat) ∧
  j = j ∧
    (0 : Nat) < (1 : Nat) ∧
      m.1 = m.1 ∧
        (∀ (i : Nat),
            i < m.1 →
              (SV.agg [i6 (m.fr i), i6 (m.dr i), i6 (m.va i), i6 (m.co i)]).den =
                  (SV.agg [i6 (m.fr i), i6 (m.dr i), i6 (m.va i), i6 (m.co i)]).den ∧
                True ∧ True ∧ True ∧ True ∧ True) ∧
          True) := by kernel_rfl
end Go.Proofs.Ytpannbkmpbioiaa

namespace Go.Proofs.Ytpannbkmpbioiaa
open Go Go.Lg
attribute [local irreducible] bodyH
theorem isFrom_true (n a b : Int) : isFromG n a b := by
  rw [isFromG_vc]
  exact ⟨fun h => by simp [h], fun h => by simp [h]⟩
theorem in_true (n a b : Int) : inG n a b := by
  rw [inG_vc]
  exact ⟨fun h => by simp [h], fun h => by simp [h]⟩
theorem way_at {m : Mn} (hm : okM m) : ∀ (F j : Nat), j ≤ F → j ≤ m.n → ∀ i, i ≤ dpt m F j → up m j i ≤ j ∧ (up m j i = 0 ↔ i = dpt m F j) ∧ (i < dpt m F j → up m j (i + 1) < up m j i)
  | 0, j, h, hn, i, hi => by
    have : j = 0 := by omega
    subst this
    have : i = 0 := by simpa [dpt] using hi
    subst this
    simp [up, dpt]
  | F + 1, j, h, hn, i, hi => by
    by_cases hj : j = 0
    · subst hj
      have : i = 0 := by simpa [dpt] using hi
      subst this
      simp [up, dpt]
    · have e : dpt m (F + 1) j = 1 + dpt m F (m.fr (j - 1)).toNat := by simp [dpt, hj]
      have hb := hm (j - 1) (by omega)
      have hlt : (m.fr (j - 1)).toNat < j := by omega
      have sh : ∀ i, up m j (i + 1) = up m (m.fr (j - 1)).toNat i := by
        intro i
        induction i with
        | zero => rfl
        | succ i ih => show (m.fr (up m j (i + 1) - 1)).toNat = _; rw [ih]; rfl
      rw [e] at hi ⊢
      cases i with
      | zero =>
        refine ⟨by simp [up], ⟨fun h => by simp [up] at h; omega, fun h => by omega⟩, fun _ => ?_⟩
        rw [sh]; simp only [up]; omega
      | succ i =>
        have ih := way_at hm F (m.fr (j - 1)).toNat (by omega) (by omega) i (by omega)
        rw [sh, sh]
        exact ⟨by omega, by omega, fun h => ih.2.2 (by omega)⟩
theorem way1_true {m : Mn} {j N : Nat} (h : okW m j N) (hn : m.n ≤ 1000) : way1G m j N := by
  rw [way1G_vc]
  obtain ⟨hm, hj, hN⟩ := h
  have hw := way_at hm j j (Nat.le_refl _) hj
  rw [← hN] at hw
  simp only [and_true, true_and, implies_true]
  refine ⟨⟨0, Nat.zero_le _, rfl, by simp [up]⟩, fun z hz => ⟨fun h => ?_, fun h => ?_⟩⟩
  · have hz : z ≤ N := hz
    obtain ⟨h1, h2, h3⟩ := hw z hz
    have hlt : z < N := by omega
    have hb := hm (up m j z - 1) (by omega)
    refine ⟨by omega, hlt, by omega, by omega, by omega, z + 1, hlt, by omega, rfl, ?_⟩
    have e : ((up m j z : Int) - 1).toNat = up m j z - 1 := by omega
    rw [e]
    show m.fr (up m j z - 1) = (((m.fr (up m j z - 1)).toNat : Nat) : Int)
    omega
  · have hz : z ≤ N := hz
    obtain ⟨h1, h2, h3⟩ := hw z hz
    omega
theorem way_true (m : Mn) (j : Int) : wayG m j := by
  rw [wayG_vc]
  simp
end Go.Proofs.Ytpannbkmpbioiaa

namespace Go.Proofs.Ytpannbkmpbioiaa
open Go Go.Lg
structure okJn (nl nh le mo go : Int) : Prop where
  need : 0 ≤ nl ∧ nl ≤ nh ∧ nh ≤ 1000000
  press : -1099511627776 ≤ le ∧ le ≤ mo ∧ mo ≤ 1099511627776
  gov : go = -1 ∨ (0 ≤ go ∧ go ≤ 1099511627776)
structure okMa (fr dr va co : Int) (k : Int) : Prop where
  fr : 0 ≤ fr ∧ fr ≤ k
  dr : 0 ≤ dr ∧ dr ≤ 1000
  va : va = 0 ∨ va = 1 ∨ va = 2
  co : 1 ≤ co ∧ co ≤ 1000000
structure okNet (w : Nw) : Prop where
  src : 0 ≤ w.s0 ∧ w.s0 ≤ w.s1 ∧ w.s1 ≤ 1099511627776
  n : 1 ≤ w.j.n ∧ w.j.n ≤ 9 ∧ w.m.n + 1 = w.j.n
  js : ∀ i, i < w.j.n → okJn (w.j.nl i) (w.j.nh i) (w.j.le i) (w.j.mo i) (w.j.go i)
  ms : ∀ k, k < w.m.n → okMa (w.m.fr k) (w.m.dr k) (w.m.va k) (w.m.co k) k
def fromC (g : FuncId) : Ctr := ⟨g, fun args k => match args with
  | [.int .i64 n, .int .i64 a, .int .i64 b] => k (.dec (a ≤ n ∧ n ≤ b) inferInstance)
  | _ => False⟩
def spanC (g : FuncId) : Ctr := ⟨g, fun args k => match args with
  | [.agg [.int .i64 x, .int .i64 y], .int .i64 b] => k (.dec (0 ≤ x ∧ x ≤ y ∧ y ≤ b) inferInstance)
  | _ => False⟩
def junC : Ctr := ⟨63, fun args k => match args with
  | [.agg [.int .i64 a, .int .i64 b, .int .i64 c, .int .i64 d, .int .i64 e]] => k (.dec (okJn a b c d e) (Classical.propDecidable _))
  | _ => False⟩
def maiC : Ctr := ⟨64, fun args k => match args with
  | [.agg [.int .i64 a, .int .i64 b, .int .i64 c, .int .i64 d], .int .i64 e] => k (.dec (okMa a b c d e) (Classical.propDecidable _))
  | _ => False⟩
noncomputable def cs0 : CSpec := ctrs [fromC 62, fromC 35]
noncomputable def cs1 : CSpec := ctrs [fromC 62, fromC 35, spanC 61, spanC 48]
noncomputable def cs2 : CSpec := ctrs [fromC 62, fromC 35, spanC 61, spanC 48, junC, maiC]
noncomputable def vspanG (x y b : Int) : Prop := funH Try.prog cs0 noX (ictrs []) noL noL 61 [.agg [i6 x, i6 y], i6 b] (.dec (0 ≤ x ∧ x ≤ y ∧ y ≤ b) inferInstance)
noncomputable def rspanG (x y b : Int) : Prop := funH Try.prog cs0 noX (ictrs []) noL noL 48 [.agg [i6 x, i6 y], i6 b] (.dec (0 ≤ x ∧ x ≤ y ∧ y ≤ b) inferInstance)
noncomputable def vjunG (a b c d e : Int) : Prop := funH Try.prog cs1 noX (ictrs []) noL noL 63 [.agg [i6 a, i6 b, i6 c, i6 d, i6 e]] (.dec (okJn a b c d e) (Classical.propDecidable _))
noncomputable def vmaiG (a b c d e : Int) : Prop := funH Try.prog cs1 noX (ictrs []) noL noL 64 [.agg [i6 a, i6 b, i6 c, i6 d], i6 e] (.dec (okMa a b c d e) (Classical.propDecidable _))
def jsTo (w : Nw) (i : Nat) : Prop := ∀ k, k < i → okJn (w.j.nl k) (w.j.nh k) (w.j.le k) (w.j.mo k) (w.j.go k)
def msTo (w : Nw) (i : Nat) : Prop := ∀ k, k < i → okMa (w.m.fr k) (w.m.dr k) (w.m.va k) (w.m.co k) k
noncomputable def vnetG (w : Nw) : Prop := funH Try.prog cs2 noX (ictrs [])
  (twoL 0 (natH (fun i => i ≤ w.j.n ∧ jsTo w i) (fun i => w.j.n - i) 1 (fun i => mkF 52 [(1, .ptr 0 0 0), (2, .bool false), (29, w.j.sv), (30, i6 w.j.n), (31, i6 i)]) (fun _ => mkX [vr 4 w.sv]) fun _ => none)
  (oneL 2 (natH (fun i => i ≤ w.m.n ∧ jsTo w w.j.n ∧ msTo w i) (fun i => w.m.n - i) 1 (fun i => mkF 52 [(1, .ptr 0 0 0), (2, .bool false), (40, w.m.sv), (41, i6 w.m.n), (42, i6 i)]) (fun _ => mkX [vr 4 w.sv]) fun _ => none))) noL
  40 [w.sv] (.dec (okNet w) (Classical.propDecidable _))
noncomputable def rnetG (w : Nw) : Prop := funH Try.prog cs2 noX (ictrs [])
  (twoL 0 (natH (fun i => i ≤ w.j.n ∧ jsTo w i) (fun i => w.j.n - i) 1 (fun i => mkF 99 [(1, .ptr 0 0 0), (2, .bool false), (3, i6 i)]) (fun _ => mkX [vr 4 w.sv]) fun _ => none)
  (oneL 2 (natH (fun i => i ≤ w.m.n ∧ jsTo w w.j.n ∧ msTo w i) (fun i => w.m.n - i) 1 (fun i => mkF 99 [(1, .ptr 0 0 0), (2, .bool false), (5, i6 i)]) (fun _ => mkX [vr 4 w.sv]) fun _ => none))) noL
  23 [w.sv] (.dec (okNet w) (Classical.propDecidable _))
end Go.Proofs.Ytpannbkmpbioiaa

set_option maxRecDepth 100000
namespace Go.Proofs.Ytpannbkmpbioiaa
open Go Go.Lg
theorem vspanG_vc (x : Int) (y : Int) (b : Int) : vspanG x y b = ((0 : Nat) < (1 : Nat) ∧ (0 : Nat) < (1 : Nat) ∧ ((0 : Int) ≤ x ∧ x ≤ y → (0 : Nat) < (1 : Nat) ∧ (y ≤ b ↔ (0 : Int) ≤ x ∧ x ≤ y ∧ y ≤ b) ∧ True) ∧ (¬((0 : Int) ≤ x ∧ x ≤ y) → (false = true ↔ (0 : Int) ≤ x ∧ x ≤ y ∧ y ≤ b) ∧ True)) := by kernel_rfl
theorem rspanG_vc (x : Int) (y : Int) (b : Int) : rspanG x y b = ((0 : Nat) < (1 : Nat) ∧ ((0 : Int) ≤ x → (0 : Nat) < (1 : Nat) ∧ (0 : Nat) < (1 : Nat) ∧ (x ≤ y → (0 : Nat) < (1 : Nat) ∧ (y ≤ b ↔ (0 : Int) ≤ x ∧ x ≤ y ∧ y ≤ b) ∧ True) ∧ (¬x ≤ y → (false = true ↔ (0 : Int) ≤ x ∧ x ≤ y ∧ y ≤ b) ∧ True)) ∧ (¬(0 : Int) ≤ x → (false = true ↔ (0 : Int) ≤ x ∧ x ≤ y ∧ y ≤ b) ∧ True)) := by kernel_rfl
theorem vjunG_vc (a : Int) (b : Int) (c : Int) (d : Int) (e : Int) : vjunG a b c d e = ((0 : Nat) < (1 : Nat) ∧ ((0 : Int) ≤ a ∧ a ≤ b ∧ b ≤ (1000000 : Int) → (0 : Nat) < (1 : Nat) ∧ (0 : Nat) < (1 : Nat) ∧ ((-1099511627776 : Int) ≤ c ∧ c ≤ d → (0 : Nat) < (1 : Nat) ∧ (d ≤ (1099511627776 : Int) → (0 : Nat) < (1 : Nat) ∧ (e = (-1 : Int) → (true = true ↔ okJn a b c d e) ∧ True) ∧ (¬e = (-1 : Int) → (0 : Nat) < (1 : Nat) ∧ ((0 : Int) ≤ e ∧ e ≤ (1099511627776 : Int) ↔ okJn a b c d e) ∧ True)) ∧ (¬d ≤ (1099511627776 : Int) → (false = true ↔ okJn a b c d e) ∧ True)) ∧ (¬((-1099511627776 : Int) ≤ c ∧ c ≤ d) → (false = true ↔ okJn a b c d e) ∧ True)) ∧ (¬((0 : Int) ≤ a ∧ a ≤ b ∧ b ≤ (1000000 : Int)) → (false = true ↔ okJn a b c d e) ∧ True)) := by kernel_rfl
theorem vmaiG_vc (a : Int) (b : Int) (c : Int) (d : Int) (e : Int) : vmaiG a b c d e = ((0 : Nat) < (1 : Nat) ∧ ((0 : Int) ≤ a ∧ a ≤ e → (0 : Nat) < (1 : Nat) ∧ ((0 : Int) ≤ b ∧ b ≤ (1000 : Int) → (0 : Nat) < (1 : Nat) ∧ (c = (0 : Int) → (0 : Nat) < (1 : Nat) ∧ ((1 : Int) ≤ d ∧ d ≤ (1000000 : Int) ↔ okMa a b c d e) ∧ True) ∧ (¬c = (0 : Int) → (0 : Nat) < (1 : Nat) ∧ (c = (1 : Int) → (0 : Nat) < (1 : Nat) ∧ ((1 : Int) ≤ d ∧ d ≤ (1000000 : Int) ↔ okMa a b c d e) ∧ True) ∧ (¬c = (1 : Int) → (0 : Nat) < (1 : Nat) ∧ (c = (2 : Int) → (0 : Nat) < (1 : Nat) ∧ ((1 : Int) ≤ d ∧ d ≤ (1000000 : Int) ↔ okMa a b c d e) ∧ True) ∧ (¬c = (2 : Int) → (false = true ↔ okMa a b c d e) ∧ True)))) ∧ (¬((0 : Int) ≤ b ∧ b ≤ (1000 : Int)) → (false = true ↔ okMa a b c d e) ∧ True)) ∧ (¬((0 : Int) ≤ a ∧ a ≤ e) → (false = true ↔ okMa a b c d e) ∧ True)) := by kernel_rfl
theorem vnetG_vc (w : Nw) : vnetG w = ((0 : Nat) < (1 : Nat) ∧ (¬((0 : Int) ≤ w.1 ∧ w.1 ≤ w.2 ∧ w.2 ≤ (1099511627776 : Int)) → (false = true ↔ okNet w) ∧ True) ∧ (¬¬((0 : Int) ≤ w.1 ∧ w.1 ≤ w.2 ∧ w.2 ≤ (1099511627776 : Int)) → (0 : Nat) < (1 : Nat) ∧ (¬((1 : Int) ≤ (↑w.j.1 : Int) ∧ (↑w.j.1 : Int) ≤ (9 : Int)) → (false = true ↔ okNet w) ∧ True) ∧ (¬¬((1 : Int) ≤ (↑w.j.1 : Int) ∧ (↑w.j.1 : Int) ≤ (9 : Int)) → (0 : Nat) < (1 : Nat) ∧ (0 : Nat) < (1 : Nat) ∧ ((-9223372036854775808 : Int) ≤ (↑w.j.1 : Int) - (1 : Int) ∧ (↑w.j.1 : Int) - (1 : Int) ≤ (9223372036854775807 : Int)) ∧ (¬(↑w.m.1 : Int) = (↑w.j.1 : Int) - (1 : Int) → (false = true ↔ okNet w) ∧ True) ∧ (¬¬(↑w.m.1 : Int) = (↑w.j.1 : Int) - (1 : Int) → (0 : Nat) < (1 : Nat) ∧ (∃ z, (z ≤ w.j.1 ∧ jsTo w z) ∧ (0 : Nat) = (0 : Nat) ∧ (0 : Nat) = (0 : Nat) ∧ false = false ∧ w.j.1 = w.j.1 ∧ (∀ (i : Nat), i < w.j.1 → (SV.agg [i6 (w.j.nl i), i6 (w.j.nh i), i6 (w.j.le i), i6 (w.j.mo i), i6 (w.j.go i)]).den = (SV.agg [i6 (w.j.nl i), i6 (w.j.nh i), i6 (w.j.le i), i6 (w.j.mo i), i6 (w.j.go i)]).den ∧ True ∧ True ∧ True ∧ True ∧ True ∧ True) ∧ (↑w.j.1 : Int) = (↑w.j.1 : Int) ∧ (0 : Int) = (↑z : Int) ∧ w.1 = w.1 ∧ w.2 = w.2 ∧ w.j.1 = w.j.1 ∧ (∀ (i : Nat), i < w.j.1 → (SV.agg [i6 (w.j.nl i), i6 (w.j.nh i), i6 (w.j.le i), i6 (w.j.mo i), i6 (w.j.go i)]).den = (SV.agg [i6 (w.j.nl i), i6 (w.j.nh i), i6 (w.j.le i), i6 (w.j.mo i), i6 (w.j.go i)]).den ∧ True ∧ True ∧ True ∧ True ∧ True ∧ True) ∧ w.m.1 = w.m.1 ∧ (∀ (i : Nat), i < w.m.1 → (SV.agg [i6 (w.m.fr i), i6 (w.m.dr i), i6 (w.m.va i), i6 (w.m.co i)]).den = (SV.agg [i6 (w.m.fr i), i6 (w.m.dr i), i6 (w.m.va i), i6 (w.m.co i)]).den ∧ True ∧ True ∧ True ∧ True ∧ True) ∧ True) ∧ ∀ (z : Nat), z ≤ w.j.1 ∧ jsTo w z → ((↑z : Int) < (↑w.j.1 : Int) → (0 : Int) ≤ (↑z : Int) ∧
 (↑z : Int) < (↑w.j.1 : Int) ∧ (0 : Nat) < (1 : Nat) ∧ (¬okJn (w.j.nl (↑z : Int).toNat) (w.j.nh (↑z : Int).toNat) (w.j.le (↑z : Int).toNat) (w.j.mo (↑z : Int).toNat) (w.j.go (↑z : Int).toNat) → (false = true ↔ okNet w) ∧ True) ∧ (¬¬okJn (w.j.nl (↑z : Int).toNat) (w.j.nh (↑z : Int).toNat) (w.j.le (↑z : Int).toNat) (w.j.mo (↑z : Int).toNat) (w.j.go (↑z : Int).toNat) → ((-9223372036854775808 : Int) ≤ (↑z : Int) + (1 : Int) ∧ (↑z : Int) + (1 : Int) ≤ (9223372036854775807 : Int)) ∧ ∃ z_1, (z_1 ≤ w.j.1 ∧ jsTo w z_1) ∧ w.j.1 - z_1 < w.j.1 - z ∧ (0 : Nat) = (0 : Nat) ∧ (0 : Nat) = (0 : Nat) ∧ false = false ∧ w.j.1 = w.j.1 ∧ (∀ (i : Nat), i < w.j.1 → (SV.agg [i6 (w.j.nl i), i6 (w.j.nh i), i6 (w.j.le i), i6 (w.j.mo i), i6 (w.j.go i)]).den = (SV.agg [i6 (w.j.nl i), i6 (w.j.nh i), i6 (w.j.le i), i6 (w.j.mo i), i6 (w.j.go i)]).den ∧ True ∧ True ∧ True ∧ True ∧ True ∧ True) ∧ (↑w.j.1 : Int) = (↑w.j.1 : Int) ∧ (↑z : Int) + (1 : Int) = (↑z_1 : Int) ∧ w.1 = w.1 ∧ w.2 = w.2 ∧ w.j.1 = w.j.1 ∧ (∀ (i : Nat), i < w.j.1 → (SV.agg [i6 (w.j.nl i), i6 (w.j.nh i), i6 (w.j.le i), i6 (w.j.mo i), i6 (w.j.go i)]).den = (SV.agg [i6 (w.j.nl i), i6 (w.j.nh i), i6 (w.j.le i), i6 (w.j.mo i), i6 (w.j.go i)]).den ∧ True ∧ True ∧ True ∧ True ∧ True ∧ True) ∧ w.m.1 = w.m.1 ∧ (∀ (i : Nat), i < w.m.1 → (SV.agg [i6 (w.m.fr i), i6 (w.m.dr i), i6 (w.m.va i), i6 (w.m.co i)]).den = (SV.agg [i6 (w.m.fr i), i6 (w.m.dr i), i6 (w.m.va i), i6 (w.m.co i)]).den ∧ True ∧ True ∧ True ∧ True ∧ True) ∧ True)) ∧ (¬(↑z : Int) < (↑w.j.1 : Int) → (0 : Nat) < (1 : Nat) ∧ (∃ z, (z ≤ w.m.1 ∧ jsTo w w.j.n ∧ msTo w z) ∧ (0 : Nat) = (0 : Nat) ∧ (0 : Nat) = (0 : Nat) ∧ false = false ∧ w.m.1 = w.m.1 ∧ (∀ (i : Nat), i < w.m.1 → (SV.agg [i6 (w.m.fr i), i6 (w.m.dr i), i6 (w.m.va i), i6 (w.m.co i)]).den = (SV.agg
 [i6 (w.m.fr i), i6 (w.m.dr i), i6 (w.m.va i), i6 (w.m.co i)]).den ∧ True ∧ True ∧ True ∧ True ∧ True) ∧ (↑w.m.1 : Int) = (↑w.m.1 : Int) ∧ (0 : Int) = (↑z : Int) ∧ w.1 = w.1 ∧ w.2 = w.2 ∧ w.j.1 = w.j.1 ∧ (∀ (i : Nat), i < w.j.1 → (SV.agg [i6 (w.j.nl i), i6 (w.j.nh i), i6 (w.j.le i), i6 (w.j.mo i), i6 (w.j.go i)]).den = (SV.agg [i6 (w.j.nl i), i6 (w.j.nh i), i6 (w.j.le i), i6 (w.j.mo i), i6 (w.j.go i)]).den ∧ True ∧ True ∧ True ∧ True ∧ True ∧ True) ∧ w.m.1 = w.m.1 ∧ (∀ (i : Nat), i < w.m.1 → (SV.agg [i6 (w.m.fr i), i6 (w.m.dr i), i6 (w.m.va i), i6 (w.m.co i)]).den = (SV.agg [i6 (w.m.fr i), i6 (w.m.dr i), i6 (w.m.va i), i6 (w.m.co i)]).den ∧ True ∧ True ∧ True ∧ True ∧ True) ∧ True) ∧ ∀ (z : Nat), z ≤ w.m.1 ∧ jsTo w w.j.n ∧ msTo w z → ((↑z : Int) < (↑w.m.1 : Int) → (0 : Int) ≤ (↑z : Int) ∧ (↑z : Int) < (↑w.m.1 : Int) ∧ (0 : Nat) < (1 : Nat) ∧ (¬okMa (w.m.fr (↑z : Int).toNat) (w.m.dr (↑z : Int).toNat) (w.m.va (↑z : Int).toNat) (w.m.co (↑z : Int).toNat) (↑z : Int) → (false = true ↔ okNet w) ∧ True) ∧ (¬¬okMa (w.m.fr (↑z : Int).toNat) (w.m.dr (↑z : Int).toNat) (w.m.va (↑z : Int).toNat) (w.m.co (↑z : Int).toNat) (↑z : Int) → ((-9223372036854775808 : Int) ≤ (↑z : Int) + (1 : Int) ∧ (↑z : Int) + (1 : Int) ≤ (9223372036854775807 : Int)) ∧ ∃ z_1, (z_1 ≤ w.m.1 ∧ jsTo w w.j.n ∧ msTo w z_1) ∧ w.m.1 - z_1 < w.m.1 - z ∧ (0 : Nat) = (0 : Nat) ∧ (0 : Nat) = (0 : Nat) ∧ false = false ∧ w.m.1 = w.m.1 ∧ (∀ (i : Nat), i < w.m.1 → (SV.agg [i6 (w.m.fr i), i6 (w.m.dr i), i6 (w.m.va i), i6 (w.m.co i)]).den = (SV.agg [i6 (w.m.fr i), i6 (w.m.dr i), i6 (w.m.va i), i6 (w.m.co i)]).den ∧ True ∧ True ∧ True ∧ True ∧ True) ∧ (↑w.m.1 : Int) = (↑w.m.1 : Int) ∧ (↑z : Int) + (1 : Int) = (↑z_1 : Int) ∧ w.1 = w.1 ∧ w.2 = w.2 ∧ w.j.1 = w.j.1 ∧ (∀ (i : Nat), i < w.j.1 → (SV.agg [i6 (w.j.nl i),
 i6 (w.j.nh i), i6 (w.j.le i), i6 (w.j.mo i), i6 (w.j.go i)]).den = (SV.agg [i6 (w.j.nl i), i6 (w.j.nh i), i6 (w.j.le i), i6 (w.j.mo i), i6 (w.j.go i)]).den ∧ True ∧ True ∧ True ∧ True ∧ True ∧ True) ∧ w.m.1 = w.m.1 ∧ (∀ (i : Nat), i < w.m.1 → (SV.agg [i6 (w.m.fr i), i6 (w.m.dr i), i6 (w.m.va i), i6 (w.m.co i)]).den = (SV.agg [i6 (w.m.fr i), i6 (w.m.dr i), i6 (w.m.va i), i6 (w.m.co i)]).den ∧ True ∧ True ∧ True ∧ True ∧ True) ∧ True)) ∧ (¬(↑z : Int) < (↑w.m.1 : Int) → (true = true ↔ okNet w) ∧ True)))))) := by kernel_rfl
theorem rnetG_vc (w : Nw) : rnetG w = ((0 : Nat) < (1 : Nat) ∧ (¬((0 : Int) ≤ w.1 ∧ w.1 ≤ w.2 ∧ w.2 ≤ (1099511627776 : Int)) → (false = true ↔ okNet w) ∧ True) ∧ (¬¬((0 : Int) ≤ w.1 ∧ w.1 ≤ w.2 ∧ w.2 ≤ (1099511627776 : Int)) → (0 : Nat) < (1 : Nat) ∧ (¬((1 : Int) ≤ (↑w.j.1 : Int) ∧ (↑w.j.1 : Int) ≤ (9 : Int)) → (false = true ↔ okNet w) ∧ True) ∧ (¬¬((1 : Int) ≤ (↑w.j.1 : Int) ∧ (↑w.j.1 : Int) ≤ (9 : Int)) → (0 : Nat) < (1 : Nat) ∧ (0 : Nat) < (1 : Nat) ∧ ((-9223372036854775808 : Int) ≤ (↑w.j.1 : Int) - (1 : Int) ∧ (↑w.j.1 : Int) - (1 : Int) ≤ (9223372036854775807 : Int)) ∧ (¬(↑w.m.1 : Int) = (↑w.j.1 : Int) - (1 : Int) → (false = true ↔ okNet w) ∧ True) ∧ (¬¬(↑w.m.1 : Int) = (↑w.j.1 : Int) - (1 : Int) → (∃ z, (z ≤ w.j.1 ∧ jsTo w z) ∧ (0 : Nat) = (0 : Nat) ∧ (0 : Nat) = (0 : Nat) ∧ false = false ∧ (0 : Int) = (↑z : Int) ∧ w.1 = w.1 ∧ w.2 = w.2 ∧ w.j.1 = w.j.1 ∧ (∀ (i : Nat), i < w.j.1 → (SV.agg [i6 (w.j.nl i), i6 (w.j.nh i), i6 (w.j.le i), i6 (w.j.mo i), i6 (w.j.go i)]).den = (SV.agg [i6 (w.j.nl i), i6 (w.j.nh i), i6 (w.j.le i), i6 (w.j.mo i), i6 (w.j.go i)]).den ∧ True ∧ True ∧ True ∧ True ∧ True ∧ True) ∧ w.m.1 = w.m.1 ∧ (∀ (i : Nat), i < w.m.1 → (SV.agg [i6 (w.m.fr i), i6 (w.m.dr i), i6 (w.m.va i), i6 (w.m.co i)]).den = (SV.agg [i6 (w.m.fr i), i6 (w.m.dr i), i6 (w.m.va i), i6 (w.m.co i)]).den ∧ True ∧ True ∧ True ∧ True ∧ True) ∧ True) ∧ ∀ (z : Nat), z ≤ w.j.1 ∧ jsTo w z → (0 : Nat) < (1 : Nat) ∧ ((↑z : Int) < (↑w.j.1 : Int) → (0 : Nat) < (1 : Nat) ∧ (0 : Int) ≤ (↑z : Int) ∧ (↑z : Int) < (↑w.j.1 : Int) ∧ (0 : Nat) < (1 : Nat) ∧ (¬((0 : Int) ≤ w.j.2 (↑z : Int).toNat ∧ w.j.2 (↑z : Int).toNat ≤ w.j.3 (↑z : Int).toNat ∧ w.j.3 (↑z : Int).toNat ≤ (1000000 : Int)) → (false = true ↔ okNet w) ∧ True) ∧ (¬¬((0 : Int) ≤ w.j.2 (↑z : Int).toNat ∧
 w.j.2 (↑z : Int).toNat ≤ w.j.3 (↑z : Int).toNat ∧ w.j.3 (↑z : Int).toNat ≤ (1000000 : Int)) → (0 : Nat) < (1 : Nat) ∧ (¬((-1099511627776 : Int) ≤ w.j.5 (↑z : Int).toNat ∧ w.j.5 (↑z : Int).toNat ≤ (1099511627776 : Int)) → (false = true ↔ okNet w) ∧ True) ∧ (¬¬((-1099511627776 : Int) ≤ w.j.5 (↑z : Int).toNat ∧ w.j.5 (↑z : Int).toNat ≤ (1099511627776 : Int)) → (0 : Nat) < (1 : Nat) ∧ (0 : Nat) < (1 : Nat) ∧ (¬((-1099511627776 : Int) ≤ w.j.4 (↑z : Int).toNat ∧ w.j.4 (↑z : Int).toNat ≤ w.j.5 (↑z : Int).toNat) → (false = true ↔ okNet w) ∧ True) ∧ (¬¬((-1099511627776 : Int) ≤ w.j.4 (↑z : Int).toNat ∧ w.j.4 (↑z : Int).toNat ≤ w.j.5 (↑z : Int).toNat) → (0 : Nat) < (1 : Nat) ∧ (¬((-1 : Int) ≤ w.j.6 (↑z : Int).toNat ∧ w.j.6 (↑z : Int).toNat ≤ (1099511627776 : Int)) → (false = true ↔ okNet w) ∧ True) ∧ (¬¬((-1 : Int) ≤ w.j.6 (↑z : Int).toNat ∧ w.j.6 (↑z : Int).toNat ≤ (1099511627776 : Int)) → ((-9223372036854775808 : Int) ≤ (↑z : Int) + (1 : Int) ∧ (↑z : Int) + (1 : Int) ≤ (9223372036854775807 : Int)) ∧ ∃ z_1, (z_1 ≤ w.j.1 ∧ jsTo w z_1) ∧ w.j.1 - z_1 < w.j.1 - z ∧ (0 : Nat) = (0 : Nat) ∧ (0 : Nat) = (0 : Nat) ∧ false = false ∧ (↑z : Int) + (1 : Int) = (↑z_1 : Int) ∧ w.1 = w.1 ∧ w.2 = w.2 ∧ w.j.1 = w.j.1 ∧ (∀ (i : Nat), i < w.j.1 → (SV.agg [i6 (w.j.nl i), i6 (w.j.nh i), i6 (w.j.le i), i6 (w.j.mo i), i6 (w.j.go i)]).den = (SV.agg [i6 (w.j.nl i), i6 (w.j.nh i), i6 (w.j.le i), i6 (w.j.mo i), i6 (w.j.go i)]).den ∧ True ∧ True ∧ True ∧ True ∧ True ∧ True) ∧ w.m.1 = w.m.1 ∧ (∀ (i : Nat), i < w.m.1 → (SV.agg [i6 (w.m.fr i), i6 (w.m.dr i), i6 (w.m.va i), i6 (w.m.co i)]).den = (SV.agg [i6 (w.m.fr i), i6 (w.m.dr i), i6 (w.m.va i), i6 (w.m.co i)]).den ∧ True ∧ True ∧ True ∧ True ∧ True) ∧ True))))) ∧ (¬(↑z : Int) < (↑w.j.1 : Int) → (∃ z, (z ≤ w.m.1 ∧ jsTo w w.j.n ∧ msTo w z) ∧
 (0 : Nat) = (0 : Nat) ∧ (0 : Nat) = (0 : Nat) ∧ false = false ∧ (0 : Int) = (↑z : Int) ∧ w.1 = w.1 ∧ w.2 = w.2 ∧ w.j.1 = w.j.1 ∧ (∀ (i : Nat), i < w.j.1 → (SV.agg [i6 (w.j.nl i), i6 (w.j.nh i), i6 (w.j.le i), i6 (w.j.mo i), i6 (w.j.go i)]).den = (SV.agg [i6 (w.j.nl i), i6 (w.j.nh i), i6 (w.j.le i), i6 (w.j.mo i), i6 (w.j.go i)]).den ∧ True ∧ True ∧ True ∧ True ∧ True ∧ True) ∧ w.m.1 = w.m.1 ∧ (∀ (i : Nat), i < w.m.1 → (SV.agg [i6 (w.m.fr i), i6 (w.m.dr i), i6 (w.m.va i), i6 (w.m.co i)]).den = (SV.agg [i6 (w.m.fr i), i6 (w.m.dr i), i6 (w.m.va i), i6 (w.m.co i)]).den ∧ True ∧ True ∧ True ∧ True ∧ True) ∧ True) ∧ ∀ (z : Nat), z ≤ w.m.1 ∧ jsTo w w.j.n ∧ msTo w z → (0 : Nat) < (1 : Nat) ∧ ((↑z : Int) < (↑w.m.1 : Int) → (0 : Nat) < (1 : Nat) ∧ (0 : Int) ≤ (↑z : Int) ∧ (↑z : Int) < (↑w.m.1 : Int) ∧ (0 : Nat) < (1 : Nat) ∧ (¬((0 : Int) ≤ w.m.2 (↑z : Int).toNat ∧ w.m.2 (↑z : Int).toNat ≤ (↑z : Int)) → (false = true ↔ okNet w) ∧ True) ∧ (¬¬((0 : Int) ≤ w.m.2 (↑z : Int).toNat ∧ w.m.2 (↑z : Int).toNat ≤ (↑z : Int)) → (0 : Nat) < (1 : Nat) ∧ (¬((0 : Int) ≤ w.m.3 (↑z : Int).toNat ∧ w.m.3 (↑z : Int).toNat ≤ (1000 : Int)) → (false = true ↔ okNet w) ∧ True) ∧ (¬¬((0 : Int) ≤ w.m.3 (↑z : Int).toNat ∧ w.m.3 (↑z : Int).toNat ≤ (1000 : Int)) → (0 : Nat) < (1 : Nat) ∧ (¬((0 : Int) ≤ w.m.4 (↑z : Int).toNat ∧ w.m.4 (↑z : Int).toNat ≤ (2 : Int)) → (false = true ↔ okNet w) ∧ True) ∧ (¬¬((0 : Int) ≤ w.m.4 (↑z : Int).toNat ∧ w.m.4 (↑z : Int).toNat ≤ (2 : Int)) → (0 : Nat) < (1 : Nat) ∧ (¬((1 : Int) ≤ w.m.5 (↑z : Int).toNat ∧ w.m.5 (↑z : Int).toNat ≤ (1000000 : Int)) → (false = true ↔ okNet w) ∧ True) ∧ (¬¬((1 : Int) ≤ w.m.5 (↑z : Int).toNat ∧ w.m.5 (↑z : Int).toNat ≤ (1000000 : Int)) → ((-9223372036854775808 : Int) ≤ (↑z : Int) + (1 : Int) ∧ (↑z : Int) + (1 : Int) ≤
 (9223372036854775807 : Int)) ∧ ∃ z_1, (z_1 ≤ w.m.1 ∧ jsTo w w.j.n ∧ msTo w z_1) ∧ w.m.1 - z_1 < w.m.1 - z ∧ (0 : Nat) = (0 : Nat) ∧ (0 : Nat) = (0 : Nat) ∧ false = false ∧ (↑z : Int) + (1 : Int) = (↑z_1 : Int) ∧ w.1 = w.1 ∧ w.2 = w.2 ∧ w.j.1 = w.j.1 ∧ (∀ (i : Nat), i < w.j.1 → (SV.agg [i6 (w.j.nl i), i6 (w.j.nh i), i6 (w.j.le i), i6 (w.j.mo i), i6 (w.j.go i)]).den = (SV.agg [i6 (w.j.nl i), i6 (w.j.nh i), i6 (w.j.le i), i6 (w.j.mo i), i6 (w.j.go i)]).den ∧ True ∧ True ∧ True ∧ True ∧ True ∧ True) ∧ w.m.1 = w.m.1 ∧ (∀ (i : Nat), i < w.m.1 → (SV.agg [i6 (w.m.fr i), i6 (w.m.dr i), i6 (w.m.va i), i6 (w.m.co i)]).den = (SV.agg [i6 (w.m.fr i), i6 (w.m.dr i), i6 (w.m.va i), i6 (w.m.co i)]).den ∧ True ∧ True ∧ True ∧ True ∧ True) ∧ True))))) ∧ (¬(↑z : Int) < (↑w.m.1 : Int) → (true = true ↔ okNet w) ∧ True)))))) := by kernel_rfl
end Go.Proofs.Ytpannbkmpbioiaa

namespace Go.Proofs.Ytpannbkmpbioiaa
open Go Go.Lg
attribute [local irreducible] bodyH
theorem vspan_true (x y b : Int) : vspanG x y b := by
  rw [vspanG_vc]
  simp only [and_true, true_and, Nat.zero_lt_one, Bool.false_eq_true, false_iff]
  exact ⟨fun h => by omega, fun h h' => h ⟨h'.1, h'.2.1⟩⟩
theorem rspan_true (x y b : Int) : rspanG x y b := by
  rw [rspanG_vc]
  simp only [and_true, true_and, Nat.zero_lt_one, Bool.false_eq_true, false_iff]
  exact ⟨fun h => ⟨fun h2 => by omega, fun h2 => by omega⟩, fun h h' => h h'.1⟩
theorem vjun_true (a b c d e : Int) : vjunG a b c d e := by
  rw [vjunG_vc]
  simp only [and_true, true_and, Nat.zero_lt_one, Bool.false_eq_true, false_iff, true_iff]
  refine ⟨fun h1 => ⟨fun h2 => ⟨fun h3 => ⟨fun h4 => ⟨h1, by omega, .inl h4⟩, fun h4 => ⟨fun h5 => ⟨h1, by omega, .inr h5⟩, fun h => h.gov.resolve_left h4⟩⟩, fun h3 h => ?_⟩, fun h2 h => ?_⟩, fun h1 h => h1 h.need⟩
  · have := h.press; omega
  · have := h.press; omega
theorem vmai_true (a b c d e : Int) : vmaiG a b c d e := by
  rw [vmaiG_vc]
  simp only [and_true, true_and, Nat.zero_lt_one, Bool.false_eq_true, false_iff]
  have fin : (0 ≤ a ∧ a ≤ e) → (0 ≤ b ∧ b ≤ 1000) → (c = 0 ∨ c = 1 ∨ c = 2) → (1 ≤ d ∧ d ≤ 1000000 ↔ okMa a b c d e) := fun h1 h2 h3 => ⟨fun h4 => ⟨h1, h2, h3, h4⟩, fun h => h.co⟩
  refine ⟨fun h1 => ⟨fun h2 => ⟨fun h3 => fin h1 h2 (.inl h3), fun h3 => ⟨fun h4 => fin h1 h2 (.inr (.inl h4)), fun h4 => ⟨fun h5 => fin h1 h2 (.inr (.inr h5)), fun h5 h => ?_⟩⟩⟩, fun h2 h => h2 h.dr⟩, fun h1 h => h1 h.fr⟩
  rcases h.va with h | h | h
  · exact h3 h
  · exact h4 h
  · exact h5 h
theorem to_succ {p : Nat → Prop} {i : Nat} (h : ∀ k, k < i → p k) (hi : p i) : ∀ k, k < i + 1 → p k := fun k hk => by
  rcases Nat.lt_succ_iff_lt_or_eq.1 hk with h' | rfl
  · exact h k h'
  · exact hi
theorem vnet_true (w : Nw) : vnetG w := by
  rw [vnetG_vc]
  simp only [and_true, true_and, Nat.zero_lt_one, Bool.false_eq_true, false_iff, true_iff, implies_true, Int.toNat_natCast, Classical.not_not]
  refine ⟨fun h1 h => h1 h.src, fun h1 => ⟨fun h2 h => h2 (by have := h.n; omega), fun h2 => ⟨by omega, fun h3 h => h3 (by have := h.n; omega), fun h3 => ⟨⟨0, ⟨by omega, fun k hk => by omega⟩, rfl⟩, fun z hz => ⟨fun h4 => ⟨by omega, h4, fun h5 h => h5 (h.js z (by omega)), fun h5 => ⟨by omega, z + 1, ⟨by omega, to_succ hz.2 h5⟩, by omega, by omega⟩⟩, fun h4 => ?_⟩⟩⟩⟩⟩
  have e : z = w.j.n := by omega
  subst e
  refine ⟨⟨0, ⟨by omega, hz.2, fun k hk => by omega⟩, rfl⟩, fun y hy => ⟨fun h6 => ⟨by omega, h6, fun h7 h => h7 (h.ms y (by omega)), fun h7 => ⟨by omega, y + 1, ⟨by omega, hy.2.1, to_succ hy.2.2 h7⟩, by omega, by omega⟩⟩, fun h6 => ?_⟩⟩
  have e2 : y = w.m.n := by omega
  subst e2
  exact ⟨h1, by omega, hy.2.1, hy.2.2⟩
theorem okJn_of {a b c d e : Int} (h1 : 0 ≤ a ∧ a ≤ b ∧ b ≤ 1000000) (h2 : -1099511627776 ≤ d ∧ d ≤ 1099511627776) (h3 : -1099511627776 ≤ c ∧ c ≤ d) (h4 : -1 ≤ e ∧ e ≤ 1099511627776) : okJn a b c d e :=
  ⟨h1, by omega, by omega⟩
theorem rnet_true (w : Nw) : rnetG w := by
  rw [rnetG_vc]
  simp only [and_true, true_and, Nat.zero_lt_one, Bool.false_eq_true, false_iff, true_iff, implies_true, Int.toNat_natCast, Classical.not_not]
  refine ⟨fun h1 h => h1 h.src, fun h1 => ⟨fun h2 h => h2 (by have := h.n; omega), fun h2 => ⟨by omega, fun h3 h => h3 (by have := h.n; omega), fun h3 => ⟨⟨0, ⟨by omega, fun k hk => by omega⟩, rfl⟩, fun z hz => ⟨fun h4 => ⟨by omega, h4, fun h5 h => h5 (h.js z (by omega)).need, fun h5 => ⟨fun h6 h => ?_, fun h6 => ⟨fun h7 h => ?_, fun h7 => ⟨fun h8 h => ?_, fun h8 => ⟨by omega, z + 1, ⟨by omega, to_succ hz.2 (okJn_of h5 h6 h7 h8)⟩, by omega, by omega⟩⟩⟩⟩⟩, fun h4 => ?_⟩⟩⟩⟩⟩
  · have := (h.js z (by omega)).press; omega
  · have := (h.js z (by omega)).press; omega
  · have := (h.js z (by omega)).gov; omega
  have e : z = w.j.n := by omega
  subst e
  refine ⟨⟨0, ⟨by omega, hz.2, fun k hk => by omega⟩, rfl⟩, fun y hy => ⟨fun h6 => ⟨by omega, h6, fun h7 h => h7 (h.ms y (by omega)).fr, fun h7 => ⟨fun h8 h => h8 (h.ms y (by omega)).dr, fun h8 => ⟨fun h9 h => ?_, fun h9 => ⟨fun h10 h => h10 (h.ms y (by omega)).co, fun h10 => ⟨by omega, y + 1, ⟨by omega, hy.2.1, to_succ hy.2.2 ⟨h7, h8, by omega, h10⟩⟩, by omega, by omega⟩⟩⟩⟩⟩, fun h6 => ?_⟩⟩
  · have := (h.ms y (by omega)).va; omega
  have e2 : y = w.m.n := by omega
  subst e2
  exact ⟨h1, by omega, hy.2.1, hy.2.2⟩
end Go.Proofs.Ytpannbkmpbioiaa

namespace Go.Proofs.Ytpannbkmpbioiaa
open Go Go.Lg
open Classical in
noncomputable def stt (m : Mn) (j i : Nat) : Int := if ∃ k, k < i ∧ m.va (up m j k - 1) = 2 then 1 else 2
open Classical in
noncomputable def fedS (m : Mn) (j : Nat) : Int := if ∃ k, k < dpt m j j ∧ m.va (up m j k - 1) = 1 then 0 else stt m j (dpt m j j)
open Classical in
noncomputable def chkN (w : Nw) (z : Int) : Int := if okNet w then (if 0 ≤ z ∧ z < w.j.n then 0 else 2) else 1
open Classical in
noncomputable def vaT (m : Mn) (j i k : Nat) : Int := if ∃ q, q < i ∧ up m j q - 1 = k then 0 else m.va k
noncomputable def opM (m : Mn) (j : Nat) : Mn := ⟨m.n, m.fr, m.dr, vaT m j (dpt m j j), m.co⟩
def pas (b : Bool) (v : Int) : Bool := match b with
  | true => !decide (v = 1)
  | false => decide (v = 0)
def needE (b : Bool) (l h : Int) : Int := match b with
  | true => h
  | false => l
def srcE (b : Bool) (l h : Int) : Int := match b with
  | true => l
  | false => h
def govd (g p : Int) : Int := if g = -1 then p else min p g
def ledL (m : Mn) (b : Bool) : Nat → Nat → List Nat
  | 0, j => [j]
  | F + 1, j => j :: (List.range m.n).flatMap fun k => if m.fr k = j ∧ pas b (m.va k) = true then ledL m b F (k + 1) else []
def led (m : Mn) (b : Bool) (j : Nat) : List Nat := ledL m b (m.n + 1 - j) j
def sumL (f : Nat → Int) : List Nat → Int
  | [] => 0
  | x :: l => f x + sumL f l
def flowS (b : Bool) (w : Nw) (j : Nat) : Int := sumL (fun i => needE b (w.j.nl i) (w.j.nh i)) (led w.m b j)
def prL (b : Bool) (w : Nw) : Nat → Nat → Int
  | 0, j => govd (w.j.go j) (srcE b w.s0 w.s1)
  | F + 1, j => govd (w.j.go j) (if j = 0 then srcE b w.s0 w.s1 else prL b w F (w.m.fr (j - 1)).toNat - w.m.dr (j - 1) * flowS b w j)
def prS (b : Bool) (w : Nw) (j : Nat) : Int := prL b w j j
noncomputable def opW (w : Nw) (j : Nat) : Nw := ⟨w.s0, w.s1, w.j, opM w.m j⟩
noncomputable def prLo (w : Nw) (j : Nat) : Int := prS true (opW w j) j
noncomputable def prHi (w : Nw) (j : Nat) : Int := prS false (opW w j) j
structure badJ (w : Nw) (j : Nat) : Prop where
  fed : ¬ fedS w.m j = 0
  out : prLo w j < w.j.le j ∨ w.j.mo j < prHi w j
open Classical in
noncomputable def fstB (w : Nw) : Nat → Nat
  | 0 => 0
  | i + 1 => if fstB w i < i then fstB w i else if badJ w i then i else i + 1
def fnV (g : FuncId) : SV := .val (.func (.func g) #[] #[])
def endV (b : Bool) : SV := match b with
  | true => .agg [fnV 81, fnV 82, fnV 83]
  | false => .agg [fnV 82, fnV 81, fnV 87]
def endP (b : Bool) : SV := match b with
  | true => .ipt [fnV 81, fnV 82, fnV 83]
  | false => .ipt [fnV 82, fnV 81, fnV 87]
def netC (g : FuncId) (C : Nw → List SV → (SV → Prop) → Prop) : Ctr := ⟨g, fun args k => match args with
  | x :: r => x = (wOf x).sv ∧ C (wOf x) r k
  | [] => False⟩
def maiL (g : FuncId) (C : Mn → List SV → (SV → Prop) → Prop) : Ctr := ⟨g, fun args k => match args with
  | x :: r => x = (mOf x).sv ∧ C (mOf x) r k
  | [] => False⟩
def vnetC (g : FuncId) : Ctr := netC g fun w r k => match r with
  | [] => k (.dec (okNet w) (Classical.propDecidable _))
  | _ => False
def chkC : Ctr := netC 33 fun w r k => match r with
  | [.int .i64 z] => k (i6 (chkN w z))
  | _ => False
structure okJ (m : Mn) (z : Int) : Prop where
  hm : okM m
  hn : m.n ≤ 1000
  hz : 0 ≤ z ∧ z ≤ m.n
def wayC : Ctr := maiL 56 fun m r k => match r with
  | [.int .i64 z] => k (.clo (.func 79) [] [.ipt [i6 z], .ipt [m.sv]])
  | _ => False
def wayI : ICtr := ⟨79, fun fs us k => match fs, us with
  | [], [.ipt [.int .i64 z], .ipt [x]] => x = (mOf x).sv ∧ okJ (mOf x) z ∧ k (dpt (mOf x) z.toNat z.toNat) 1 fun i => [i6 ((up (mOf x) z.toNat i : Int) - 1)]
  | _, _ => False⟩
def fedC : Ctr := maiL 34 fun m r k => match r with
  | [.int .i64 z] => okJ m z ∧ k (i6 (fedS m z.toNat))
  | _ => False
def openC : Ctr := maiL 57 fun m r k => match r with
  | [.int .i64 z] => okJ m z ∧ k (opM m z.toNat).sv
  | _ => False
def loC : Ctr := ⟨81, fun args k => match args with
  | [.agg [.int .i64 x, .int .i64 y]] => k (i6 x)
  | _ => False⟩
def hiC : Ctr := ⟨82, fun args k => match args with
  | [.agg [.int .i64 x, .int .i64 y]] => k (i6 y)
  | _ => False⟩
def pasC (b : Bool) (g : FuncId) : Ctr := ⟨g, fun args k => match args with
  | [.int .i64 v] => (match b with
    | true => k (.dec (¬ v = 1) inferInstance)
    | false => k (.dec (v = 0) inferInstance))
  | _ => False⟩
def endC (b : Bool) (g : FuncId) : Ctr := ⟨g, fun args k => match args with
  | [] => k (endV b)
  | _ => False⟩
def govC : Ctr := ⟨86, fun args k => match args with
  | [.agg [.int .i64 a, .int .i64 b, .int .i64 c, .int .i64 d, .int .i64 g], .int .i64 p] => k (i6 (govd g p))
  | _ => False⟩
def ledC (b : Bool) : Ctr := ⟨96, fun args k => match args with
  | [e, x, .int .i64 z] => e = endV b ∧ x = (mOf x).sv ∧ k (.clo (.func 98) [] [.ipt [i6 z], .ipt [x], endP b])
  | _ => False⟩
def ledI (b : Bool) (M : Nat) : ICtr := ⟨98, fun fs us k => match fs, us with
  | [], [.ipt [.int .i64 z], .ipt [x], e] => e = endP b ∧ x = (mOf x).sv ∧ okJ (mOf x) z ∧ (mOf x).n + 1 - z.toNat < M ∧ k (led (mOf x) b z.toNat).length 1 fun i => [i6 (((led (mOf x) b z.toNat).getD i 0 : Nat) : Int)]
  | _, _ => False⟩
def flowC (b : Bool) : Ctr := ⟨85, fun args k => match args with
  | [e, x, .int .i64 z] => e = endV b ∧ x = (wOf x).sv ∧ (okNet (wOf x) ∧ 0 ≤ z ∧ z < (wOf x).j.n) ∧ k (i6 (flowS b (wOf x) z.toNat))
  | _ => False⟩
noncomputable def atX (b : Bool) (w : Nw) : XS := mkX [vr 3 (endV b), vr 4 w.sv, vr 1 (.clo (.func 84) [] [.ptr 0 0 0, .ptr 1 0 0, .ptr 2 0 0])]
noncomputable def atC (b : Bool) (M : Nat) : SCtr where
  f := 84
  p := Nw × Int
  pre := fun p => okNet p.1 ∧ (0 ≤ p.2 ∧ p.2 < p.1.j.n) ∧ p.2.toNat < M
  X0 := fun p => atX b p.1
  args := fun p => [i6 p.2, .ptr 0 0 0, .ptr 1 0 0, .ptr 2 0 0]
  res := fun p => i6 (prS b p.1 p.2.toNat)
  rd := fun args X k => match args with
    | .int _ z :: _ => (match X.row 1 with
      | some R => (match R.f 0 with
        | .agg c => k (wOf (.agg c), z)
        | _ => False)
      | none => False)
    | _ => False
  rdOK := fun args X k h => by
    split at h
    · split at h
      · split at h
        · exact ⟨_, h⟩
        · exact h.elim
      · exact h.elim
    · exact h.elim
noncomputable def csV : CSpec := ctrs [vnetC 40, vnetC 23]
noncomputable def chkG (w : Nw) (z : Int) : Prop := funH Try.prog csV noX (ictrs []) noL noL 33 [w.sv, i6 z] (i6 (chkN w z))
noncomputable def fedG (m : Mn) (z : Int) : Prop := funH Try.prog (ctrsF [wayC] (ctrs [])) noX (ictrs [wayI]) noL
  (oneL 0 (itS 3 (fun j => ∀ k, k < j → ¬ m.va (up m z.toNat k - 1) = 1) (mkF 21 [(2, .ptr 0 0 0), (4, .ptr 1 0 0), (5, .ptr 2 0 0)]) (fun j => mkX [vr 1 m.sv, vr 1 (i6 0), vr 1 (i6 (stt m z.toNat j))]) (fun _ => none))) 34 [m.sv, i6 z] (i6 (fedS m z.toNat))
noncomputable def opnG (m : Mn) (z : Int) : Prop := funH Try.prog (ctrsF [wayC] (ctrs [])) (inl Try.prog (ctrs []) none (ictrs []) 80 noL noL noX) (ictrs [wayI]) noL
  (oneL 0 (itS 2 (fun j => True) (mkF 18 [(5, .ptr 1 0 0)]) (fun j => mkX [rw' 4 m.n fun k => .agg [i6 (m.fr k), i6 (m.dr k), i6 (vaT m z.toNat j k), i6 (m.co k)], vr 1 (.sl 0 0 m.n)]) (fun _ => none))) 57 [m.sv, i6 z] (opM m z.toNat).sv
noncomputable def loG (x y : Int) : Prop := funH Try.prog (ctrs []) noX (ictrs []) noL noL 81 [.agg [i6 x, i6 y]] (i6 x)
noncomputable def hiG (x y : Int) : Prop := funH Try.prog (ctrs []) noX (ictrs []) noL noL 82 [.agg [i6 x, i6 y]] (i6 y)
noncomputable def pasTG (v : Int) : Prop := funH Try.prog (ctrs []) noX (ictrs []) noL noL 83 [i6 v] (.dec (¬ v = 1) inferInstance)
noncomputable def pasFG (v : Int) : Prop := funH Try.prog (ctrs []) noX (ictrs []) noL noL 87 [i6 v] (.dec (v = 0) inferInstance)
noncomputable def endTG : Prop := funH Try.prog (ctrs []) noX (ictrs []) noL noL 58 [] (endV true)
noncomputable def endFG : Prop := funH Try.prog (ctrs []) noX (ictrs []) noL noL 60 [] (endV false)
noncomputable def govG (a b c d g p : Int) : Prop := funH Try.prog (ctrs []) noX (ictrs []) noL noL 86 [.agg [i6 a, i6 b, i6 c, i6 d, i6 g], i6 p] (i6 (govd g p))
noncomputable def ledTG (m : Mn) (z : Int) : Prop := funH Try.prog (ctrs []) noX (ictrs []) noL noL 96 [endV true, m.sv, i6 z] (.clo (.func 98) [] [.ipt [i6 z], .ipt [m.sv], endP true])
noncomputable def ledFG (m : Mn) (z : Int) : Prop := funH Try.prog (ctrs []) noX (ictrs []) noL noL 96 [endV false, m.sv, i6 z] (.clo (.func 98) [] [.ipt [i6 z], .ipt [m.sv], endP false])
def cnt (m : Mn) (b : Bool) (j : Nat) : Nat → Nat
  | 0 => 1
  | k + 1 => cnt m b j k + (if m.fr k = j ∧ pas b (m.va k) = true then (led m b (k + 1)).length else 0)
noncomputable def led1 (b : Bool) (M : Nat) (m : Mn) (j : Nat) : Prop := itH Try.prog (ctrsF [ledC b] (ctrs [pasC true 83, pasC false 87])) noX (ictrs [ledI b M])
  (oneL 0 (natH (fun k => k ≤ m.n) (fun k => m.n - k) 2 (fun k => mkF 42 [(1, .ipt [i6 j]), (2, .ipt [m.sv]), (3, endP b), (4, .ptr 1 0 0), (12, m.sv), (13, i6 m.n), (14, i6 k)]) (fun _ => mkX [none, vr 1 (.yld 0)]) fun k => some (cnt m b j k)))
  (oneL 2 (itN 42 14 2 (fun k i => k < m.n ∧ m.fr k = j ∧ pas b (m.va k) = true) (fun k => mkF 42 [(1, .ipt [i6 j]), (2, .ipt [m.sv]), (3, endP b), (4, .ptr 1 0 0), (12, m.sv), (13, i6 m.n), (14, i6 k)]) (fun _ _ => mkX [none, vr 1 (.yld 0)]) fun k i => some (cnt m b j k + i))) 98 [] [.ipt [i6 j], .ipt [m.sv], endP b] (led m b j).length fun i => [i6 (((led m b j).getD i 0 : Nat) : Int)]
noncomputable def led1T (M : Nat) (m : Mn) (j : Nat) : Prop := led1 true M m j
noncomputable def led1F (M : Nat) (m : Mn) (j : Nat) : Prop := led1 false M m j
end Go.Proofs.Ytpannbkmpbioiaa

set_option maxRecDepth 100000
namespace Go.Proofs.Ytpannbkmpbioiaa
open Go Go.Lg
theorem chkG_vc (w : Nw) (z : Int) : chkG w z = ((0 : Nat) < (1 : Nat) ∧ (∀ (i : Nat), i < w.j.1 → True ∧ True ∧ True ∧ True ∧ True ∧ True) ∧ (∀ (i : Nat), i < w.m.1 → True ∧ True ∧ True ∧ True ∧ True) ∧ w.sv = w.sv ∧ (¬okNet w → (1 : Int) = chkN w z ∧ True) ∧ (¬¬okNet w → (z < (0 : Int) → (2 : Int) = chkN w z ∧ True) ∧ (¬z < (0 : Int) → (0 : Nat) < (1 : Nat) ∧ ((↑w.j.1 : Int) ≤ z → (2 : Int) = chkN w z ∧ True) ∧ (¬(↑w.j.1 : Int) ≤ z → (0 : Int) = chkN w z ∧ True)))) := by kernel_rfl
theorem fedG_vc (m : Mn) (z : Int) : fedG m z = ((0 : Nat) < (1 : Nat) ∧ (∀ (i : Nat), i < m.1 → True ∧ True ∧ True ∧ True ∧ True) ∧ m.sv = m.sv ∧ (∀ (i : Nat), i < m.1 → True ∧ True ∧ True ∧ True ∧ True) ∧ m.sv = m.sv ∧ okJ m z ∧ ((True ∧ True) ∧ ((∀ (i : Nat), i < m.1 → True ∧ True ∧ True ∧ True ∧ True) ∧ True) ∧ ∃ z_1, (z_1 = (0 : Nat) ∧ ∀ (k : Nat), k < (0 : Nat) → ¬m.4 (up m z.toNat k - (1 : Nat)) = (1 : Int)) ∧ (0 : Nat) = (0 : Nat) ∧ (0 : Nat) = (0 : Nat) ∧ (0 : Nat) = (0 : Nat) ∧ (0 : Nat) = (0 : Nat) ∧ (0 : Nat) = (0 : Nat) ∧ (0 : Nat) = (0 : Nat) ∧ Fn.func (79 : FuncId) = Fn.func (79 : FuncId) ∧ SV.denL [i6 z] = SV.denL [SV.int IntKind.i64 z] ∧ (True ∧ True) ∧ SV.denL [m.sv] = SV.denL [m.sv] ∧ ((∀ (i : Nat), i < m.1 → True ∧ True ∧ True ∧ True ∧ True) ∧ True) ∧ m.1 = m.1 ∧ (∀ (i : Nat), i < m.1 → (SV.agg [i6 (m.fr i), i6 (m.dr i), i6 (m.va i), i6 (m.co i)]).den = (SV.agg [i6 (m.fr i), i6 (m.dr i), i6 (m.va i), i6 (m.co i)]).den ∧ True ∧ True ∧ True ∧ True ∧ True) ∧ (0 : Int) = (0 : Int) ∧ (2 : Int) = stt m z.toNat z_1 ∧ True) ∧ (∀ (j : Nat), j < dpt m z.toNat z.toNat → ∀ (z_1 : Nat), (z_1 = j ∧ ∀ (k : Nat), k < j → ¬m.4 (up m z.toNat k - (1 : Nat)) = (1 : Int)) → (0 : Nat) < (1 : Nat) ∧ (0 : Int) ≤ (↑(up m z.toNat j) : Int) - (1 : Int) ∧ (↑(up m z.toNat j) : Int) - (1 : Int) < (↑m.1 : Int) ∧ (m.4 ((↑(up m z.toNat j) : Int) - (1 : Int)).toNat = (1 : Int) → (0 : Nat) < (1 : Nat) ∧ (0 : Int) = fedS m z.toNat ∧ True) ∧ (¬m.4 ((↑(up m z.toNat j) : Int) - (1 : Int)).toNat = (1 : Int) → (m.4 ((↑(up m z.toNat j) : Int) - (1 : Int)).toNat = (2 : Int) → ∃ z_2, (z_2 = j.succ ∧ ∀ (k : Nat), k < j.succ → ¬m.4 (up m z.toNat k - (1 : Nat)) = (1 : Int)) ∧ m.1 = m.1 ∧ (∀ (i : Nat), i < m.1 → (SV.agg [i6 (m.fr i), i6 (m.dr i), i6 (m.va i), i6 (m.co i)]).den = (SV.agg
 [i6 (m.fr i), i6 (m.dr i), i6 (m.va i), i6 (m.co i)]).den ∧ True ∧ True ∧ True ∧ True ∧ True) ∧ (0 : Int) = (0 : Int) ∧ (1 : Int) = stt m z.toNat z_2 ∧ True) ∧ (¬m.4 ((↑(up m z.toNat j) : Int) - (1 : Int)).toNat = (2 : Int) → ∃ z_2, (z_2 = j.succ ∧ ∀ (k : Nat), k < j.succ → ¬m.4 (up m z.toNat k - (1 : Nat)) = (1 : Int)) ∧ m.1 = m.1 ∧ (∀ (i : Nat), i < m.1 → (SV.agg [i6 (m.fr i), i6 (m.dr i), i6 (m.va i), i6 (m.co i)]).den = (SV.agg [i6 (m.fr i), i6 (m.dr i), i6 (m.va i), i6 (m.co i)]).den ∧ True ∧ True ∧ True ∧ True ∧ True) ∧ (0 : Int) = (0 : Int) ∧ stt m z.toNat z_1 = stt m z.toNat z_2 ∧ True))) ∧ ∀ (z_1 : Nat), (z_1 = dpt m z.toNat z.toNat ∧ ∀ (k : Nat), k < dpt m z.toNat z.toNat → ¬m.4 (up m z.toNat k - (1 : Nat)) = (1 : Int)) → (0 : Nat) < (1 : Nat) ∧ (0 : Nat) < (1 : Nat) ∧ stt m z.toNat z_1 = fedS m z.toNat ∧ True) := by kernel_rfl
theorem opnG_vc (m : Mn) (z : Int) : opnG m z = ((0 : Int) ≤ (↑m.1 : Int) ∧ (↑m.1 : Int) ≤ (↑m.1 : Int) ∧ (↑m.1 : Int) ≤ (1048576 : Int) ∧ (↑m.1 : Int) * (↑(32 : Nat) : Int) ≤ (140737488355328 : Int) ∧ (0 : Nat) = (0 : Nat) ∧ (↑m.1 : Int).toNat = (↑m.1 : Int).toNat ∧ m.1 = (↑m.1 : Int).toNat ∧ (∀ (i : Nat), i < m.1 → true = true) ∧ (∀ (i : Nat), i < m.1 → True ∧ True ∧ True ∧ True ∧ True) ∧ m.sv = m.sv ∧ (∀ (i : Nat), i < m.1 → True ∧ True ∧ True ∧ True ∧ True) ∧ m.sv = m.sv ∧ okJ m z ∧ ((True ∧ True) ∧ ((∀ (i : Nat), i < m.1 → True ∧ True ∧ True ∧ True ∧ True) ∧ True) ∧ ∃ z_1, (z_1 = (0 : Nat) ∧ True) ∧ (0 : Nat) = (0 : Nat) ∧ (0 : Nat) = (0 : Nat) ∧ Fn.func (79 : FuncId) = Fn.func (79 : FuncId) ∧ SV.denL [i6 z] = SV.denL [SV.int IntKind.i64 z] ∧ (True ∧ True) ∧ SV.denL [m.sv] = SV.denL [m.sv] ∧ ((∀ (i : Nat), i < m.1 → True ∧ True ∧ True ∧ True ∧ True) ∧ True) ∧ m.1 = m.1 ∧ (∀ (i : Nat), i < m.1 → (4 : Nat) = (4 : Nat) ∧ m.2 i = m.2 i ∧ m.3 i = m.3 i ∧ m.4 i = vaT m z.toNat z_1 i ∧ m.5 i = m.5 i ∧ True) ∧ (0 : Nat) = (0 : Nat) ∧ (↑m.1 : Int).toNat = m.1 ∧ True) ∧ (∀ (j : Nat), j < dpt m z.toNat z.toNat → ∀ (z_1 : Nat), z_1 = j ∧ True → (0 : Nat) < (1 : Nat) ∧ (0 : Int) ≤ (↑(up m z.toNat j) : Int) - (1 : Int) ∧ (↑(up m z.toNat j) : Int) - (1 : Int) < (↑m.1 : Int) ∧ (2 : Nat) + (1 : Nat) ≤ (4 : Nat) ∧ (0 : Nat) + ((↑(up m z.toNat j) : Int) - (1 : Int)).toNat < m.1 ∧ (∀ (i' : Nat), true = true) ∧ ∃ z_2, (z_2 = j.succ ∧ True) ∧ m.1 = m.1 ∧ (∀ (i : Nat), i < m.1 → (4 : Nat) = (4 : Nat) ∧ (if i = (0 : Nat) + ((↑(up m z.toNat j) : Int) - (1 : Int)).toNat then m.2 i else m.2 i) = m.2 i ∧ (if i = (0 : Nat) + ((↑(up m z.toNat j) : Int) - (1 : Int)).toNat then m.3 i else m.3 i) = m.3 i ∧ (if i = (0 : Nat) + ((↑(up m z.toNat j) : Int) - (1 : Int)).toNat then (0 : Int)
 else vaT m z.toNat z_1 i) = vaT m z.toNat z_2 i ∧ (if i = (0 : Nat) + ((↑(up m z.toNat j) : Int) - (1 : Int)).toNat then m.5 i else m.5 i) = m.5 i ∧ True) ∧ (0 : Nat) = (0 : Nat) ∧ m.1 = m.1 ∧ True) ∧ ∀ (z_1 : Nat), z_1 = dpt m z.toNat z.toNat ∧ True → (0 : Nat) < (1 : Nat) ∧ m.1 = m.1 ∧ (0 : Nat) + m.1 ≤ m.1 ∧ (∀ (i : Nat), i < m.1 → (4 : Nat) = (4 : Nat) ∧ (4 : Nat) = (4 : Nat) ∧ m.2 (i + (0 : Nat)) = m.2 i ∧ m.3 (i + (0 : Nat)) = m.3 i ∧ vaT m z.toNat z_1 (i + (0 : Nat)) = vaT m z.toNat (dpt m z.toNat z.toNat) i ∧ m.5 (i + (0 : Nat)) = m.5 i ∧ True) ∧ True) := by kernel_rfl
theorem loG_vc (x : Int) (y : Int) : loG x y = ((0 : Nat) < (1 : Nat) ∧ x = x ∧ True) := by kernel_rfl
theorem hiG_vc (x : Int) (y : Int) : hiG x y = ((0 : Nat) < (1 : Nat) ∧ y = y ∧ True) := by kernel_rfl
theorem pasTG_vc (v : Int) : pasTG v = ((¬v = (1 : Int) ↔ ¬v = (1 : Int)) ∧ True) := by kernel_rfl
theorem pasFG_vc (v : Int) : pasFG v = ((v = (0 : Int) ↔ v = (0 : Int)) ∧ True) := by kernel_rfl
theorem endTG_vc  : endTG  = ((0 : Nat) < (1 : Nat) ∧ Value.func (Fn.func (81 : Nat)) #[] #[] = Value.func (Fn.func (81 : FuncId)) #[] #[] ∧ Value.func (Fn.func (82 : Nat)) #[] #[] = Value.func (Fn.func (82 : FuncId)) #[] #[] ∧ Value.func (Fn.func (83 : Nat)) #[] #[] = Value.func (Fn.func (83 : FuncId)) #[] #[] ∧ True) := by kernel_rfl
theorem endFG_vc  : endFG  = ((0 : Nat) < (1 : Nat) ∧ Value.func (Fn.func (82 : Nat)) #[] #[] = Value.func (Fn.func (82 : FuncId)) #[] #[] ∧ Value.func (Fn.func (81 : Nat)) #[] #[] = Value.func (Fn.func (81 : FuncId)) #[] #[] ∧ Value.func (Fn.func (87 : Nat)) #[] #[] = Value.func (Fn.func (87 : FuncId)) #[] #[] ∧ True) := by kernel_rfl
theorem govG_vc (a : Int) (b : Int) (c : Int) (d : Int) (g : Int) (p : Int) : govG a b c d g p = ((0 : Nat) < (1 : Nat) ∧ (g = (-1 : Int) → p = govd g p ∧ True) ∧ (¬g = (-1 : Int) → (0 : Nat) < (1 : Nat) ∧ min p g = govd g p ∧ True)) := by kernel_rfl
theorem ledTG_vc (m : Mn) (z : Int) : ledTG m z = ((0 : Nat) < (1 : Nat) ∧ z = z ∧ (0 : Nat) < (1 : Nat) ∧ m.1 = m.1 ∧ (∀ (i : Nat), i < m.1 → (SV.agg [i6 (m.fr i), i6 (m.dr i), i6 (m.va i), i6 (m.co i)]).den = (SV.agg [i6 (m.fr i), i6 (m.dr i), i6 (m.va i), i6 (m.co i)]).den ∧ True ∧ True ∧ True ∧ True ∧ True) ∧ (0 : Nat) < (1 : Nat) ∧ Value.func (Fn.func (81 : FuncId)) #[] #[] = Value.func (Fn.func (81 : FuncId)) #[] #[] ∧ Value.func (Fn.func (82 : FuncId)) #[] #[] = Value.func (Fn.func (82 : FuncId)) #[] #[] ∧ Value.func (Fn.func (83 : FuncId)) #[] #[] = Value.func (Fn.func (83 : FuncId)) #[] #[] ∧ True) := by kernel_rfl
theorem ledFG_vc (m : Mn) (z : Int) : ledFG m z = ((0 : Nat) < (1 : Nat) ∧ z = z ∧ (0 : Nat) < (1 : Nat) ∧ m.1 = m.1 ∧ (∀ (i : Nat), i < m.1 → (SV.agg [i6 (m.fr i), i6 (m.dr i), i6 (m.va i), i6 (m.co i)]).den = (SV.agg [i6 (m.fr i), i6 (m.dr i), i6 (m.va i), i6 (m.co i)]).den ∧ True ∧ True ∧ True ∧ True ∧ True) ∧ (0 : Nat) < (1 : Nat) ∧ Value.func (Fn.func (82 : FuncId)) #[] #[] = Value.func (Fn.func (82 : FuncId)) #[] #[] ∧ Value.func (Fn.func (81 : FuncId)) #[] #[] = Value.func (Fn.func (81 : FuncId)) #[] #[] ∧ Value.func (Fn.func (87 : FuncId)) #[] #[] = Value.func (Fn.func (87 : FuncId)) #[] #[] ∧ True) := by kernel_rfl
theorem led1T_vc (M : Nat) (m : Mn) (j : Nat) : led1T M m j = ((0 : Nat) < (1 : Nat) ∧ (0 : Nat) < (led m true j).length ∧ (↑j : Int) = (↑((led m true j).getD (0 : Nat) (0 : Nat)) : Int) ∧ ((∃ z, z.le m.n ∧ (1 : Nat) = cnt m true j z ∧ SV.denL [i6 (↑j : Int)] = SV.denL [i6 (↑j : Int)] ∧ (True ∧ True) ∧ SV.denL [m.sv] = SV.denL [m.sv] ∧ ((∀ (i : Nat), i < m.1 → True ∧ True ∧ True ∧ True ∧ True) ∧ True) ∧ SV.denL [fnV (81 : FuncId), fnV (82 : FuncId), fnV (83 : FuncId)] = SV.denL [fnV (81 : FuncId), fnV (82 : FuncId), fnV (83 : FuncId)] ∧ (True ∧ True ∧ True ∧ True) ∧ (0 : Nat) = (0 : Nat) ∧ (0 : Nat) = (0 : Nat) ∧ m.1 = m.1 ∧ (∀ (i : Nat), i < m.1 → (SV.agg [i6 (m.fr i), i6 (m.dr i), i6 (m.va i), i6 (m.co i)]).den = (SV.agg [i6 (m.fr i), i6 (m.dr i), i6 (m.va i), i6 (m.co i)]).den ∧ True ∧ True ∧ True ∧ True ∧ True) ∧ (↑m.1 : Int) = (↑m.1 : Int) ∧ (0 : Int) = (↑z : Int) ∧ True) ∧ ∀ (z : Nat), z.le m.n → ((↑z : Int) < (↑m.1 : Int) → (0 : Int) ≤ (↑z : Int) ∧ (↑z : Int) < (↑m.1 : Int) ∧ (0 : Nat) < (1 : Nat) ∧ (¬m.2 (↑z : Int).toNat = (↑j : Int) → ((-9223372036854775808 : Int) ≤ (↑z : Int) + (1 : Int) ∧ (↑z : Int) + (1 : Int) ≤ (9223372036854775807 : Int)) ∧ ∃ z_1, z_1.le m.n ∧ m.1 - z_1 < m.1 - z ∧ cnt m true j z = cnt m true j z_1 ∧ SV.denL [i6 (↑j : Int)] = SV.denL [i6 (↑j : Int)] ∧ (True ∧ True) ∧ SV.denL [m.sv] = SV.denL [m.sv] ∧ ((∀ (i : Nat), i < m.1 → True ∧ True ∧ True ∧ True ∧ True) ∧ True) ∧ SV.denL [fnV (81 : FuncId), fnV (82 : FuncId), fnV (83 : FuncId)] = SV.denL [fnV (81 : FuncId), fnV (82 : FuncId), fnV (83 : FuncId)] ∧ (True ∧ True ∧ True ∧ True) ∧ (0 : Nat) = (0 : Nat) ∧ (0 : Nat) = (0 : Nat) ∧ m.1 = m.1 ∧ (∀ (i : Nat), i < m.1 → (SV.agg [i6 (m.fr i), i6 (m.dr i), i6 (m.va i), i6 (m.co i)]).den = (SV.agg [i6 (m.fr i), i6 (m.dr i), i6 (m.va i),
 i6 (m.co i)]).den ∧ True ∧ True ∧ True ∧ True ∧ True) ∧ (↑m.1 : Int) = (↑m.1 : Int) ∧ (↑z : Int) + (1 : Int) = (↑z_1 : Int) ∧ True) ∧ (¬¬m.2 (↑z : Int).toNat = (↑j : Int) → (0 : Nat) < (1 : Nat) ∧ (¬¬m.4 (↑z : Int).toNat = (1 : Int) → ((-9223372036854775808 : Int) ≤ (↑z : Int) + (1 : Int) ∧ (↑z : Int) + (1 : Int) ≤ (9223372036854775807 : Int)) ∧ ∃ z_1, z_1.le m.n ∧ m.1 - z_1 < m.1 - z ∧ cnt m true j z = cnt m true j z_1 ∧ SV.denL [i6 (↑j : Int)] = SV.denL [i6 (↑j : Int)] ∧ (True ∧ True) ∧ SV.denL [m.sv] = SV.denL [m.sv] ∧ ((∀ (i : Nat), i < m.1 → True ∧ True ∧ True ∧ True ∧ True) ∧ True) ∧ SV.denL [fnV (81 : FuncId), fnV (82 : FuncId), fnV (83 : FuncId)] = SV.denL [fnV (81 : FuncId), fnV (82 : FuncId), fnV (83 : FuncId)] ∧ (True ∧ True ∧ True ∧ True) ∧ (0 : Nat) = (0 : Nat) ∧ (0 : Nat) = (0 : Nat) ∧ m.1 = m.1 ∧ (∀ (i : Nat), i < m.1 → (SV.agg [i6 (m.fr i), i6 (m.dr i), i6 (m.va i), i6 (m.co i)]).den = (SV.agg [i6 (m.fr i), i6 (m.dr i), i6 (m.va i), i6 (m.co i)]).den ∧ True ∧ True ∧ True ∧ True ∧ True) ∧ (↑m.1 : Int) = (↑m.1 : Int) ∧ (↑z : Int) + (1 : Int) = (↑z_1 : Int) ∧ True) ∧ (¬¬¬m.4 (↑z : Int).toNat = (1 : Int) → ((-9223372036854775808 : Int) ≤ (↑z : Int) + (1 : Int) ∧ (↑z : Int) + (1 : Int) ≤ (9223372036854775807 : Int)) ∧ (∀ (i : Nat), i < m.1 → True ∧ True ∧ True ∧ True ∧ True) ∧ SV.agg [SV.val (Value.func (Fn.func (81 : FuncId)) #[] #[]), SV.val (Value.func (Fn.func (82 : FuncId)) #[] #[]), SV.val (Value.func (Fn.func (83 : FuncId)) #[] #[])] = endV true ∧ m.sv = m.sv ∧ (∀ (i : Nat), i < m.1 → True ∧ True ∧ True ∧ True ∧ True) ∧ SV.ipt [SV.val (Value.func (Fn.func (81 : FuncId)) #[] #[]), SV.val (Value.func (Fn.func (82 : FuncId)) #[] #[]), SV.val (Value.func (Fn.func (83 : FuncId)) #[] #[])] = endP true ∧ m.sv = m.sv ∧ okJ m ((↑z : Int) + (1 : Int)) ∧
 m.1 + (1 : Nat) - ((↑z : Int) + (1 : Int)).toNat < M ∧ ((True ∧ True) ∧ ((∀ (i : Nat), i < m.1 → True ∧ True ∧ True ∧ True ∧ True) ∧ True) ∧ (True ∧ True ∧ True ∧ True) ∧ (∀ (i : Nat), i < m.1 → True ∧ True ∧ True ∧ True ∧ True) ∧ (True ∧ True) ∧ ((∀ (i : Nat), i < m.1 → True ∧ True ∧ True ∧ True ∧ True) ∧ True) ∧ (True ∧ True ∧ True ∧ True) ∧ ∃ z_1, (z_1 = (0 : Nat) ∧ (↑z : Int).toNat < m.1 ∧ m.2 (↑z : Int).toNat = (↑j : Int) ∧ pas true (m.va (↑z : Int).toNat) = true) ∧ cnt m true j z = cnt m true j (↑z : Int).toNat + (0 : Nat) ∧ SV.denL [i6 (↑j : Int)] = SV.denL [i6 (↑j : Int)] ∧ (True ∧ True) ∧ SV.denL [m.sv] = SV.denL [m.sv] ∧ ((∀ (i : Nat), i < m.1 → True ∧ True ∧ True ∧ True ∧ True) ∧ True) ∧ SV.denL [fnV (81 : FuncId), fnV (82 : FuncId), fnV (83 : FuncId)] = SV.denL [fnV (81 : FuncId), fnV (82 : FuncId), fnV (83 : FuncId)] ∧ (True ∧ True ∧ True ∧ True) ∧ (0 : Nat) = (0 : Nat) ∧ (0 : Nat) = (0 : Nat) ∧ m.1 = m.1 ∧ (∀ (i : Nat), i < m.1 → (SV.agg [i6 (m.fr i), i6 (m.dr i), i6 (m.va i), i6 (m.co i)]).den = (SV.agg [i6 (m.fr i), i6 (m.dr i), i6 (m.va i), i6 (m.co i)]).den ∧ True ∧ True ∧ True ∧ True ∧ True) ∧ (↑m.1 : Int) = (↑m.1 : Int) ∧ (↑z : Int) = (↑(↑z : Int).toNat : Int) ∧ Fn.func (98 : FuncId) = Fn.func (98 : FuncId) ∧ SV.denL [i6 ((↑z : Int) + (1 : Int))] = SV.denL [SV.int IntKind.i64 ((↑z : Int) + (1 : Int))] ∧ (True ∧ True) ∧ SV.denL [m.sv] = SV.denL [m.sv] ∧ ((∀ (i : Nat), i < m.1 → True ∧ True ∧ True ∧ True ∧ True) ∧ True) ∧ SV.denL [fnV (81 : FuncId), fnV (82 : FuncId), fnV (83 : FuncId)] = SV.denL [SV.val (Value.func (Fn.func (81 : FuncId)) #[] #[]), SV.val (Value.func (Fn.func (82 : FuncId)) #[] #[]), SV.val (Value.func (Fn.func (83 : FuncId)) #[] #[])] ∧ (True ∧ True ∧ True ∧ True) ∧ True) ∧ (∀ (j_1 : Nat),
 j_1 < (led m true ((↑z : Int) + (1 : Int)).toNat).length → ∀ (z_1 : Nat), z_1 = j_1 ∧ (↑z : Int).toNat < m.1 ∧ m.2 (↑z : Int).toNat = (↑j : Int) ∧ pas true (m.va (↑z : Int).toNat) = true → (0 : Nat) < (1 : Nat) ∧ cnt m true j (↑z : Int).toNat + j_1 < (led m true j).length ∧ (↑((led m true ((↑z : Int) + (1 : Int)).toNat).getD j_1 (0 : Nat)) : Int) = (↑((led m true j).getD (cnt m true j (↑z : Int).toNat + j_1) (0 : Nat)) : Int) ∧ (∃ z_2, (z_2 = j_1.succ ∧ (↑z : Int).toNat < m.1 ∧ m.2 (↑z : Int).toNat = (↑j : Int) ∧ pas true (m.va (↑z : Int).toNat) = true) ∧ (cnt m true j (↑z : Int).toNat + j_1).succ = cnt m true j (↑z : Int).toNat + j_1.succ ∧ True) ∧ True) ∧ ∀ (z_1 : Nat), z_1 = (led m true ((↑z : Int) + (1 : Int)).toNat).length ∧ (↑z : Int).toNat < m.1 ∧ m.2 (↑z : Int).toNat = (↑j : Int) ∧ pas true (m.va (↑z : Int).toNat) = true → ((-9223372036854775808 : Int) ≤ (↑(↑z : Int).toNat : Int) + (1 : Int) ∧ (↑(↑z : Int).toNat : Int) + (1 : Int) ≤ (9223372036854775807 : Int)) ∧ ∃ z_2, z_2.le m.n ∧ m.1 - z_2 < m.1 - z ∧ cnt m true j (↑z : Int).toNat + (led m true ((↑z : Int) + (1 : Int)).toNat).length = cnt m true j z_2 ∧ SV.denL [i6 (↑j : Int)] = SV.denL [i6 (↑j : Int)] ∧ (True ∧ True) ∧ SV.denL [m.sv] = SV.denL [m.sv] ∧ ((∀ (i : Nat), i < m.1 → True ∧ True ∧ True ∧ True ∧ True) ∧ True) ∧ SV.denL [fnV (81 : FuncId), fnV (82 : FuncId), fnV (83 : FuncId)] = SV.denL [fnV (81 : FuncId), fnV (82 : FuncId), fnV (83 : FuncId)] ∧ (True ∧ True ∧ True ∧ True) ∧ (0 : Nat) = (0 : Nat) ∧ (0 : Nat) = (0 : Nat) ∧ m.1 = m.1 ∧ (∀ (i : Nat), i < m.1 → (SV.agg [i6 (m.fr i), i6 (m.dr i), i6 (m.va i), i6 (m.co i)]).den = (SV.agg [i6 (m.fr i), i6 (m.dr i), i6 (m.va i), i6 (m.co i)]).den ∧ True ∧ True ∧ True ∧ True ∧ True) ∧ (↑m.1 : Int) = (↑m.1 : Int) ∧ (↑(↑z : Int).toNat : Int) + (1 : Int) =
 (↑z_2 : Int) ∧ True))) ∧ (¬(↑z : Int) < (↑m.1 : Int) → cnt m true j z = (led m true j).length)) ∧ True) := by kernel_rfl
theorem led1F_vc (M : Nat) (m : Mn) (j : Nat) : led1F M m j = ((0 : Nat) < (1 : Nat) ∧ (0 : Nat) < (led m false j).length ∧ (↑j : Int) = (↑((led m false j).getD (0 : Nat) (0 : Nat)) : Int) ∧ ((∃ z, z.le m.n ∧ (1 : Nat) = cnt m false j z ∧ SV.denL [i6 (↑j : Int)] = SV.denL [i6 (↑j : Int)] ∧ (True ∧ True) ∧ SV.denL [m.sv] = SV.denL [m.sv] ∧ ((∀ (i : Nat), i < m.1 → True ∧ True ∧ True ∧ True ∧ True) ∧ True) ∧ SV.denL [fnV (82 : FuncId), fnV (81 : FuncId), fnV (87 : FuncId)] = SV.denL [fnV (82 : FuncId), fnV (81 : FuncId), fnV (87 : FuncId)] ∧ (True ∧ True ∧ True ∧ True) ∧ (0 : Nat) = (0 : Nat) ∧ (0 : Nat) = (0 : Nat) ∧ m.1 = m.1 ∧ (∀ (i : Nat), i < m.1 → (SV.agg [i6 (m.fr i), i6 (m.dr i), i6 (m.va i), i6 (m.co i)]).den = (SV.agg [i6 (m.fr i), i6 (m.dr i), i6 (m.va i), i6 (m.co i)]).den ∧ True ∧ True ∧ True ∧ True ∧ True) ∧ (↑m.1 : Int) = (↑m.1 : Int) ∧ (0 : Int) = (↑z : Int) ∧ True) ∧ ∀ (z : Nat), z.le m.n → ((↑z : Int) < (↑m.1 : Int) → (0 : Int) ≤ (↑z : Int) ∧ (↑z : Int) < (↑m.1 : Int) ∧ (0 : Nat) < (1 : Nat) ∧ (¬m.2 (↑z : Int).toNat = (↑j : Int) → ((-9223372036854775808 : Int) ≤ (↑z : Int) + (1 : Int) ∧ (↑z : Int) + (1 : Int) ≤ (9223372036854775807 : Int)) ∧ ∃ z_1, z_1.le m.n ∧ m.1 - z_1 < m.1 - z ∧ cnt m false j z = cnt m false j z_1 ∧ SV.denL [i6 (↑j : Int)] = SV.denL [i6 (↑j : Int)] ∧ (True ∧ True) ∧ SV.denL [m.sv] = SV.denL [m.sv] ∧ ((∀ (i : Nat), i < m.1 → True ∧ True ∧ True ∧ True ∧ True) ∧ True) ∧ SV.denL [fnV (82 : FuncId), fnV (81 : FuncId), fnV (87 : FuncId)] = SV.denL [fnV (82 : FuncId), fnV (81 : FuncId), fnV (87 : FuncId)] ∧ (True ∧ True ∧ True ∧ True) ∧ (0 : Nat) = (0 : Nat) ∧ (0 : Nat) = (0 : Nat) ∧ m.1 = m.1 ∧ (∀ (i : Nat), i < m.1 → (SV.agg [i6 (m.fr i), i6 (m.dr i), i6 (m.va i), i6 (m.co i)]).den = (SV.agg [i6 (m.fr i), i6 (m.dr i), i6 (m.va i),
 i6 (m.co i)]).den ∧ True ∧ True ∧ True ∧ True ∧ True) ∧ (↑m.1 : Int) = (↑m.1 : Int) ∧ (↑z : Int) + (1 : Int) = (↑z_1 : Int) ∧ True) ∧ (¬¬m.2 (↑z : Int).toNat = (↑j : Int) → (0 : Nat) < (1 : Nat) ∧ (¬m.4 (↑z : Int).toNat = (0 : Int) → ((-9223372036854775808 : Int) ≤ (↑z : Int) + (1 : Int) ∧ (↑z : Int) + (1 : Int) ≤ (9223372036854775807 : Int)) ∧ ∃ z_1, z_1.le m.n ∧ m.1 - z_1 < m.1 - z ∧ cnt m false j z = cnt m false j z_1 ∧ SV.denL [i6 (↑j : Int)] = SV.denL [i6 (↑j : Int)] ∧ (True ∧ True) ∧ SV.denL [m.sv] = SV.denL [m.sv] ∧ ((∀ (i : Nat), i < m.1 → True ∧ True ∧ True ∧ True ∧ True) ∧ True) ∧ SV.denL [fnV (82 : FuncId), fnV (81 : FuncId), fnV (87 : FuncId)] = SV.denL [fnV (82 : FuncId), fnV (81 : FuncId), fnV (87 : FuncId)] ∧ (True ∧ True ∧ True ∧ True) ∧ (0 : Nat) = (0 : Nat) ∧ (0 : Nat) = (0 : Nat) ∧ m.1 = m.1 ∧ (∀ (i : Nat), i < m.1 → (SV.agg [i6 (m.fr i), i6 (m.dr i), i6 (m.va i), i6 (m.co i)]).den = (SV.agg [i6 (m.fr i), i6 (m.dr i), i6 (m.va i), i6 (m.co i)]).den ∧ True ∧ True ∧ True ∧ True ∧ True) ∧ (↑m.1 : Int) = (↑m.1 : Int) ∧ (↑z : Int) + (1 : Int) = (↑z_1 : Int) ∧ True) ∧ (¬¬m.4 (↑z : Int).toNat = (0 : Int) → ((-9223372036854775808 : Int) ≤ (↑z : Int) + (1 : Int) ∧ (↑z : Int) + (1 : Int) ≤ (9223372036854775807 : Int)) ∧ (∀ (i : Nat), i < m.1 → True ∧ True ∧ True ∧ True ∧ True) ∧ SV.agg [SV.val (Value.func (Fn.func (82 : FuncId)) #[] #[]), SV.val (Value.func (Fn.func (81 : FuncId)) #[] #[]), SV.val (Value.func (Fn.func (87 : FuncId)) #[] #[])] = endV false ∧ m.sv = m.sv ∧ (∀ (i : Nat), i < m.1 → True ∧ True ∧ True ∧ True ∧ True) ∧ SV.ipt [SV.val (Value.func (Fn.func (82 : FuncId)) #[] #[]), SV.val (Value.func (Fn.func (81 : FuncId)) #[] #[]), SV.val (Value.func (Fn.func (87 : FuncId)) #[] #[])] = endP false ∧ m.sv = m.sv ∧ okJ m ((↑z : Int) + (1 : Int)) ∧
 m.1 + (1 : Nat) - ((↑z : Int) + (1 : Int)).toNat < M ∧ ((True ∧ True) ∧ ((∀ (i : Nat), i < m.1 → True ∧ True ∧ True ∧ True ∧ True) ∧ True) ∧ (True ∧ True ∧ True ∧ True) ∧ (∀ (i : Nat), i < m.1 → True ∧ True ∧ True ∧ True ∧ True) ∧ (True ∧ True) ∧ ((∀ (i : Nat), i < m.1 → True ∧ True ∧ True ∧ True ∧ True) ∧ True) ∧ (True ∧ True ∧ True ∧ True) ∧ ∃ z_1, (z_1 = (0 : Nat) ∧ (↑z : Int).toNat < m.1 ∧ m.2 (↑z : Int).toNat = (↑j : Int) ∧ pas false (m.va (↑z : Int).toNat) = true) ∧ cnt m false j z = cnt m false j (↑z : Int).toNat + (0 : Nat) ∧ SV.denL [i6 (↑j : Int)] = SV.denL [i6 (↑j : Int)] ∧ (True ∧ True) ∧ SV.denL [m.sv] = SV.denL [m.sv] ∧ ((∀ (i : Nat), i < m.1 → True ∧ True ∧ True ∧ True ∧ True) ∧ True) ∧ SV.denL [fnV (82 : FuncId), fnV (81 : FuncId), fnV (87 : FuncId)] = SV.denL [fnV (82 : FuncId), fnV (81 : FuncId), fnV (87 : FuncId)] ∧ (True ∧ True ∧ True ∧ True) ∧ (0 : Nat) = (0 : Nat) ∧ (0 : Nat) = (0 : Nat) ∧ m.1 = m.1 ∧ (∀ (i : Nat), i < m.1 → (SV.agg [i6 (m.fr i), i6 (m.dr i), i6 (m.va i), i6 (m.co i)]).den = (SV.agg [i6 (m.fr i), i6 (m.dr i), i6 (m.va i), i6 (m.co i)]).den ∧ True ∧ True ∧ True ∧ True ∧ True) ∧ (↑m.1 : Int) = (↑m.1 : Int) ∧ (↑z : Int) = (↑(↑z : Int).toNat : Int) ∧ Fn.func (98 : FuncId) = Fn.func (98 : FuncId) ∧ SV.denL [i6 ((↑z : Int) + (1 : Int))] = SV.denL [SV.int IntKind.i64 ((↑z : Int) + (1 : Int))] ∧ (True ∧ True) ∧ SV.denL [m.sv] = SV.denL [m.sv] ∧ ((∀ (i : Nat), i < m.1 → True ∧ True ∧ True ∧ True ∧ True) ∧ True) ∧ SV.denL [fnV (82 : FuncId), fnV (81 : FuncId), fnV (87 : FuncId)] = SV.denL [SV.val (Value.func (Fn.func (82 : FuncId)) #[] #[]), SV.val (Value.func (Fn.func (81 : FuncId)) #[] #[]), SV.val (Value.func (Fn.func (87 : FuncId)) #[] #[])] ∧ (True ∧ True ∧ True ∧ True) ∧ True) ∧ (∀ (j_1 : Nat),
 j_1 < (led m false ((↑z : Int) + (1 : Int)).toNat).length → ∀ (z_1 : Nat), z_1 = j_1 ∧ (↑z : Int).toNat < m.1 ∧ m.2 (↑z : Int).toNat = (↑j : Int) ∧ pas false (m.va (↑z : Int).toNat) = true → (0 : Nat) < (1 : Nat) ∧ cnt m false j (↑z : Int).toNat + j_1 < (led m false j).length ∧ (↑((led m false ((↑z : Int) + (1 : Int)).toNat).getD j_1 (0 : Nat)) : Int) = (↑((led m false j).getD (cnt m false j (↑z : Int).toNat + j_1) (0 : Nat)) : Int) ∧ (∃ z_2, (z_2 = j_1.succ ∧ (↑z : Int).toNat < m.1 ∧ m.2 (↑z : Int).toNat = (↑j : Int) ∧ pas false (m.va (↑z : Int).toNat) = true) ∧ (cnt m false j (↑z : Int).toNat + j_1).succ = cnt m false j (↑z : Int).toNat + j_1.succ ∧ True) ∧ True) ∧ ∀ (z_1 : Nat), z_1 = (led m false ((↑z : Int) + (1 : Int)).toNat).length ∧ (↑z : Int).toNat < m.1 ∧ m.2 (↑z : Int).toNat = (↑j : Int) ∧ pas false (m.va (↑z : Int).toNat) = true → ((-9223372036854775808 : Int) ≤ (↑(↑z : Int).toNat : Int) + (1 : Int) ∧ (↑(↑z : Int).toNat : Int) + (1 : Int) ≤ (9223372036854775807 : Int)) ∧ ∃ z_2, z_2.le m.n ∧ m.1 - z_2 < m.1 - z ∧ cnt m false j (↑z : Int).toNat + (led m false ((↑z : Int) + (1 : Int)).toNat).length = cnt m false j z_2 ∧ SV.denL [i6 (↑j : Int)] = SV.denL [i6 (↑j : Int)] ∧ (True ∧ True) ∧ SV.denL [m.sv] = SV.denL [m.sv] ∧ ((∀ (i : Nat), i < m.1 → True ∧ True ∧ True ∧ True ∧ True) ∧ True) ∧ SV.denL [fnV (82 : FuncId), fnV (81 : FuncId), fnV (87 : FuncId)] = SV.denL [fnV (82 : FuncId), fnV (81 : FuncId), fnV (87 : FuncId)] ∧ (True ∧ True ∧ True ∧ True) ∧ (0 : Nat) = (0 : Nat) ∧ (0 : Nat) = (0 : Nat) ∧ m.1 = m.1 ∧ (∀ (i : Nat), i < m.1 → (SV.agg [i6 (m.fr i), i6 (m.dr i), i6 (m.va i), i6 (m.co i)]).den = (SV.agg [i6 (m.fr i), i6 (m.dr i), i6 (m.va i), i6 (m.co i)]).den ∧ True ∧ True ∧ True ∧ True ∧ True) ∧ (↑m.1 : Int) = (↑m.1 : Int) ∧ (↑(↑z : Int).toNat : Int) +
 (1 : Int) = (↑z_2 : Int) ∧ True))) ∧ (¬(↑z : Int) < (↑m.1 : Int) → cnt m false j z = (led m false j).length)) ∧ True) := by kernel_rfl
end Go.Proofs.Ytpannbkmpbioiaa

namespace Go.Proofs.Ytpannbkmpbioiaa
open Go Go.Lg
attribute [local irreducible] bodyH
theorem chk_true (w : Nw) (z : Int) : chkG w z := by
  rw [chkG_vc]
  simp only [and_true, true_and, Nat.zero_lt_one, implies_true, Classical.not_not]
  refine ⟨fun h => by simp [chkN, h], fun h => ⟨fun h1 => ?_, fun h1 => ⟨fun h2 => ?_, fun h2 => ?_⟩⟩⟩
  · simp only [chkN, h, if_true]; rw [if_neg (by omega)]
  · simp only [chkN, h, if_true]; rw [if_neg (by omega)]
  · simp only [chkN, h, if_true]; rw [if_pos (by omega)]
theorem way_dep {m : Mn} {z : Int} (h : okJ m z) : ∀ i, i < dpt m z.toNat z.toNat → 0 < up m z.toNat i ∧ up m z.toNat i ≤ m.n := fun i hi => by
  have hz := h.hz
  obtain ⟨h1, h2, h3⟩ := way_at h.hm z.toNat z.toNat (Nat.le_refl _) (by omega) i (by omega)
  omega
theorem fed_true {m : Mn} {z : Int} (h : okJ m z) : fedG m z := by
  rw [fedG_vc]
  have hw := way_dep h
  simp only [and_true, true_and, Nat.zero_lt_one, implies_true]
  refine ⟨h, ⟨0, ⟨rfl, fun k hk => by omega⟩, ?_⟩, fun j hj z1 hz1 => ?_, fun z1 hz1 => ?_⟩
  · simp [stt]
  · obtain ⟨rfl, hz1⟩ := hz1
    obtain ⟨h1, h2⟩ := hw z1 hj
    have e : ((up m z.toNat z1 : Int) - 1).toNat = up m z.toNat z1 - 1 := by omega
    rw [e]
    refine ⟨by omega, by omega, fun h3 => ?_, fun h3 => ⟨fun h4 => ⟨z1 + 1, ⟨rfl, to_succ hz1 h3⟩, ?_⟩, fun h4 => ⟨z1 + 1, ⟨rfl, to_succ hz1 h3⟩, ?_⟩⟩⟩
    · unfold fedS; rw [if_pos ⟨z1, hj, h3⟩]
    · unfold stt; rw [if_pos ⟨z1, by omega, h4⟩]
    · unfold stt
      congr 1
      apply propext
      exact ⟨fun ⟨k, hk, hv⟩ => ⟨k, by omega, hv⟩, fun ⟨k, hk, hv⟩ => ⟨k, by
        rcases Nat.lt_succ_iff_lt_or_eq.1 hk with h' | rfl
        · exact h'
        · exact absurd hv h4, hv⟩⟩
  · obtain ⟨rfl, hz1⟩ := hz1
    unfold fedS; rw [if_neg (fun ⟨k, hk, hv⟩ => hz1 k hk hv)]
theorem opn_true {m : Mn} {z : Int} (h : okJ m z) : opnG m z := by
  rw [opnG_vc]
  have hw := way_dep h
  have hn := h.hn
  simp only [and_true, true_and, Nat.zero_lt_one, implies_true, Int.toNat_natCast, Nat.add_zero, Nat.zero_add, ite_self]
  refine ⟨by omega, by omega, by omega, by omega, h, ⟨0, rfl, fun i hi => ?_⟩, fun j hj z1 hz1 => ?_, fun z1 hz1 => ?_⟩
  · simp [vaT]
  · subst hz1
    obtain ⟨h1, h2⟩ := hw z1 hj
    have e : ((up m z.toNat z1 : Int) - 1).toNat = up m z.toNat z1 - 1 := by omega
    rw [e]
    refine ⟨by omega, by omega, by omega, by omega, z1 + 1, rfl, fun i hi => ?_⟩
    unfold vaT
    by_cases h3 : i = up m z.toNat z1 - 1
    · rw [if_pos h3, if_pos ⟨z1, by omega, h3.symm⟩]
    · rw [if_neg h3]
      congr 1
      apply propext
      exact ⟨fun ⟨k, hk, hv⟩ => ⟨k, by omega, hv⟩, fun ⟨k, hk, hv⟩ => ⟨k, by
        rcases Nat.lt_succ_iff_lt_or_eq.1 hk with h' | rfl
        · exact h'
        · exact absurd hv.symm h3, hv⟩⟩
  · subst hz1
    exact ⟨by omega, fun i hi => rfl⟩
theorem lo_true (x y : Int) : loG x y := by rw [loG_vc]; simp
theorem hi_true (x y : Int) : hiG x y := by rw [hiG_vc]; simp
theorem pasT_true (v : Int) : pasTG v := by rw [pasTG_vc]; simp
theorem pasF_true (v : Int) : pasFG v := by rw [pasFG_vc]; simp
theorem endT_true : endTG := by rw [endTG_vc]; exact ⟨Nat.one_pos, rfl, rfl, rfl, trivial⟩
theorem endF_true : endFG := by rw [endFG_vc]; exact ⟨Nat.one_pos, rfl, rfl, rfl, trivial⟩
theorem gov_true (a b c d g p : Int) : govG a b c d g p := by
  rw [govG_vc]
  refine ⟨Nat.one_pos, fun h => ⟨by simp [govd, h], trivial⟩, fun h => ⟨Nat.one_pos, by simp [govd, h], trivial⟩⟩
theorem ledT_true (m : Mn) (z : Int) : ledTG m z := by rw [ledTG_vc]; simp
theorem ledF_true (m : Mn) (z : Int) : ledFG m z := by rw [ledFG_vc]; simp
end Go.Proofs.Ytpannbkmpbioiaa
