import Derived.Test.YtpannbkmpbioiaaRe
import Derived.Test.YtpannbkmpbioiaaQpQqQr
set_option linter.unusedVariables false
namespace Go.Proofs.Ytpannbkmpbioiaa
open Go Go.Lg
attribute [local irreducible] bodyH
def factC (g : FuncId) (a : List AV) (r : SV) : Ctr := ⟨g, fun x k => SV.denL x = a ∧ k r⟩
def lst2 (x : SV) : Int := prI (nth' (cells' (eltV (nth' (cells' x) 2) 2)) 2)
def c12 : Ctr := factC 12 [n50, I 3] (.tup [i6 1, i6 0])
def c14 : Ctr := factC 14 [n50, I 2] (.tup [.agg [i6 66, i6 100], i6 0])
def c16 : Ctr := ⟨16, fun x k => match x with
  | [y] => (match eqI' (lst2 y) 50 with
    | true => SV.denL [y] = [n50] ∧ k (.tup [i6 0, .bool false, i6 4])
    | false => SV.denL [y] = [n80] ∧ k (.tup [i6 2, .bool true, i6 0]))
  | _ => False⟩
def setV : SV := .agg [.bool true, .bool true, .bool false, .bool false, .bool false, .bool false, .bool false, .bool false]
def c40 : Ctr := factC 40 [n80] (.bool true)
def c42 : Ctr := factC 42 [n80] (.tup [setV, .bool true])
def c47 : Ctr := factC 47 [n80] (.tup [setV, .bool true])
def numV : SV := .lst 1 2 fun i => .agg [i6 i]
def c43 : Ctr := factC 43 [setV.den] numV
def c44 : Ctr := factC 44 [setV.den, .isl 4 [.agg [I 0, I 2, I 0, I 10], .agg [I 1, I 4, I 0, I 7], .agg [I 0, I 5, I 2, I 3]]] (i6 17)
def c22 : Ctr := factC 22 [numV.den, .isl 1 [I 0, I 1]] (.bool true)
def spnC : Ctr := ⟨27, fun x k => match x with
  | [.int .i64 a, .int .i64 b] => k (.agg [i6 a, i6 b])
  | _ => False⟩
noncomputable def spnG (a b : Int) : Prop := funH Try.prog (ctrs []) noX (ictrs []) noL noL 27 [i6 a, i6 b] (.agg [i6 a, i6 b])
noncomputable def csA : CSpec := ctrsF [c43] (ctrs [spnC, c12, c14, c16, c40, c42, c47, c44, c22])
noncomputable def cxA : CX := inl Try.prog csA none (ictrs []) 18 noL noL (inl Try.prog csA none (ictrs []) 20 noL noL (inl Try.prog csA none (ictrs []) 32 noL noL (litX noX)))
noncomputable def awakeG : Prop := funH Try.prog csA cxA (ictrs []) noL noL 11 [] (.bool true)
end Go.Proofs.Ytpannbkmpbioiaa

set_option linter.unusedVariables false
set_option maxRecDepth 100000
namespace Go.Proofs.Ytpannbkmpbioiaa
open Go Go.Lg
attribute [local irreducible] bodyH
theorem spnG_vc (a b : Int) : spnG a b = ((0 : Nat) < 1 ∧ a = a ∧ b = b ∧ True) := by kernel_rfl
theorem spn_true (a b : Int) : spnG a b := by
  rw [spnG_vc]; simp
theorem awakeG_vc : awakeG = (((∀ i : Nat, (@Eq Bool (true) (true))) ∧ ((∀ i : Nat, (@Eq Bool (true) (true))) ∧ ((∀ i : Nat, (@Eq Bool (true) (true))) ∧ True))) ∧ (((∀ i : Nat, (@Eq Bool (true) (true))) ∧ ((∀ i : Nat, (@Eq Bool (true) (true))) ∧ True)) ∧ ((1 ≤ 1) ∧ ((1 ≤ 1) ∧ ((4 ≤ 4) ∧ ((∀ i : Nat, ((i + 1 ≤ 4) → (((5 : Nat) = 5) ∧ (True ∧ (True ∧ (True ∧ (True ∧ (True ∧ True)))))))) ∧ ((3 ≤ 3) ∧ ((∀ i : Nat, ((i + 1 ≤ 3) → (((4 : Nat) = 4) ∧ (True ∧ (True ∧ (True ∧ (True ∧ True))))))) ∧ ((@Eq (List AV) [n50, I 3] [n50, I 3]) ∧ ((1 ≤ 1) ∧ ((4 ≤ 4) ∧ ((∀ i : Nat, ((i + 1 ≤ 4) → (((5 : Nat) = 5) ∧ (True ∧ (True ∧ (True ∧ (True ∧ (True ∧ True)))))))) ∧ ((3 ≤ 3) ∧ ((∀ i : Nat, ((i + 1 ≤ 3) → (((4 : Nat) = 4) ∧ (True ∧ (True ∧ (True ∧ (True ∧ True))))))) ∧ ((@Eq (List AV) [n50, I 2] [n50, I 2]) ∧ ((1 ≤ 1) ∧ ((4 ≤ 4) ∧ ((∀ i : Nat, ((i + 1 ≤ 4) → (((5 : Nat) = 5) ∧ (True ∧ (True ∧ (True ∧ (True ∧ (True ∧ True)))))))) ∧ ((3 ≤ 3) ∧ ((∀ i : Nat, ((i + 1 ≤ 3) → (((4 : Nat) = 4) ∧ (True ∧ (True ∧ (True ∧ (True ∧ True))))))) ∧ ((@Eq (List AV) [n50] [n50]) ∧ ((1 ≤ 1) ∧ (((0 : Int) ≤ 2) ∧ (((0 : Int) ≤ 1) ∧ ((3 ≤ 5) ∧ ((3 ≤ 4) ∧ ((∀ i' : Nat, (@Eq Bool (true) (true))) ∧ ((1 ≤ 1) ∧ ((4 ≤ 4) ∧ ((∀ i : Nat, ((i + 1 ≤ 4) → (((5 : Nat) = 5) ∧ (True ∧ (True ∧ (True ∧ (True ∧ (True ∧ True)))))))) ∧ ((3 ≤ 3) ∧ ((∀ i : Nat, ((i + 1 ≤ 3) → (((4 : Nat) = 4) ∧ (True ∧ (True ∧ (True ∧ (True ∧ True))))))) ∧ ((@Eq (List AV) [n80] [n80]) ∧ ((1 ≤ 1) ∧ ((1 ≤ 1) ∧ ((4 ≤ 4) ∧ ((∀ i : Nat, ((i + 1 ≤ 4) → (((5 : Nat) = 5) ∧ (True ∧ (True ∧ (True ∧ (True ∧ (True ∧ True)))))))) ∧ ((3 ≤ 3) ∧ ((∀ i : Nat, ((i + 1 ≤ 3) → (((4 : Nat) = 4) ∧ (True ∧ (True ∧ (True ∧ (True ∧ True))))))) ∧ ((@Eq (List AV) [n80] [n80]) ∧ ((1 ≤ 1) ∧ ((4 ≤ 4) ∧ ((∀ i : Nat, ((i + 1 ≤ 4) → (((5 : Nat) = 5) ∧ (True ∧ (True ∧ (True ∧ (True ∧ (True ∧ True)))))))) ∧ ((3 ≤ 3) ∧ ((∀ i : Nat, ((i + 1 ≤ 3) → (((4 : Nat) = 4) ∧ (True ∧ (True ∧ (True ∧ (True ∧ True))))))) ∧ ((@Eq (List AV) [n80] [n80]) ∧ ((1 ≤ 1) ∧ ((@Eq (List AV) [setV.den] [setV.den]) ∧ ((1 ≤ 1) ∧ ((1 ≤ 1) ∧ ((3 ≤ 3) ∧ ((∀ i : Nat, ((i + 1 ≤ 3) → (((4 : Nat) = 4) ∧ (True ∧ (True ∧ (True ∧ (True ∧ True))))))) ∧ ((@Eq (List AV) [setV.den, AV.isl (4 : Nat) [AV.agg [I 0, I 2, I 0, I 10], AV.agg [I 1, I 4, I 0, I 7], AV.agg [I 0, I 5, I 2, I 3]]] [setV.den, AV.isl (4 : Nat) [AV.agg [I 0, I 2, I 0, I 10], AV.agg [I 1, I 4, I 0, I 7], AV.agg [I 0, I 5, I 2, I 3]]]) ∧ ((1 ≤ 1) ∧ ((1 ≤ 1) ∧ ((4 ≤ 4) ∧ ((∀ i : Nat, ((i + 1 ≤ 4) → (((5 : Nat) = 5) ∧ (True ∧ (True ∧ (True ∧ (True ∧ (True ∧ True)))))))) ∧ ((3 ≤ 3) ∧ ((∀ i : Nat, ((i + 1 ≤ 3) → (((4 : Nat) = 4) ∧ (True ∧ (True ∧ (True ∧ (True ∧ True))))))) ∧ ((@Eq (List AV) [n80] [n80]) ∧ ((1 ≤ 1) ∧ ((4 ≤ 4) ∧ ((∀ i : Nat, ((i + 1 ≤ 4) → (((5 : Nat) = 5) ∧ (True ∧ (True ∧ (True ∧ (True ∧ (True ∧ True)))))))) ∧ ((3 ≤ 3) ∧ ((∀ i : Nat, ((i + 1 ≤ 3) → (((4 : Nat) = 4) ∧ (True ∧ (True ∧ (True ∧ (True ∧ True))))))) ∧ ((@Eq (List AV) [n80] [n80]) ∧ ((1 ≤ 1) ∧ ((@Eq (List AV) [setV.den] [setV.den]) ∧ ((((1 : Int) = 1) → ((((0 : Int) = 0) → ((1 ≤ 1) ∧ (((((66 : Int) = 66) ∧ ((100 : Int) = 100)) → ((((0 : Int) = 0) → ((((4 : Int) = 4) → ((((2 : Int) = 2) → ((((0 : Int) = 0) → (((∀ i : Nat, (@Eq Bool (true) (true))) ∧ True) ∧ ((∀ i : Nat, ((i + 1 ≤ 2) → (True ∧ True))) ∧ ((∀ i : Nat, ((i + 1 ≤ 2) → True)) ∧ ((@Eq (List AV) [numV.den, AV.isl (1 : Nat) [I 0, I 1]] [numV.den, AV.isl (1 : Nat) [I 0, I 1]]) ∧ ((((17 : Int) = 17) → ((((0 : Int) = 0) → (((∀ i : Nat, (@Eq Bool (true) (true))) ∧ True) ∧ ((∀ i : Nat, ((i + 1 ≤ 2) → (True ∧ True))) ∧ ((∀ i : Nat, ((i + 1 ≤ 2) → True)) ∧ ((@Eq (List AV) [numV.den, AV.isl (1 : Nat) [I 0, I 1]] [numV.den, AV.isl (1 : Nat) [I 0, I 1]]) ∧ ((((0 : Int) = 0) ↔ (@Eq Bool (true) (true))) ∧ True)))))) ∧ ((¬ ((0 : Int) = 0)) → ((@Eq Bool (false) (true)) ∧ True)))) ∧ ((¬ ((17 : Int) = 17)) → ((@Eq Bool (false) (true)) ∧ True)))))))) ∧ ((¬ ((0 : Int) = 0)) → ((@Eq Bool (false) (true)) ∧ True)))) ∧ ((¬ ((2 : Int) = 2)) → ((@Eq Bool (false) (true)) ∧ True)))) ∧ ((¬ ((4 : Int) = 4)) → ((@Eq Bool (false) (true)) ∧ True)))) ∧ ((¬ ((0 : Int) = 0)) → ((@Eq Bool (false) (true)) ∧ True)))) ∧ ((¬ (((66 : Int) = 66) ∧ ((100 : Int) = 100))) → ((@Eq Bool (false) (true)) ∧ True))))) ∧ ((¬ ((0 : Int) = 0)) → ((@Eq Bool (false) (true)) ∧ True)))) ∧ ((¬ ((1 : Int) = 1)) → ((@Eq Bool (false) (true)) ∧ True))))))))))))))))))))))))))))))))))))))))))))))))))))))))))))))))))))))) := by kernel_rfl
theorem awake_true : awakeG := by
  rw [awakeG_vc]
  simp
theorem factC_ok {g : FuncId} {a : List AV} {r : SV} (hc : callable Try.prog g = true) (hd : Does Try.prog g false a r.den) (hp : plainS r) : (factC g a r).Ok Try.prog := by
  refine ⟨hc, fun x k hk => ?_⟩
  obtain ⟨h1, h2⟩ := hk
  exact ⟨r, by rw [h1]; exact hd.plain hp, h2⟩
theorem c16_ok : c16.Ok Try.prog := by
  refine ⟨by kernel_rfl, fun x k hk => ?_⟩
  simp only [c16] at hk
  split at hk
  · rename_i y
    split at hk
    · exact ⟨_, by rw [hk.1]; exact Does.plain (res := .tup [i6 0, .bool false, i6 4]) d16a_does (by simp [plainS, plainS.plainL]), hk.2⟩
    · exact ⟨_, by rw [hk.1]; exact Does.plain (res := .tup [i6 2, .bool true, i6 0]) d16b_does (by simp [plainS, plainS.plainL]), hk.2⟩
  · exact hk.elim
theorem spn_ok : spnC.Ok Try.prog := by
  refine ⟨by kernel_rfl, fun x k hk => ?_⟩
  simp only [spnC] at hk
  split at hk
  · rename_i a b
    have hh := spn_true a b
    unfold spnG at hh
    exact ⟨_, okV nil_cs nil_x nil_ic hh (by simp [plainS, plainS.plainL]), hk⟩
  · exact hk.elim
theorem c43_ok : c43.OkF Try.prog := by
  refine ⟨by kernel_rfl, fun x k hk => ?_⟩
  obtain ⟨h1, h2⟩ := hk
  exact ⟨numV, by rw [h1]; exact d43_does, h2⟩
theorem csA_sound : SoundS Try.prog csA := ctrsF_sound (ctrs_sound (by
  intro x hx
  simp only [List.mem_cons, List.not_mem_nil, or_false] at hx
  rcases hx with rfl | rfl | rfl | rfl | rfl | rfl | rfl | rfl | rfl
  · exact spn_ok
  · exact factC_ok (by kernel_rfl) d12_does (by simp [plainS, plainS.plainL])
  · exact factC_ok (by kernel_rfl) d14_does (by simp [plainS, plainS.plainL])
  · exact c16_ok
  · exact factC_ok (by kernel_rfl) d40_does (by simp [plainS])
  · exact factC_ok (by kernel_rfl) d42_does (by simp [plainS, plainS.plainL, setV])
  · exact factC_ok (by kernel_rfl) d47_does (by simp [plainS, plainS.plainL, setV])
  · exact factC_ok (by kernel_rfl) d44_does (by simp [plainS])
  · exact factC_ok (by kernel_rfl) d22_does (by simp [plainS]))) (by
  intro x hx
  simp only [List.mem_cons, List.not_mem_nil, or_false] at hx
  subst hx
  exact c43_ok)
theorem cxA_sound : SoundXH Try.prog noGhost γ0 cxA :=
  inl_sound (ys := none) csA_sound (inl_sound (ys := none) csA_sound (inl_sound csA_sound (ys := none) (litX_sound noX_sound) trivial nil_ic mixed) trivial nil_ic mixed) trivial nil_ic mixed
theorem alive_ok : aliveC.Ok Try.prog := by
  refine ⟨by kernel_rfl, fun x k hk => ?_⟩
  simp only [aliveC] at hk
  split at hk
  · have hh := awake_true
    unfold awakeG at hh
    exact ⟨_, okV csA_sound cxA_sound nil_ic hh (by simp [plainS]), hk⟩
  · exact hk.elim
end Go.Proofs.Ytpannbkmpbioiaa
