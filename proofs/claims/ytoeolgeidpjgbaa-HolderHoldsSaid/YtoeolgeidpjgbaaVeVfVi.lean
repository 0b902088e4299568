import Derived.Test.YtoeolgeidpjgbaaVaVbVcVd
set_option linter.unusedVariables false
namespace Go.Proofs.Ytoeolgeidpjgbaa
open Go Go.Lg
attribute [local irreducible] funS
def prA : SV → Int
  | .agg [.int _ a, .int _ _] => a
  | _ => 0
def prR : SV → Int
  | .agg [.int _ _, .int _ r] => r
  | _ => 0
/-- a contract on lifts -/
def lstC (g : FuncId) (C : Nat → (Nat → Int) → (Nat → Int) → List SV → (SV → Prop) → Prop) : Ctr := ⟨g, fun args k => match args with
  | .lst sz n f :: r => sz = 2 ∧ f = (fun i => .agg [.int .i64 (prA (f i)), .int .i64 (prR (f i))]) ∧ C n (fun i => prA (f i)) (fun i => prR (f i)) r k
  | _ => False⟩
theorem lstC_ok {g : FuncId} {C : Nat → (Nat → Int) → (Nat → Int) → List SV → (SV → Prop) → Prop} (hc : callable Try.prog g = true)
    (h : ∀ n A R r k, C n A R r k → ∃ res, Does Try.prog g true (SV.denL (lifts n A R :: r)) res.den ∧ k res) : (lstC g C).Ok Try.prog := by
  refine ⟨hc, fun args k hk => ?_⟩
  simp only [lstC] at hk
  split at hk
  · rename_i sz n f r
    obtain ⟨rfl, hf, hC⟩ := hk
    obtain ⟨res, h1, h2⟩ := h n _ _ r k hC
    have e : SV.lst 2 n f = lifts n (fun i => prA (f i)) (fun i => prR (f i)) := by unfold lifts; rw [← hf]
    rw [e]
    exact ⟨res, h1, h2⟩
  · exact hk.elim
def validC (g : FuncId) : Ctr := lstC g fun n A R r k => match r with
  | [] => k (.dec (vL n A R) (Classical.propDecidable _))
  | _ => False
def topC (g : FuncId) : Ctr := lstC g fun n A R r k => match r with
  | [] => vL n A R ∧ k (.int .i64 (sI R n))
  | _ => False
def volC (g : FuncId) : Ctr := lstC g fun n A R r k => match r with
  | [.int .i64 h] => (vL n A R ∧ 0 ≤ h ∧ h ≤ 1000000) ∧ k (.int .i64 (vI A R h n))
  | _ => False
theorem csA_sound : SoundS Try.prog csA := ctrs_sound (by
  intro x hx
  simp only [List.mem_cons, List.not_mem_nil, or_false] at hx
  rcases hx with rfl | rfl
  · exact isFrom_ok
  · exact in_ok)
theorem valid_ok : (validC 39).Ok Try.prog := lstC_ok (by kernel_rfl) fun n A R r k hk => by
  split at hk
  · have hh := valid_true n A R
    unfold validG at hh
    exact ⟨_, Does.plain (funS_does csA_sound mixed hh) trivial, hk⟩
  · exact hk.elim
theorem lifts_ok : (validC 38).Ok Try.prog := lstC_ok (by kernel_rfl) fun n A R r k hk => by
  split at hk
  · have hh := lifts_true n A R
    unfold liftsG at hh
    exact ⟨_, Does.plain (funS_does csA_sound mixed hh) trivial, hk⟩
  · exact hk.elim
theorem top_ok : (topC 41).Ok Try.prog := lstC_ok (by kernel_rfl) fun n A R r k hk => by
  split at hk
  · have hh := top_true n A R hk.1
    unfold topG at hh
    exact ⟨_, Does.plain (funS_does csA_sound mixed hh) trivial, hk.2⟩
  · exact hk.elim
theorem top2_ok : (topC 44).Ok Try.prog := lstC_ok (by kernel_rfl) fun n A R r k hk => by
  split at hk
  · have hh := top2_true n A R hk.1
    unfold topG' at hh
    exact ⟨_, Does.plain (funS_does csA_sound mixed hh) trivial, hk.2⟩
  · exact hk.elim
theorem vol_ok : (volC 42).Ok Try.prog := lstC_ok (by kernel_rfl) fun n A R r k hk => by
  split at hk
  · rename_i h
    have hh := vol_true n A R h hk.1.1 hk.1.2.1 hk.1.2.2
    unfold volG at hh
    exact ⟨_, Does.plain (funS_does csA_sound mixed hh) trivial, hk.2⟩
  · exact hk.elim
theorem vol2_ok : (volC 45).Ok Try.prog := lstC_ok (by kernel_rfl) fun n A R r k hk => by
  split at hk
  · rename_i h
    have hh := vol2_true n A R h hk.1.1 hk.1.2.1 hk.1.2.2
    unfold volG' at hh
    exact ⟨_, Does.plain (funS_does csA_sound mixed hh) trivial, hk.2⟩
  · exact hk.elim
/-! Volume -/
noncomputable def csB : CSpec := ctrs [fromC 40, fromC 43, spanC 46, spanC 48, validC 39, validC 38, topC 41, topC 44, volC 42, volC 45]
theorem csB_sound : SoundS Try.prog csB := ctrs_sound (by
  intro x hx
  simp only [List.mem_cons, List.not_mem_nil, or_false] at hx
  rcases hx with rfl | rfl | rfl | rfl | rfl | rfl | rfl | rfl | rfl | rfl
  · exact isFrom_ok
  · exact in_ok
  · exact vspan_ok
  · exact span_ok
  · exact valid_ok
  · exact lifts_ok
  · exact top_ok
  · exact top2_ok
  · exact vol_ok
  · exact vol2_ok)
/-- what Volume answers: the number and the error -/
def volZ (n : Nat) (A R : Nat → Int) (h : Int) (v e : Int) : Prop := (¬ vL n A R → v = 0 ∧ e = 1) ∧ (vL n A R → (¬ (0 ≤ h ∧ h ≤ sI R n) → v = 0 ∧ e = 2) ∧ ((0 ≤ h ∧ h ≤ sI R n) → v = vI A R h n ∧ e = 0))
noncomputable def volumeG (n : Nat) (A R : Nat → Int) (h v e : Int) : Prop := funS Try.prog csB (fun _ => none) 15 [lifts n A R, .int .i64 h] (.tup [.int .i64 v, .int .i64 e])
noncomputable def volumeG' (n : Nat) (A R : Nat → Int) (h v e : Int) : Prop := funS Try.prog csB (fun _ => none) 16 [lifts n A R, .int .i64 h] (.tup [.int .i64 v, .int .i64 e])
noncomputable def heldG (n : Nat) (A R : Nat → Int) (a b c d : Int) (x y : Int) : Prop := funS Try.prog csB (fun _ => none) 47 [lifts n A R, .agg [.int .i64 a, .int .i64 b], .agg [.int .i64 c, .int .i64 d]] (.agg [.int .i64 x, .int .i64 y])
end Go.Proofs.Ytoeolgeidpjgbaa

set_option linter.unusedVariables false
namespace Go.Proofs.Ytoeolgeidpjgbaa
open Go Go.Lg
attribute [local irreducible] funS
open Classical in
noncomputable def volV (n : Nat) (A R : Nat → Int) (h : Int) : Int := if vL n A R then (if 0 ≤ h ∧ h ≤ sI R n then vI A R h n else 0) else 0
open Classical in
noncomputable def volE (n : Nat) (A R : Nat → Int) (h : Int) : Int := if vL n A R then (if 0 ≤ h ∧ h ≤ sI R n then 0 else 2) else 1
def lf (A R : Nat → Int) : Nat → SV := fun i => .agg [.int .i64 (A i), .int .i64 (R i)]
def pre (n : Nat) (A R : Nat → Int) (X : Prop) : Prop := (∀ i : Nat, i < n → True ∧ True ∧ True) ∧ (2 : Nat) = 2 ∧ lf A R = lf A R ∧ X
theorem pre_eq {n A R X} : pre n A R X = X := by simp [pre]
def i64 (z : Int) : Prop := (-9223372036854775808 : Int) ≤ z ∧ z ≤ (9223372036854775807 : Int)
theorem volumeG_vc (n : Nat) (A R : Nat → Int) (h v e : Int) : volumeG n A R h v e =
  pre n A R ((¬ vL n A R → 0 = v ∧ 1 = e ∧ True) ∧ (¬¬ vL n A R → pre n A R (vL n A R ∧ (¬ (0 ≤ h ∧ h ≤ sI R n) → 0 = v ∧ 2 = e ∧ True) ∧
    (¬¬ (0 ≤ h ∧ h ≤ sI R n) → pre n A R ((vL n A R ∧ 0 ≤ h ∧ h ≤ 1000000) ∧ vI A R h n = v ∧ 0 = e ∧ True))))) := by kernel_rfl
theorem volumeG2_vc (n : Nat) (A R : Nat → Int) (h v e : Int) : volumeG' n A R h v e =
  pre n A R ((¬ vL n A R → 0 = v ∧ 1 = e ∧ True) ∧ (¬¬ vL n A R → pre n A R (vL n A R ∧ (¬ (0 ≤ h ∧ h ≤ sI R n) → 0 = v ∧ 2 = e ∧ True) ∧
    (¬¬ (0 ≤ h ∧ h ≤ sI R n) → pre n A R ((vL n A R ∧ 0 ≤ h ∧ h ≤ 1000000) ∧ vI A R h n = v ∧ 0 = e ∧ True))))) := by kernel_rfl
theorem vol_cases (n : Nat) (A R : Nat → Int) (h : Int) :
  pre n A R ((¬ vL n A R → 0 = volV n A R h ∧ 1 = volE n A R h ∧ True) ∧ (¬¬ vL n A R → pre n A R (vL n A R ∧ (¬ (0 ≤ h ∧ h ≤ sI R n) → 0 = volV n A R h ∧ 2 = volE n A R h ∧ True) ∧
    (¬¬ (0 ≤ h ∧ h ≤ sI R n) → pre n A R ((vL n A R ∧ 0 ≤ h ∧ h ≤ 1000000) ∧ vI A R h n = volV n A R h ∧ 0 = volE n A R h ∧ True))))) := by
  simp only [pre_eq, and_true, Classical.not_not]
  refine ⟨fun hv => by simp [volV, volE, hv], fun hv => ⟨hv, fun hh => by simp [volV, volE, hv, hh], fun hh => ⟨⟨hv, hh.1, ?_⟩, by simp [volV, volE, hv, hh]⟩⟩⟩
  have := sI_le hv n (Nat.le_refl n)
  have := hv.1
  omega
def heldLo (n : Nat) (A R : Nat → Int) (a d : Int) : Int := (500 * vI A R a n).tdiv (500 + d)
def heldHi (n : Nat) (A R : Nat → Int) (b c : Int) : Int := (500 * vI A R b n + (500 + c) - 1).tdiv (500 + c)
theorem heldG_vc (n : Nat) (A R : Nat → Int) (a b c d x y : Int) : heldG n A R a b c d x y =
  ((0 : Nat) < nat_lit 1 ∧ i64 (500 + d) ∧ (0 : Nat) < nat_lit 1 ∧ i64 (500 + c) ∧ (0 : Nat) < nat_lit 1 ∧
   pre n A R ((vL n A R ∧ 0 ≤ a ∧ a ≤ 1000000) ∧ i64 (500 * vI A R a n) ∧ (500 + d = 0 → False) ∧ i64 (heldLo n A R a d) ∧ (0 : Nat) < nat_lit 1 ∧
    pre n A R ((vL n A R ∧ 0 ≤ b ∧ b ≤ 1000000) ∧ i64 (500 * vI A R b n) ∧ i64 (500 * vI A R b n + (500 + c)) ∧ i64 (500 * vI A R b n + (500 + c) - 1) ∧ (500 + c = 0 → False) ∧ i64 (heldHi n A R b c) ∧
      (0 : Nat) < nat_lit 1 ∧ heldLo n A R a d = x ∧ heldHi n A R b c = y ∧ True))) := by kernel_rfl
theorem tdivB {z w : Int} (h : 0 ≤ z) (hw : 1 ≤ w) : 0 ≤ z.tdiv w ∧ z.tdiv w ≤ z := by
  rw [Int.tdiv_eq_ediv_of_nonneg h]
  exact ⟨Int.ediv_nonneg h (by omega), Int.ediv_le_self _ h⟩
/-- where held may be called -/
def okH (n : Nat) (A R : Nat → Int) (a b c d : Int) : Prop := vL n A R ∧ (0 ≤ a ∧ a ≤ 1000000) ∧ (0 ≤ b ∧ b ≤ 1000000) ∧ (-150 ≤ c ∧ c ≤ 150) ∧ (-150 ≤ d ∧ d ≤ 150)
theorem vB {n : Nat} {A R : Nat → Int} {a : Int} (hv : vL n A R) (h : 0 ≤ a) : 0 ≤ vI A R a n ∧ vI A R a n ≤ 40000000 := by
  obtain ⟨h1, h2, h3, h4⟩ := vI_le hv h n (Nat.le_refl n)
  have := hv.1
  omega
theorem held_true {n : Nat} {A R : Nat → Int} {a b c d : Int} (h : okH n A R a b c d) : heldG n A R a b c d (heldLo n A R a d) (heldHi n A R b c) := by
  rw [heldG_vc]
  obtain ⟨hv, ha, hb, hc, hd⟩ := h
  have va := vB hv ha.1
  have vb := vB hv hb.1
  have l1 := tdivB (z := 500 * vI A R a n) (w := 500 + d) (by omega) (by omega)
  have l2 := tdivB (z := 500 * vI A R b n + (500 + c) - 1) (w := 500 + c) (by omega) (by omega)
  simp only [pre_eq, and_true, lit1, true_and, i64, heldLo, heldHi]
  refine ⟨by omega, by omega, ⟨hv, ha⟩, by omega, by omega, by omega, ⟨hv, hb⟩, by omega, by omega, by omega, by omega, by omega⟩
def volumeC (g : FuncId) : Ctr := lstC g fun n A R r k => match r with
  | [.int .i64 h] => k (.tup [.int .i64 (volV n A R h), .int .i64 (volE n A R h)])
  | _ => False
def heldC (g : FuncId) : Ctr := lstC g fun n A R r k => match r with
  | [.agg [.int .i64 a, .int .i64 b], .agg [.int .i64 c, .int .i64 d]] => okH n A R a b c d ∧ k (.agg [.int .i64 (heldLo n A R a d), .int .i64 (heldHi n A R b c)])
  | _ => False
theorem volume_ok : (volumeC 15).Ok Try.prog := lstC_ok (by kernel_rfl) fun n A R r k hk => by
  split at hk
  · rename_i h
    have hh : volumeG n A R h (volV n A R h) (volE n A R h) := by rw [volumeG_vc]; exact vol_cases n A R h
    unfold volumeG at hh
    exact ⟨_, Does.plain (funS_does csB_sound mixed hh) ⟨trivial, trivial, trivial⟩, hk⟩
  · exact hk.elim
theorem volume2_ok : (volumeC 16).Ok Try.prog := lstC_ok (by kernel_rfl) fun n A R r k hk => by
  split at hk
  · rename_i h
    have hh : volumeG' n A R h (volV n A R h) (volE n A R h) := by rw [volumeG2_vc]; exact vol_cases n A R h
    unfold volumeG' at hh
    exact ⟨_, Does.plain (funS_does csB_sound mixed hh) ⟨trivial, trivial, trivial⟩, hk⟩
  · exact hk.elim
theorem held_ok : (heldC 47).Ok Try.prog := lstC_ok (by kernel_rfl) fun n A R r k hk => by
  split at hk
  · have hh := held_true hk.1
    unfold heldG at hh
    exact ⟨_, Does.plain (funS_does csB_sound mixed hh) ⟨trivial, trivial, trivial⟩, hk.2⟩
  · exact hk.elim
noncomputable def csC : CSpec := ctrs [heldC 47, fromC 40, fromC 43, spanC 46, spanC 48, validC 39, validC 38, topC 41, topC 44, volC 42, volC 45]
theorem csC_sound : SoundS Try.prog csC := ctrs_sound (by
  intro x hx
  simp only [List.mem_cons, List.not_mem_nil, or_false] at hx
  rcases hx with rfl | rfl | rfl | rfl | rfl | rfl | rfl | rfl | rfl | rfl | rfl
  · exact held_ok
  · exact isFrom_ok
  · exact in_ok
  · exact vspan_ok
  · exact span_ok
  · exact valid_ok
  · exact lifts_ok
  · exact top_ok
  · exact top2_ok
  · exact vol_ok
  · exact vol2_ok)
noncomputable def HeldG (n : Nat) (A R : Nat → Int) (a b c d : Int) (x y e : Int) : Prop := funS Try.prog csC (fun _ => none) 17 [lifts n A R, .agg [.int .i64 a, .int .i64 b], .agg [.int .i64 c, .int .i64 d]] (.tup [.agg [.int .i64 x, .int .i64 y], .int .i64 e])
noncomputable def HeldG' (n : Nat) (A R : Nat → Int) (a b c d : Int) (x y e : Int) : Prop := funS Try.prog csC (fun _ => none) 18 [lifts n A R, .agg [.int .i64 a, .int .i64 b], .agg [.int .i64 c, .int .i64 d]] (.tup [.agg [.int .i64 x, .int .i64 y], .int .i64 e])
end Go.Proofs.Ytoeolgeidpjgbaa

set_option linter.unusedVariables false
namespace Go.Proofs.Ytoeolgeidpjgbaa
open Go Go.Lg
attribute [local irreducible] funS
/-- what is asked of Held's spans -/
def okS (n : Nat) (R : Nat → Int) (a b c d : Int) : Prop := (0 ≤ a ∧ a ≤ b ∧ b ≤ sI R n) ∧ (-150 ≤ c ∧ c ≤ d ∧ d ≤ 150)
open Classical in
noncomputable def hX (n : Nat) (A R : Nat → Int) (a b c d : Int) : Int := if vL n A R ∧ okS n R a b c d then heldLo n A R a d else 0
open Classical in
noncomputable def hY (n : Nat) (A R : Nat → Int) (a b c d : Int) : Int := if vL n A R ∧ okS n R a b c d then heldHi n A R b c else 0
open Classical in
noncomputable def hE (n : Nat) (A R : Nat → Int) (a b c d : Int) : Int := if vL n A R then (if okS n R a b c d then 0 else 2) else 1
theorem HeldG_vc (n : Nat) (A R : Nat → Int) (a b c d x y e : Int) : HeldG n A R a b c d x y e =
  pre n A R ((¬ vL n A R → (0 : Nat) < nat_lit 1 ∧ 0 = x ∧ 0 = y ∧ 1 = e ∧ True) ∧ (¬¬ vL n A R → (0 : Nat) < nat_lit 1 ∧ pre n A R (vL n A R ∧
   (¬ (0 ≤ a ∧ a ≤ b ∧ b ≤ sI R n) → (0 : Nat) < nat_lit 1 ∧ 0 = x ∧ 0 = y ∧ 2 = e ∧ True) ∧ (¬¬ (0 ≤ a ∧ a ≤ b ∧ b ≤ sI R n) → (0 : Nat) < nat_lit 1 ∧
     (¬ (-150 ≤ c ∧ c ≤ d ∧ d ≤ 150) → (0 : Nat) < nat_lit 1 ∧ 0 = x ∧ 0 = y ∧ 2 = e ∧ True) ∧ (¬¬ (-150 ≤ c ∧ c ≤ d ∧ d ≤ 150) → (0 : Nat) < nat_lit 1 ∧ (0 : Nat) < nat_lit 1 ∧ pre n A R (
       okH n A R a b c d ∧ (0 : Nat) < nat_lit 1 ∧ heldLo n A R a d = x ∧ heldHi n A R b c = y ∧ 0 = e ∧ True)))))) := by kernel_rfl
theorem HeldG2_vc (n : Nat) (A R : Nat → Int) (a b c d x y e : Int) : HeldG' n A R a b c d x y e =
  pre n A R ((¬ vL n A R → (0 : Nat) < nat_lit 1 ∧ 0 = x ∧ 0 = y ∧ 1 = e ∧ True) ∧ (¬¬ vL n A R → (0 : Nat) < nat_lit 1 ∧ pre n A R (vL n A R ∧
   (¬ (0 ≤ a ∧ a ≤ b ∧ b ≤ sI R n) → (0 : Nat) < nat_lit 1 ∧ 0 = x ∧ 0 = y ∧ 2 = e ∧ True) ∧ (¬¬ (0 ≤ a ∧ a ≤ b ∧ b ≤ sI R n) → (0 : Nat) < nat_lit 1 ∧
     (¬ (-150 ≤ c ∧ c ≤ d ∧ d ≤ 150) → (0 : Nat) < nat_lit 1 ∧ 0 = x ∧ 0 = y ∧ 2 = e ∧ True) ∧ (¬¬ (-150 ≤ c ∧ c ≤ d ∧ d ≤ 150) → (0 : Nat) < nat_lit 1 ∧ pre n A R (
       (vL n A R ∧ 0 ≤ a ∧ a ≤ 1000000) ∧ i64 (vI A R a n * 500) ∧ (0 : Nat) < nat_lit 1 ∧ i64 (500 + d) ∧ (500 + d = 0 → False) ∧ i64 ((vI A R a n * 500).tdiv (500 + d)) ∧ (0 : Nat) < nat_lit 1 ∧ i64 (500 + c) ∧ (0 : Nat) < nat_lit 1 ∧
       pre n A R ((vL n A R ∧ 0 ≤ b ∧ b ≤ 1000000) ∧ i64 (vI A R b n * 500) ∧ i64 (vI A R b n * 500 + (500 + c)) ∧ i64 (vI A R b n * 500 + (500 + c) - 1) ∧ (500 + c = 0 → False) ∧ i64 ((vI A R b n * 500 + (500 + c) - 1).tdiv (500 + c)) ∧
         (0 : Nat) < nat_lit 1 ∧ (vI A R a n * 500).tdiv (500 + d) = x ∧ (vI A R b n * 500 + (500 + c) - 1).tdiv (500 + c) = y ∧ 0 = e ∧ True))))))) := by kernel_rfl
theorem sB {n : Nat} {A R : Nat → Int} (hv : vL n A R) : sI R n ≤ 400 := by
  have := sI_le hv n (Nat.le_refl n)
  have := hv.1
  omega
theorem Held_true (n : Nat) (A R : Nat → Int) (a b c d : Int) : HeldG n A R a b c d (hX n A R a b c d) (hY n A R a b c d) (hE n A R a b c d) := by
  rw [HeldG_vc]
  simp only [pre_eq, and_true, lit1, true_and, Classical.not_not]
  refine ⟨fun hv => by simp [hX, hY, hE, hv], fun hv => ⟨hv, fun h1 => by simp [hX, hY, hE, hv, okS, h1], fun h1 => ⟨fun h2 => ?_, fun h2 => ?_⟩⟩⟩
  · have h3 : ¬ okS n R a b c d := fun h => h2 h.2
    simp [hX, hY, hE, hv, h3]
  · have h3 : okS n R a b c d := ⟨h1, h2⟩
    have := sB hv
    exact ⟨⟨hv, by omega, by omega, by omega, by omega⟩, by simp [hX, hY, hE, hv, h3]⟩
theorem Held2_true (n : Nat) (A R : Nat → Int) (a b c d : Int) : HeldG' n A R a b c d (hX n A R a b c d) (hY n A R a b c d) (hE n A R a b c d) := by
  rw [HeldG2_vc]
  simp only [pre_eq, and_true, lit1, true_and, Classical.not_not]
  refine ⟨fun hv => by simp [hX, hY, hE, hv], fun hv => ⟨hv, fun h1 => by simp [hX, hY, hE, hv, okS, h1], fun h1 => ⟨fun h2 => ?_, fun h2 => ?_⟩⟩⟩
  · have h3 : ¬ okS n R a b c d := fun h => h2 h.2
    simp [hX, hY, hE, hv, h3]
  · have h3 : okS n R a b c d := ⟨h1, h2⟩
    have := sB hv
    have va := vB (a := a) hv (by omega)
    have vb := vB (a := b) hv (by omega)
    rw [Int.mul_comm _ 500, Int.mul_comm _ 500]
    have l1 := tdivB (z := 500 * vI A R a n) (w := 500 + d) (by omega) (by omega)
    have l2 := tdivB (z := 500 * vI A R b n + (500 + c) - 1) (w := 500 + c) (by omega) (by omega)
    have e : hX n A R a b c d = heldLo n A R a d ∧ hY n A R a b c d = heldHi n A R b c ∧ hE n A R a b c d = 0 := by simp [hX, hY, hE, hv, h3]
    rw [e.1, e.2.1, e.2.2]
    simp only [i64, heldLo, heldHi]
    exact ⟨⟨hv, by omega⟩, by omega, by omega, by omega, by omega, by omega, ⟨hv, by omega⟩, by omega, by omega, by omega, by omega, by omega, trivial, trivial, trivial⟩
def HeldC (g : FuncId) : Ctr := lstC g fun n A R r k => match r with
  | [.agg [.int .i64 a, .int .i64 b], .agg [.int .i64 c, .int .i64 d]] => k (.tup [.agg [.int .i64 (hX n A R a b c d), .int .i64 (hY n A R a b c d)], .int .i64 (hE n A R a b c d)])
  | _ => False
theorem Held_ok : (HeldC 17).Ok Try.prog := lstC_ok (by kernel_rfl) fun n A R r k hk => by
  split at hk
  · rename_i a b c d
    have hh := Held_true n A R a b c d
    unfold HeldG at hh
    exact ⟨_, Does.plain (funS_does csC_sound mixed hh) ⟨⟨trivial, trivial, trivial⟩, trivial, trivial⟩, hk⟩
  · exact hk.elim
theorem Held2_ok : (HeldC 18).Ok Try.prog := lstC_ok (by kernel_rfl) fun n A R r k hk => by
  split at hk
  · rename_i a b c d
    have hh := Held2_true n A R a b c d
    unfold HeldG' at hh
    exact ⟨_, Does.plain (funS_does csC_sound mixed hh) ⟨⟨trivial, trivial, trivial⟩, trivial, trivial⟩, hk⟩
  · exact hk.elim
def aliveC : Ctr := ⟨14, fun args k => match args with
  | [] => k (.bool true)
  | _ => False⟩
noncomputable def csD : CSpec := ctrs [aliveC, volumeC 15, volumeC 16, HeldC 17, HeldC 18]
noncomputable def lawG (n : Nat) (A R : Nat → Int) (h a b c d : Int) : Prop := funS Try.prog csD (fun _ => none) 3 [lifts n A R, .int .i64 h, .agg [.int .i64 a, .int .i64 b], .agg [.int .i64 c, .int .i64 d]] (.bool true)
end Go.Proofs.Ytoeolgeidpjgbaa
