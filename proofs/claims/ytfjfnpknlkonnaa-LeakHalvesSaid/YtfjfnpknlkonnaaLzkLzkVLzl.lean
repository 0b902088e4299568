import Derived.Test.YtfjfnpknlkonnaaLzgLzhLzhVLziLziVLzj
import Derived.Test.YtfjfnpknlkonnaaKn5Kn6Kn7
import Derived.Test.YtfjfnpknlkonnaaKn8
set_option linter.unusedVariables false
set_option linter.unusedSimpArgs false
set_option maxRecDepth 100000
namespace Go.Proofs.Ytfjfnpknlkonnaa
open Go Go.Lg
attribute [local irreducible] bodyH
theorem alive_does : Does Try.prog 12 false [] (.sc (.bool true)) := runTrueT_does (k := 300) mixed (T := [Kn5, Kn6, Kn7, Kn8]) (facts_cons Kn5_ok (facts_cons Kn6_ok (facts_cons Kn7_ok (facts_cons Kn8_ok facts_nil)))) (by kernel_rfl)
def aliveC : Ctr := ⟨12, fun args k => match args with
  | [] => k (.bool true)
  | _ => False⟩
def greP (h c : Nat) (n : Int) : Prop := (n < h ∧ h ≤ 12) ∨ 18 < h ∨ 26 < c
noncomputable def greG (ma wr : Int) (cl ho : Dl) (n : Int) : Prop := funH Try.prog (ctrs []) noX (ictrs []) noL noL 11 [sqV ma wr cl ho, i6 n] (.dec (greP ho.n cl.n n) (Classical.propDecidable _))
noncomputable def greC : Ctr := ⟨11, fun args k => match args with
  | [.agg [.int .i64 ma, .int .i64 wr, .lst 3 n f, .lst 3 n' f'], .int .i64 h] => SV.lst 3 n f = (dlOf n f).sv ∧ SV.lst 3 n' f' = (dlOf n' f').sv ∧ k (.dec (greP n' n h) (Classical.propDecidable _))
  | _ => False⟩
noncomputable def sspC : Ctr := ⟨13, fun args k => match args with
  | [.agg [.int .i64 ma, .int .i64 wr, .lst 3 n f, .lst 3 n' f']] => SV.lst 3 n f = (dlOf n f).sv ∧ SV.lst 3 n' f' = (dlOf n' f').sv ∧ k (.tup [i6 (suX ma wr (dlOf n f) (dlOf n' f')), i6 (erX ma wr (dlOf n f) (dlOf n' f'))])
  | _ => False⟩
noncomputable def rspC : Ctr := ⟨14, fun args k => match args with
  | [.agg [.int .i64 ma, .int .i64 wr, .lst 3 n f, .lst 3 n' f']] => SV.lst 3 n f = (dlOf n f).sv ∧ SV.lst 3 n' f' = (dlOf n' f').sv ∧ okD (dlOf n f) ∧ okD (dlOf n' f') ∧ k (.tup [i6 (suX ma wr (dlOf n f) (dlOf n' f')), i6 (erX ma wr (dlOf n f) (dlOf n' f'))])
  | _ => False⟩
noncomputable def againstC (g : FuncId) : Ctr := ⟨g, fun args k => match args with
  | [.agg [.int .i64 ma, .int .i64 wr, .lst 3 n f, .lst 3 n' f'], .int .i64 m] => SV.lst 3 n f = (dlOf n f).sv ∧ SV.lst 3 n' f' = (dlOf n' f').sv ∧ okD (dlOf n f) ∧ okD (dlOf n' f') ∧ k (.tup [lstI (agX ma wr (dlOf n f) (dlOf n' f') m), i6 (agE ma wr (dlOf n f) (dlOf n' f') m)])
  | _ => False⟩
noncomputable def nextC (g : FuncId) : Ctr := ⟨g, fun args k => match args with
  | [.agg [.int .i64 ma, .int .i64 wr, .lst 3 n f, .lst 3 n' f']] => SV.lst 3 n f = (dlOf n f).sv ∧ SV.lst 3 n' f' = (dlOf n' f').sv ∧ okD (dlOf n f) ∧ okD (dlOf n' f') ∧ k (.tup [i6 (nI ma wr (dlOf n f) (dlOf n' f')), i6 (nL ma wr (dlOf n f) (dlOf n' f')), i6 (nE ma wr (dlOf n f) (dlOf n' f'))])
  | _ => False⟩
noncomputable def intsC : Ctr := ⟨19, fun args k => match args with
  | [.lst 1 n f, .lst 1 n' f'] => SV.lst 1 n f = li n (fun i => prI (f i)) ∧ SV.lst 1 n' f' = li n' (fun i => prI (f' i)) ∧ n ≤ 1000 ∧ k (.dec (n = n' ∧ ∀ i, i < n → prI (f i) = prI (f' i)) (Classical.propDecidable _))
  | _ => False⟩
noncomputable def csL : CSpec := ctrsF [againstC 15, againstC 16] (ctrs [greC, aliveC, sspC, rspC, nextC 17, nextC 18, intsC])
noncomputable def lawG (ma wr : Int) (cl ho : Dl) (m : Int) : Prop := funH Try.prog csL noX (ictrs []) noL noL 3 [sqV ma wr cl ho, i6 m] (.bool true)
end Go.Proofs.Ytfjfnpknlkonnaa

set_option maxRecDepth 100000
namespace Go.Proofs.Ytfjfnpknlkonnaa
open Go Go.Lg
theorem greG_vc (ma : Int) (wr : Int) (cl : Dl) (ho : Dl) (n : Int) : greG ma wr cl ho n = ((0 : Nat) < (1 : Nat) ∧ (n < (↑ho.1 : Int) → (0 : Nat) < (1 : Nat) ∧ ((↑ho.1 : Int) ≤ (12 : Int) → (true = true ↔ greP ho.n cl.n n) ∧ True) ∧ (¬(↑ho.1 : Int) ≤ (12 : Int) → (0 : Nat) < (1 : Nat) ∧ ((18 : Int) < (↑ho.1 : Int) → (true = true ↔ greP ho.n cl.n n) ∧ True) ∧ (¬(18 : Int) < (↑ho.1 : Int) → (0 : Nat) < (1 : Nat) ∧ ((26 : Int) < (↑cl.1 : Int) ↔ greP ho.n cl.n n) ∧ True))) ∧ (¬n < (↑ho.1 : Int) → (0 : Nat) < (1 : Nat) ∧ ((18 : Int) < (↑ho.1 : Int) → (true = true ↔ greP ho.n cl.n n) ∧ True) ∧ (¬(18 : Int) < (↑ho.1 : Int) → (0 : Nat) < (1 : Nat) ∧ ((26 : Int) < (↑cl.1 : Int) ↔ greP ho.n cl.n n) ∧ True))) := by kernel_rfl
def lawG0 (ma : Int) (wr : Int) (cl : Dl) (ho : Dl) (m : Int) : Prop := (rE ((agX ma wr (dlOf cl.n fun (k : Nat) => SV.agg [SV.dec (cl.g k).p (cl.g k).i, i6 (cl.su k), i6 (cl.ca k)]) (dlOf ho.n fun (k : Nat) => SV.agg [SV.dec (ho.g k).p (ho.g k).i, i6 (ho.su k), i6 (ho.ca k)]) m).length) ∧ ∀ (i : Nat), i < (agX ma wr (dlOf cl.n fun (k : Nat) => SV.agg [SV.dec (cl.g k).p (cl.g k).i, i6 (cl.su k), i6 (cl.ca k)]) (dlOf ho.n fun (k : Nat) => SV.agg [SV.dec (ho.g k).p (ho.g k).i, i6 (ho.su k), i6 (ho.ca k)]) m).length → rE (↑((agX ma wr (dlOf cl.n fun (k : Nat) => SV.agg [SV.dec (cl.g k).p (cl.g k).i, i6 (cl.su k), i6 (cl.ca k)]) (dlOf ho.n fun (k : Nat) => SV.agg [SV.dec (ho.g k).p (ho.g k).i, i6 (ho.su k), i6 (ho.ca k)]) m).getD i (0 : Nat)) : Int))
end Go.Proofs.Ytfjfnpknlkonnaa

set_option maxRecDepth 100000
namespace Go.Proofs.Ytfjfnpknlkonnaa
open Go Go.Lg
attribute [local irreducible] funS bodyH
theorem gre_true {ma wr : Int} {cl ho : Dl} {n : Int} : greG ma wr cl ho n := by
  rw [greG_vc]
  simp only [rI, rE, tt3, tt4, tt5, tt13, tt14, t12, and_true, true_and, Nat.zero_lt_one, true_iff, Bool.false_eq_true, false_iff]
  unfold greP
  omega
theorem alive_ok : aliveC.Ok Try.prog := by
  refine ⟨by kernel_rfl, fun x k hk => ?_⟩
  simp only [aliveC] at hk
  split at hk
  · exact ⟨.bool true, Does.plain (res := .bool true) alive_does trivial, hk⟩
  · exact hk.elim
theorem gre_ok : greC.Ok Try.prog := by
  refine ⟨by kernel_rfl, fun x k hk => ?_⟩
  simp only [greC] at hk
  split at hk
  · rename_i ma wr n f n' f' h
    obtain ⟨hf, hf', hk⟩ := hk
    have hh := gre_true (ma := ma) (wr := wr) (cl := dlOf n f) (ho := dlOf n' f') (n := h)
    unfold greG sqV at hh
    rw [← hf, ← hf'] at hh
    exact ⟨_, Does.plain (funH_does nilS_cs nilS_x nilS_ic mixed hh) trivial, hk⟩
  · exact hk.elim
theorem ssp_ok : sspC.Ok Try.prog := by
  refine ⟨by kernel_rfl, fun x k hk => ?_⟩
  simp only [sspC] at hk
  split at hk
  · rename_i ma wr n f n' f'
    obtain ⟨hf, hf', hk⟩ := hk
    refine ⟨_, ?_, hk⟩
    rw [hf, hf']
    exact ssp_does ma wr (dlOf n f) (dlOf n' f')
  · exact hk.elim
theorem next_ok {g : FuncId} (hc : callable Try.prog g = true) (hd : ∀ {ma wr : Int} {cl ho : Dl}, okD cl → okD ho → Does Try.prog g true (SV.denL [sqV ma wr cl ho]) (SV.tup [i6 (nI ma wr cl ho), i6 (nL ma wr cl ho), i6 (nE ma wr cl ho)]).den) : (nextC g).Ok Try.prog := by
  refine ⟨hc, fun x k hk => ?_⟩
  simp only [nextC] at hk
  split at hk
  · rename_i ma wr n f n' f'
    obtain ⟨hf, hf', h1, h2, hk⟩ := hk
    refine ⟨_, ?_, hk⟩
    rw [hf, hf']
    exact hd h1 h2
  · exact hk.elim
end Go.Proofs.Ytfjfnpknlkonnaa
