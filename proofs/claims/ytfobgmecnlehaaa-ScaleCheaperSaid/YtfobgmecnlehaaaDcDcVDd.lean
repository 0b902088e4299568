import Derived.Test.YtfobgmecnlehaaaDaDaVDb
set_option linter.unusedVariables false
set_option linter.unusedSimpArgs false
namespace Go.Proofs.Ytfobgmecnlehaaa
open Go Go.Lg
attribute [local irreducible] bodyH funS
open Classical in
noncomputable def rtE (a : Act) (p : Int) : Int := if ¬ okA a then 1 else if ¬ bt 0 100000 p then 2 else 0
noncomputable def rtN (a : Act) (p : Int) : Int := if rtE a p = 0 then rtA a p else 0
def two (n e : Int) : SV := .tup [i6 n, i6 e]
noncomputable def RtG (a : Act) (p : Int) : Prop := funH Try.prog (ctrs [vaC 29, afC, rtC 31]) noX (ictrs []) noL noL 11 [a.sv, i6 p] (two (rtN a p) (rtE a p))
noncomputable def RrG (a : Act) (p : Int) : Prop := funH Try.prog (ctrs [vaC 24, frC 32, rtC 33]) noX (ictrs []) noL noL 12 [a.sv, i6 p] (two (rtN a p) (rtE a p))
noncomputable def RtC (f : FuncId) : Ctr := ⟨f, fun args k => match args with
  | [.agg [.int .i64 a, .int .i64 b, .int .i64 c, .int .i64 d, .int .i64 e, .int .i64 f], .int .i64 p] => k (two (rtN ⟨a, b, c, d, e, f⟩ p) (rtE ⟨a, b, c, d, e, f⟩ p))
  | _ => False⟩
def grN (a : Act) (r : Int) : Nat → Int
  | 0 => if r ≤ rtA a 0 then 0 else -1
  | k + 1 => if r ≤ rtA a ((k + 1 : Nat) : Int) then ((k + 1 : Nat) : Int) else grN a r k
def dst (a : Act) (r : Int) : Int := grN a r 100000
open Classical in
noncomputable def dsE (a : Act) (r : Int) : Int := if ¬ okA a then 1 else if ¬ bt 0 10000 r then 2 else if dst a r = -1 then 4 else 0
noncomputable def dsN (a : Act) (r : Int) : Int := if dsE a r = 0 then dst a r else 0
noncomputable def DsC (f : FuncId) : Ctr := ⟨f, fun args k => match args with
  | [.agg [.int .i64 a, .int .i64 b, .int .i64 c, .int .i64 d, .int .i64 e, .int .i64 f], .int .i64 r] => k (two (dsN ⟨a, b, c, d, e, f⟩ r) (dsE ⟨a, b, c, d, e, f⟩ r))
  | _ => False⟩
noncomputable def ovG (a : Act) (r p : Int) : Prop := funH Try.prog (ctrs [rtC 31]) noX (ictrs []) noL noL 35 [i6 p, .ipt a.cells, .ipt [i6 r]] (.dec (rtA a p < r) (Classical.propDecidable _))
noncomputable def ovC : Ctr := ⟨35, fun args k => match args with
  | [.int .i64 p, .ipt [.int .i64 a, .int .i64 b, .int .i64 c, .int .i64 d, .int .i64 e, .int .i64 f], .ipt [.int .i64 r]] => okA ⟨a, b, c, d, e, f⟩ ∧ bt 0 100000 p ∧ k (.dec (rtA ⟨a, b, c, d, e, f⟩ p < r) (Classical.propDecidable _))
  | _ => False⟩
def ovV (a : Act) (r : Int) : SV := .clo (.func 35) [] [.ipt a.cells, .ipt [i6 r]]
structure seI (a : Act) (r : Int) (z : Nat × Nat) : Prop where
  le : z.1 ≤ z.2
  n : z.2 ≤ 100001
  lo : ∀ p : Nat, p < z.1 → r ≤ rtA a p
  hi : ∀ p : Nat, z.2 ≤ p → p ≤ 100000 → rtA a p < r
noncomputable def seH (a : Act) (r : Int) : HSpec :=
  { toLSpec := { σ := Nat × Nat, inv := seI a r, μ := fun z => z.2 - z.1, nr := 0, ms := fun _ _ => [], t := fun z => mkF 26 [(1, ovV a r), (5, i6 z.1), (6, i6 z.2)], X := fun _ => mkX [], rd := fun _ _ k => ∃ z, k z, rdOK := fun _ _ _ h => h } }
noncomputable def seG (a : Act) (r : Int) : Prop := funH Try.prog (ctrs [ovC]) noX (ictrs []) (oneL 0 (seH a r)) noL 34 [i6 100001, ovV a r] (i6 (dst a r + 1))
noncomputable def seC : Ctr := ⟨34, fun args k => match args with
  | [.int .i64 n, .clo (.func 35) [] [.ipt [.int .i64 a, .int .i64 b, .int .i64 c, .int .i64 d, .int .i64 e, .int .i64 f], .ipt [.int .i64 r]]] => n = 100001 ∧ okA ⟨a, b, c, d, e, f⟩ ∧ k (i6 (dst ⟨a, b, c, d, e, f⟩ r + 1))
  | _ => False⟩
noncomputable def DsG (a : Act) (r : Int) : Prop := funH Try.prog (ctrs [vaC 29, afC, seC]) noX (ictrs []) noL noL 13 [a.sv, i6 r] (two (dsN a r) (dsE a r))
noncomputable def DrG (a : Act) (r : Int) : Prop := funH Try.prog (ctrs [vaC 24, frC 32, rtC 33]) noX (ictrs [])
  (oneL 0 (natH (fun k => k ≤ 100001 ∧ ∀ p : Nat, k ≤ p → p ≤ 100000 → rtA a p < r) (fun k => k) 1 (fun k => mkF 23 [(1, i6 r), (2, .ptr 0 0 0), (6, i6 ((k : Int) - 1))]) (fun _ => mkX [vr 6 a.sv]) fun _ => none)) noL 14 [a.sv, i6 r] (two (dsN a r) (dsE a r))
end Go.Proofs.Ytfobgmecnlehaaa

set_option maxRecDepth 100000
namespace Go.Proofs.Ytfobgmecnlehaaa
open Go Go.Lg
theorem RtG_vc (a : Ytfobgmecnlehaaa.Act) (p : Int) : RtG a p =
 ((0 : Nat) < (1 : Nat) ∧
  (¬okA (Ytfobgmecnlehaaa.Act.mk a.pr a.dv a.st a.gn a.mo a.ba) → (0 : Int) = rtN a p ∧ (1 : Int) = rtE a p ∧ True) ∧
    (¬¬okA (Ytfobgmecnlehaaa.Act.mk a.pr a.dv a.st a.gn a.mo a.ba) →
      True ∧
        (∀ (i : Nat), i < (1 : Nat) → True) ∧
          SV.lst (1 : Nat) (1 : Nat) (chainF [SV.int IntKind.i64 p]) =
              inL (1 : Nat) (iOf (chainF [SV.int IntKind.i64 p])) ∧
            (1 : Nat) < (1000 : Nat) ∧
              (¬frL (0 : Int) (100000 : Int) (1 : Nat) (iOf (chainF [SV.int IntKind.i64 p])) →
                  (0 : Int) = rtN a p ∧ (2 : Int) = rtE a p ∧ True) ∧
                (¬¬frL (0 : Int) (100000 : Int) (1 : Nat) (iOf (chainF [SV.int IntKind.i64 p])) →
                  (0 : Nat) < (1 : Nat) ∧
                    okA (Ytfobgmecnlehaaa.Act.mk a.pr a.dv a.st a.gn a.mo a.ba) ∧
                      bt (0 : Int) (100000 : Int) p ∧
                        rtA (Ytfobgmecnlehaaa.Act.mk a.pr a.dv a.st a.gn a.mo a.ba) p = rtN a p ∧
                          (0 : Int) = rtE a p ∧ True))) := by kernel_rfl
theorem RrG_vc (a : Ytfobgmecnlehaaa.Act) (p : Int) : RrG a p =
 ((0 : Nat) < (1 : Nat) ∧
  (¬okA (Ytfobgmecnlehaaa.Act.mk a.pr a.dv a.st a.gn a.mo a.ba) → (0 : Int) = rtN a p ∧ (1 : Int) = rtE a p ∧ True) ∧
    (¬¬okA (Ytfobgmecnlehaaa.Act.mk a.pr a.dv a.st a.gn a.mo a.ba) →
      (¬bt (0 : Int) (100000 : Int) p → (0 : Int) = rtN a p ∧ (2 : Int) = rtE a p ∧ True) ∧
        (¬¬bt (0 : Int) (100000 : Int) p →
          (0 : Nat) < (1 : Nat) ∧
            okA (Ytfobgmecnlehaaa.Act.mk a.pr a.dv a.st a.gn a.mo a.ba) ∧
              bt (0 : Int) (100000 : Int) p ∧
                rtA (Ytfobgmecnlehaaa.Act.mk a.pr a.dv a.st a.gn a.mo a.ba) p = rtN a p ∧ (0 : Int) = rtE a p ∧ True))) := by kernel_rfl
theorem ovG_vc (a : Ytfobgmecnlehaaa.Act) (r : Int) (p : Int) : ovG a r p =
 (okA (Ytfobgmecnlehaaa.Act.mk a.pr a.dv a.st a.gn a.mo a.ba) ∧
  bt (0 : Int) (100000 : Int) p ∧
    (rtA (Ytfobgmecnlehaaa.Act.mk a.pr a.dv a.st a.gn a.mo a.ba) p < r ↔ rtA a p < r) ∧ True) := by kernel_rfl
theorem seG_vc (a : Ytfobgmecnlehaaa.Act) (r : Int) : seG a r =
 ((∃ (z : Nat × Nat), seI a r z ∧ rE (Fn.func (35 : FuncId)) ∧ rE (SV.denL a.cells) ∧ (True ∧ True ∧ True ∧ True ∧ True ∧ True ∧ True) ∧ rE (SV.denL [i6 r]) ∧ (True ∧ True) ∧ (0 : Int) = (↑z.1 : Int) ∧ (100001 : Int) = (↑z.2 : Int) ∧ True) ∧ ∀ (z : Nat × Nat), seI a r z → ((↑z.1 : Int) < (↑z.2 : Int) → rI ((↑z.1 : Int) + (↑z.2 : Int)) ∧ ((if IntKind.u64.signed = true then -Int.ofNat ((2 : Nat) ^ (IntKind.u64.bits - (1 : Nat))) else (0 : Int)) ≤ (↑z.1 : Int) + (↑z.2 : Int) ∧ (↑z.1 : Int) + (↑z.2 : Int) ≤ if IntKind.u64.signed = true then Int.ofNat ((2 : Nat) ^ (IntKind.u64.bits - (1 : Nat))) - (1 : Int) else Int.ofNat ((2 : Nat) ^ IntKind.u64.bits) - (1 : Int)) ∧ ((0 : Int) ≤ (1 : Int) ∧ (1 : Int) ≤ (↑(64 : Nat) : Int)) ∧ rI (((↑z.1 : Int) + (↑z.2 : Int)).fdiv (shP (1 : Int))) ∧ (True ∧ True ∧ True ∧ True ∧ True ∧ True ∧ True) ∧ (True ∧ True) ∧ okA (Ytfobgmecnlehaaa.Act.mk a.pr a.dv a.st a.gn
 a.mo a.ba) ∧ bt (0 : Int) (100000 : Int) (((↑z.fst : Int) + (↑z.snd : Int)).fdiv (shP (1 : Int))) ∧ (¬rtA (Ytfobgmecnlehaaa.Act.mk a.pr a.dv a.st a.gn a.mo a.ba) (((↑z.1 : Int) + (↑z.2 : Int)).fdiv (shP (1 : Int))) < r → rI (((↑z.1 : Int) + (↑z.2 : Int)).fdiv (shP (1 : Int)) + (1 : Int)) ∧ ∃ (z_1 : Nat × Nat), seI a r z_1 ∧ z_1.2 - z_1.1 < z.2 - z.1 ∧ rE (Fn.func (35 : FuncId)) ∧ rE (SV.denL a.cells) ∧ (True ∧ True ∧ True ∧ True ∧ True ∧ True ∧ True) ∧ rE (SV.denL [i6 r]) ∧ (True ∧ True) ∧ ((↑z.1 : Int) + (↑z.2 : Int)).fdiv (shP (1 : Int)) + (1 : Int) = (↑z_1.1 : Int) ∧ (↑z.2 : Int) = (↑z_1.2 : Int) ∧ True) ∧ (¬¬rtA (Ytfobgmecnlehaaa.Act.mk a.pr a.dv a.st a.gn a.mo a.ba) (((↑z.1 : Int) + (↑z.2 : Int)).fdiv (shP (1 : Int))) < r → ∃ (z_1 : Nat × Nat), seI a r z_1 ∧ z_1.2 - z_1.1 < z.2 - z.1 ∧ rE (Fn.func (35 : FuncId)) ∧ rE (SV.denL a.cells) ∧ (True ∧ True ∧ True ∧ True ∧ True ∧ True ∧ True) ∧ rE
 (SV.denL [i6 r]) ∧ (True ∧ True) ∧ (↑z.1 : Int) = (↑z_1.1 : Int) ∧ ((↑z.1 : Int) + (↑z.2 : Int)).fdiv (shP (1 : Int)) = (↑z_1.2 : Int) ∧ True)) ∧ (¬(↑z.1 : Int) < (↑z.2 : Int) → (↑z.1 : Int) = dst a r + (1 : Int) ∧ True)) := by kernel_rfl
theorem DsG_vc (a : Ytfobgmecnlehaaa.Act) (r : Int) : DsG a r =
 ((0 : Nat) < (1 : Nat) ∧ (¬okA (Ytfobgmecnlehaaa.Act.mk a.pr a.dv a.st a.gn a.mo a.ba) → (0 : Int) = dsN a r ∧ (1 : Int) = dsE a r ∧ True) ∧ (¬¬okA (Ytfobgmecnlehaaa.Act.mk a.pr a.dv a.st a.gn a.mo a.ba) → (0 : Nat) < (1 : Nat) ∧ True ∧ (∀ (i : Nat), i < (1 : Nat) → True) ∧ SV.lst (1 : Nat) (1 : Nat) (chainF [SV.int IntKind.i64 r]) = inL (1 : Nat) (iOf (chainF [SV.int IntKind.i64 r])) ∧ (1 : Nat) < (1000 : Nat) ∧ (¬frL (0 : Int) (10000 : Int) (1 : Nat) (iOf (chainF [SV.int IntKind.i64 r])) → (0 : Int) = dsN a r ∧ (2 : Int) = dsE a r ∧ True) ∧ (¬¬frL (0 : Int) (10000 : Int) (1 : Nat) (iOf (chainF [SV.int IntKind.i64 r])) → (0 : Nat) < (1 : Nat) ∧ rE (6 : Nat) ∧ True ∧ True ∧ True ∧ True ∧ True ∧ True ∧ (0 : Nat) < (1 : Nat) ∧ rE (1 : Nat) ∧ True ∧ rE (100001 : Int) ∧ okA (Ytfobgmecnlehaaa.Act.mk a.pr a.dv a.st a.gn a.mo a.ba) ∧ (dst (Ytfobgmecnlehaaa.Act.mk a.pr a.dv a.st a.gn a.mo a.ba)
 r + (1 : Int) = (0 : Int) → (0 : Int) = dsN a r ∧ (4 : Int) = dsE a r ∧ True) ∧ (¬dst (Ytfobgmecnlehaaa.Act.mk a.pr a.dv a.st a.gn a.mo a.ba) r + (1 : Int) = (0 : Int) → rI (dst (Ytfobgmecnlehaaa.Act.mk a.pr a.dv a.st a.gn a.mo a.ba) r + (1 : Int) - (1 : Int)) ∧ dst (Ytfobgmecnlehaaa.Act.mk a.pr a.dv a.st a.gn a.mo a.ba) r + (1 : Int) - (1 : Int) = dsN a r ∧ (0 : Int) = dsE a r ∧ True)))) := by kernel_rfl
theorem DrG_vc (a : Ytfobgmecnlehaaa.Act) (r : Int) : DrG a r =
 ((0 : Nat) < (1 : Nat) ∧ (¬okA (Ytfobgmecnlehaaa.Act.mk a.pr a.dv a.st a.gn a.mo a.ba) → (0 : Int) = dsN a r ∧ (1 : Int) = dsE a r ∧ True) ∧ (¬¬okA (Ytfobgmecnlehaaa.Act.mk a.pr a.dv a.st a.gn a.mo a.ba) → (¬bt (0 : Int) (10000 : Int) r → (0 : Int) = dsN a r ∧ (2 : Int) = dsE a r ∧ True) ∧ (¬¬bt (0 : Int) (10000 : Int) r → (∃ (z : Nat), (z ≤ (100001 : Nat) ∧ ∀ (p : Nat), z ≤ p → p ≤ (100000 : Nat) → rtA a (↑p : Int) < r) ∧ r = r ∧ rE (0 : Nat) ∧ rE (0 : Nat) ∧ (100000 : Int) = (↑z : Int) - (1 : Int) ∧ a.1 = a.1 ∧ a.2 = a.2 ∧ a.3 = a.3 ∧ a.4 = a.4 ∧ a.5 = a.5 ∧ a.6 = a.6 ∧ True) ∧ ∀ (z : Nat), (z ≤ (100001 : Nat) ∧ ∀ (p : Nat), z ≤ p → p ≤ (100000 : Nat) → rtA a (↑p : Int) < r) → ((0 : Int) ≤ (↑z : Int) - (1 : Int) → (0 : Nat) < (1 : Nat) ∧ okA (Ytfobgmecnlehaaa.Act.mk a.pr a.dv a.st a.gn a.mo a.ba) ∧ bt (0 : Int) (100000 : Int) ((↑z : Int) - (1 : Int)) ∧ (r ≤ rtA (Ytfobgmecnlehaaa.Act.mk
 a.pr a.dv a.st a.gn a.mo a.ba) ((↑z : Int) - (1 : Int)) → (↑z : Int) - (1 : Int) = dsN a r ∧ (0 : Int) = dsE a r ∧ True) ∧ (¬r ≤ rtA (Ytfobgmecnlehaaa.Act.mk a.pr a.dv a.st a.gn a.mo a.ba) ((↑z : Int) - (1 : Int)) → rI ((↑z : Int) - (1 : Int) - (1 : Int)) ∧ ∃ (z_1 : Nat), (z_1 ≤ (100001 : Nat) ∧ ∀ (p : Nat), z_1 ≤ p → p ≤ (100000 : Nat) → rtA a (↑p : Int) < r) ∧ z_1 < z ∧ r = r ∧ rE (0 : Nat) ∧ rE (0 : Nat) ∧ (↑z : Int) - (1 : Int) - (1 : Int) = (↑z_1 : Int) - (1 : Int) ∧ a.1 = a.1 ∧ a.2 = a.2 ∧ a.3 = a.3 ∧ a.4 = a.4 ∧ a.5 = a.5 ∧ a.6 = a.6 ∧ True)) ∧ (¬(0 : Int) ≤ (↑z : Int) - (1 : Int) → (0 : Int) = dsN a r ∧ (4 : Int) = dsE a r ∧ True)))) := by kernel_rfl
end Go.Proofs.Ytfobgmecnlehaaa

set_option maxRecDepth 100000
namespace Go.Proofs.Ytfobgmecnlehaaa
open Go Go.Lg
attribute [local irreducible] funS bodyH
theorem a_fold (a : Act) : Act.mk a.pr a.dv a.st a.gn a.mo a.ba = a := rfl
theorem ch1' (a : Int) : (SV.lst 1 1 (chainF [SV.int IntKind.i64 a]) = inL 1 (iOf (chainF [SV.int IntKind.i64 a]))) = True := eq_true rfl
theorem rtE1 {a p} (h : ¬ okA a) : rtE a p = 1 ∧ rtN a p = 0 := by
  have e : rtE a p = 1 := by unfold rtE; rw [if_pos h]
  exact ⟨e, by unfold rtN; rw [e, if_neg (by omega)]⟩
theorem rtE2 {a p} (h : okA a) (h2 : ¬ bt 0 100000 p) : rtE a p = 2 ∧ rtN a p = 0 := by
  have e : rtE a p = 2 := by unfold rtE; rw [if_neg (by simpa using h), if_pos h2]
  exact ⟨e, by unfold rtN; rw [e, if_neg (by omega)]⟩
theorem rtE0 {a p} (h : okA a) (h2 : bt 0 100000 p) : rtE a p = 0 ∧ rtN a p = rtA a p := by
  have e : rtE a p = 0 := by unfold rtE; rw [if_neg (by simpa using h), if_neg (by simpa using h2)]
  exact ⟨e, by unfold rtN; rw [e, if_pos rfl]⟩
theorem Rt_true (a : Act) (p : Int) : RtG a p := by
  rw [RtG_vc]
  simp only [rI, rE, and_true, true_and, Nat.zero_lt_one, and_self, implies_true, fr1, ch1', a_fold, Classical.not_not]
  refine ⟨fun h => ?_, fun h => ⟨by omega, fun h2 => ?_, fun h2 => ⟨h, h2, ?_⟩⟩⟩
  · obtain ⟨e1, e2⟩ := rtE1 (p := p) h; omega
  · obtain ⟨e1, e2⟩ := rtE2 h h2; omega
  · obtain ⟨e1, e2⟩ := rtE0 h h2; omega
theorem Rr_true (a : Act) (p : Int) : RrG a p := by
  rw [RrG_vc]
  simp only [rI, rE, and_true, true_and, Nat.zero_lt_one, and_self, implies_true, fr1, ch1', a_fold, Classical.not_not]
  refine ⟨fun h => ?_, fun h => ⟨fun h2 => ?_, fun h2 => ⟨h, h2, ?_⟩⟩⟩
  · obtain ⟨e1, e2⟩ := rtE1 (p := p) h; omega
  · obtain ⟨e1, e2⟩ := rtE2 h h2; omega
  · obtain ⟨e1, e2⟩ := rtE0 h h2; omega
theorem RtX_ok {g : FuncId} (hc : callable Try.prog g = true) (h : ∀ (a : Act) (p : Int), Does Try.prog g true (SV.denL [a.sv, i6 p]) (two (rtN a p) (rtE a p)).den) : (RtC g).Ok Try.prog := by
  refine ⟨hc, fun x k hk => ?_⟩
  simp only [RtC] at hk
  split at hk
  · rename_i a b c d e f p
    exact ⟨_, h ⟨a, b, c, d, e, f⟩ p, hk⟩
  · exact hk.elim
theorem two_plain (n e : Int) : plainS (two n e) := by simp [two, plainS, plainS.plainL]
theorem Rt_ok : (RtC 11).Ok Try.prog := RtX_ok (by kernel_rfl) fun a p => plainD (three_cs va_ok af_ok rt_ok) nilS_x nilS_ic (Rt_true a p) (two_plain _ _)
theorem Rr_ok : (RtC 12).Ok Try.prog := RtX_ok (by kernel_rfl) fun a p => plainD (three_cs ra_ok fr_ok rr_ok) nilS_x nilS_ic (Rr_true a p) (two_plain _ _)
theorem rt_anti {a : Act} (h : okA a) {p q : Int} (hpq : p ≤ q) : rtA a q ≤ rtA a p := by
  have h1 : stA a q ≤ stA a p := Int.ediv_le_ediv (by have := h.st.1; omega) (by omega)
  have h2 : a.gn * stA a q ≤ a.gn * stA a p := Int.mul_le_mul_of_nonneg_left h1 h.gn.1
  unfold rtA; omega
theorem gr_spec (a : Act) (r : Int) : ∀ k : Nat, (grN a r k = -1 ∧ ∀ p : Nat, p ≤ k → rtA a p < r) ∨ (∃ d : Nat, grN a r k = d ∧ d ≤ k ∧ r ≤ rtA a d ∧ ∀ p : Nat, d < p → p ≤ k → rtA a p < r)
  | 0 => by
    by_cases h : r ≤ rtA a 0
    · exact .inr ⟨0, by unfold grN; rw [if_pos h]; rfl, by omega, h, fun p h1 h2 => by omega⟩
    · refine .inl ⟨by unfold grN; rw [if_neg h], fun p hp => ?_⟩
      have : p = 0 := by omega
      subst this; exact Int.not_le.1 h
  | k + 1 => by
    by_cases h : r ≤ rtA a ((k + 1 : Nat) : Int)
    · exact .inr ⟨k + 1, by unfold grN; rw [if_pos h], by omega, h, fun p h1 h2 => by omega⟩
    · have e : grN a r (k + 1) = grN a r k := by rw [grN, if_neg h]
      rw [e]
      rcases gr_spec a r k with ⟨h1, h2⟩ | ⟨d, h1, h2, h3, h4⟩
      · refine .inl ⟨h1, fun p hp => ?_⟩
        by_cases hk : p ≤ k
        · exact h2 p hk
        · have : p = k + 1 := by omega
          subst this; exact Int.not_le.1 h
      · refine .inr ⟨d, h1, by omega, h3, fun p h5 h6 => ?_⟩
        by_cases hk : p ≤ k
        · exact h4 p h5 hk
        · have : p = k + 1 := by omega
          subst this; exact Int.not_le.1 h
theorem ds_is {a : Act} {r : Int} {m : Nat} (hm : m ≤ 100001) (hlo : ∀ p : Nat, p + 1 = m → r ≤ rtA a p) (hhi : ∀ p : Nat, m ≤ p → p ≤ 100000 → rtA a p < r) : dst a r = (m : Int) - 1 := by
  unfold dst
  rcases gr_spec a r 100000 with ⟨h1, h2⟩ | ⟨d, h1, h2, h3, h4⟩
  · rw [h1]
    cases m with
    | zero => rfl
    | succ m =>
      have := hlo m rfl
      have := h2 m (by omega)
      omega
  · rw [h1]
    have a1 : ¬ m ≤ d := fun h => by have := hhi d h h2; omega
    cases m with
    | zero => omega
    | succ m =>
      have := hlo m rfl
      by_cases e : d < m
      · have := h4 m e (by omega); omega
      · omega
theorem dst_bd (a : Act) (r : Int) : -1 ≤ dst a r ∧ dst a r ≤ 100000 := by
  unfold dst
  rcases gr_spec a r 100000 with ⟨h1, h2⟩ | ⟨d, h1, h2, h3, h4⟩ <;> omega
theorem ov_true {a : Act} (h : okA a) (r : Int) {p : Int} (hp : bt 0 100000 p) : ovG a r p := by
  rw [ovG_vc]
  exact ⟨h, hp, Iff.rfl, trivial⟩
theorem ov_ok : ovC.Ok Try.prog := by
  refine ⟨by kernel_rfl, fun x k hk => ?_⟩
  simp only [ovC] at hk
  split at hk
  · rename_i p a b c d e f r
    obtain ⟨h1, h2, hk⟩ := hk
    exact ⟨_, plainD (one_cs rt_ok) nilS_x nilS_ic (ov_true h1 r h2) trivial, hk⟩
  · exact hk.elim
theorem se_true {a : Act} (h : okA a) (r : Int) : seG a r := by
  rw [seG_vc]
  have eS : shP 1 = 2 := rfl
  have e1 : IntKind.u64.signed = false := rfl
  have e2 : IntKind.u64.bits = 64 := rfl
  simp only [rI, rE, and_true, true_and, Nat.zero_lt_one, and_self, implies_true, a_fold, Classical.not_not, eS, e1, e2, Bool.false_eq_true, if_false]
  refine ⟨⟨(0, 100001), ⟨by simp, by simp, fun p hp => by simp at hp, fun p h1 h2 => by simp at h1; omega⟩, rfl, rfl⟩, fun ⟨i, j⟩ hz => ?_⟩
  have hle := hz.le
  have hn := hz.n
  have hlo := hz.lo
  have hhi := hz.hi
  simp only at hle hn hlo hhi ⊢
  obtain ⟨m, hm, hm1, hm2⟩ : ∃ m : Nat, ((i : Int) + (j : Int)).fdiv 2 = (m : Int) ∧ 2 * m ≤ i + j ∧ i + j ≤ 2 * m + 1 := by
    refine ⟨(i + j) / 2, ?_, by omega, by omega⟩
    rw [Int.fdiv_eq_ediv_of_nonneg _ (by omega)]
    omega
  rw [hm]
  refine ⟨fun hl => ⟨by omega, ⟨by omega, ?_⟩, by omega, by omega, h, ⟨by omega, by omega⟩, fun hc => ⟨by omega, (m + 1, j), ⟨by simp; omega, by simp; omega, fun p hp => ?_, fun p h1 h2 => hhi p h1 h2⟩, by simp; omega, by simp, rfl⟩, fun hc => ⟨(i, m), ⟨by simp; omega, by simp; omega, fun p hp => hlo p hp, fun p h1 h2 => ?_⟩, by simp; omega, rfl, rfl⟩⟩, fun hl => ?_⟩
  · have : (Int.ofNat (2 ^ 64) : Int) = 18446744073709551616 := by decide
    omega
  · have h3 : rtA a m ≤ rtA a p := rt_anti h (by simp at hp; omega)
    omega
  · have h3 : rtA a p ≤ rtA a m := rt_anti h (by simp at h1; omega)
    omega
  · rw [ds_is (m := i) (by omega) (fun p hp => hlo p (by omega)) (fun p h1 h2 => hhi p (by omega) h2)]
    omega
theorem se_ok : seC.Ok Try.prog := by
  refine ⟨by kernel_rfl, fun x k hk => ?_⟩
  simp only [seC] at hk
  split at hk
  · rename_i n a b c d e f r
    obtain ⟨rfl, h1, hk⟩ := hk
    exact ⟨_, plainD (one_cs ov_ok) nilS_x nilS_ic (se_true h1 r) trivial, hk⟩
  · exact hk.elim
theorem dsE1 {a r} (h : ¬ okA a) : dsE a r = 1 ∧ dsN a r = 0 := by
  have e : dsE a r = 1 := by unfold dsE; rw [if_pos h]
  exact ⟨e, by unfold dsN; rw [e, if_neg (by omega)]⟩
theorem dsE2 {a r} (h : okA a) (h2 : ¬ bt 0 10000 r) : dsE a r = 2 ∧ dsN a r = 0 := by
  have e : dsE a r = 2 := by unfold dsE; rw [if_neg (by simpa using h), if_pos h2]
  exact ⟨e, by unfold dsN; rw [e, if_neg (by omega)]⟩
theorem dsE4 {a r} (h : okA a) (h2 : bt 0 10000 r) (h3 : dst a r = -1) : dsE a r = 4 ∧ dsN a r = 0 := by
  have e : dsE a r = 4 := by unfold dsE; rw [if_neg (by simpa using h), if_neg (by simpa using h2), if_pos h3]
  exact ⟨e, by unfold dsN; rw [e, if_neg (by omega)]⟩
theorem dsE0 {a r} (h : okA a) (h2 : bt 0 10000 r) (h3 : dst a r ≠ -1) : dsE a r = 0 ∧ dsN a r = dst a r := by
  have e : dsE a r = 0 := by unfold dsE; rw [if_neg (by simpa using h), if_neg (by simpa using h2), if_neg h3]
  exact ⟨e, by unfold dsN; rw [e, if_pos rfl]⟩
theorem Ds_true (a : Act) (r : Int) : DsG a r := by
  rw [DsG_vc]
  simp only [rI, rE, and_true, true_and, Nat.zero_lt_one, and_self, implies_true, fr1, ch1', a_fold, Classical.not_not]
  have hb := dst_bd a r
  refine ⟨fun h => ?_, fun h => ⟨by omega, fun h2 => ?_, fun h2 => ⟨h, fun h3 => ?_, fun h3 => ?_⟩⟩⟩
  · obtain ⟨e1, e2⟩ := dsE1 (r := r) h; omega
  · obtain ⟨e1, e2⟩ := dsE2 h h2; omega
  · obtain ⟨e1, e2⟩ := dsE4 h h2 (by omega); omega
  · obtain ⟨e1, e2⟩ := dsE0 h h2 (by omega); omega
theorem Dr_true (a : Act) (r : Int) : DrG a r := by
  rw [DrG_vc]
  simp only [rI, rE, and_true, true_and, Nat.zero_lt_one, and_self, implies_true, fr1, ch1', a_fold, Classical.not_not]
  refine ⟨fun h => ?_, fun h => ⟨fun h2 => ?_, fun h2 => ⟨⟨100001, ⟨by omega, fun p h1 h3 => by omega⟩, by omega⟩, fun z ⟨hz, hi⟩ => ⟨fun h3 => ⟨h, ⟨by omega, by omega⟩, fun h4 => ?_, fun h4 => ⟨by omega, z - 1, ⟨by omega, fun p h5 h6 => ?_⟩, by omega, by omega⟩⟩, fun h3 => ?_⟩⟩⟩⟩
  · obtain ⟨e1, e2⟩ := dsE1 (r := r) h; omega
  · obtain ⟨e1, e2⟩ := dsE2 h h2; omega
  · have e := ds_is (a := a) (r := r) (m := z) hz (fun p hp => by rwa [show (z : Int) - 1 = (p : Int) by omega] at h4) hi
    obtain ⟨e1, e2⟩ := dsE0 h h2 (by omega); omega
  · by_cases e : z ≤ p
    · exact hi p e h6
    · have : (z : Int) - 1 = (p : Int) := by omega
      rw [this] at h4; omega
  · have e := ds_is (a := a) (r := r) (m := z) hz (fun p hp => by omega) hi
    obtain ⟨e1, e2⟩ := dsE4 h h2 (by omega); omega
theorem DsX_ok {g : FuncId} (hc : callable Try.prog g = true) (h : ∀ (a : Act) (p : Int), Does Try.prog g true (SV.denL [a.sv, i6 p]) (two (dsN a p) (dsE a p)).den) : (DsC g).Ok Try.prog := by
  refine ⟨hc, fun x k hk => ?_⟩
  simp only [DsC] at hk
  split at hk
  · rename_i a b c d e f p
    exact ⟨_, h ⟨a, b, c, d, e, f⟩ p, hk⟩
  · exact hk.elim
theorem Ds_ok : (DsC 13).Ok Try.prog := DsX_ok (by kernel_rfl) fun a p => plainD (three_cs va_ok af_ok se_ok) nilS_x nilS_ic (Ds_true a p) (two_plain _ _)
theorem Dr_ok : (DsC 14).Ok Try.prog := DsX_ok (by kernel_rfl) fun a p => plainD (three_cs ra_ok fr_ok rr_ok) nilS_x nilS_ic (Dr_true a p) (two_plain _ _)
end Go.Proofs.Ytfobgmecnlehaaa
