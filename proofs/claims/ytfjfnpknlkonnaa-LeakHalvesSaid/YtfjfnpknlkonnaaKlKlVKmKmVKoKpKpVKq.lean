import Derived.Test.YtfjfnpknlkonnaaKhVKiKjKjVKk
set_option linter.unusedVariables false
set_option linter.unusedSimpArgs false
namespace Go.Proofs.Ytfjfnpknlkonnaa
open Go Go.Lg
attribute [local irreducible] bodyH
structure PD where
  p : Prop
  i : Decidable p
def pdOf (x : SV) : PD := match x with
  | .agg [.dec p i, _, _] => ⟨p, i⟩
  | _ => ⟨False, inferInstance⟩
def suR (x : SV) : Int := match x with
  | .agg [_, .int _ s, _] => s
  | _ => 0
def caR (x : SV) : Int := match x with
  | .agg [_, _, .int _ a] => a
  | _ => 0
structure Dl where
  n : Nat
  g : Nat → PD
  su : Nat → Int
  ca : Nat → Int
def Dl.sv (c : Dl) : SV := .lst 3 c.n fun k => .agg [.dec (c.g k).p (c.g k).i, i6 (c.su k), i6 (c.ca k)]
def dlOf (n : Nat) (f : Nat → SV) : Dl := ⟨n, fun k => pdOf (f k), fun k => suR (f k), fun k => caR (f k)⟩
def wiP (s o : Int) : Prop := bitN .i64 s o = 0
def okK (ma : Int) (su ca : Nat → Int) (k : Nat) : Prop := wiP (ca k) (shP ma - 1) ∧ wiP (su k) (ca k)
def okA (ma : Int) (n : Nat) (su ca : Nat → Int) : Prop := ∀ k, k < n → okK ma su ca k
noncomputable def wiG (s o : Int) : Prop := funH Try.prog (ctrs []) noX (ictrs []) noL noL 56 [i6 s, i6 o] (.dec (wiP s o) (Classical.propDecidable _))
noncomputable def ifG (n a b : Int) : Prop := funH Try.prog (ctrs []) noX (ictrs []) noL noL 36 [i6 n, i6 a, i6 b] (.dec (a ≤ n ∧ n ≤ b) inferInstance)
noncomputable def wiC : Ctr := ⟨56, fun args k => match args with
  | [.int .i64 s, .int .i64 o] => k (.dec (wiP s o) (Classical.propDecidable _))
  | _ => False⟩
def ifC : Ctr := ⟨36, fun args k => match args with
  | [.int .i64 n, .int .i64 a, .int .i64 b] => k (.dec (a ≤ n ∧ n ≤ b) inferInstance)
  | _ => False⟩
noncomputable def vcG (ma : Int) (c : Dl) : Prop := funH Try.prog (ctrs [wiC]) noX (ictrs [])
  (oneL 0 (natH (fun k => k ≤ c.n ∧ okA ma k c.su c.ca) (fun k => c.n - k) 0 (fun k => mkF 29 [(1, i6 ma), (7, c.sv), (8, i6 c.n), (9, i6 k)]) (fun _ => mkX []) fun _ => none)) noL 45 [c.sv, i6 ma] (.dec (okA ma c.n c.su c.ca) (Classical.propDecidable _))
end Go.Proofs.Ytfjfnpknlkonnaa

set_option maxRecDepth 100000
namespace Go.Proofs.Ytfjfnpknlkonnaa
open Go Go.Lg
theorem wiG_vc (s : Int) (o : Int) : wiG s o = ((bitN IntKind.i64 s o = (0 : Int) ↔ wiP s o) ∧ True) := by kernel_rfl
theorem ifG_vc (n : Int) (a : Int) (b : Int) : ifG n a b = ((a ≤ n → (n ≤ b ↔ a ≤ n ∧ n ≤ b) ∧ True) ∧ (¬a ≤ n → (false = true ↔ a ≤ n ∧ n ≤ b) ∧ True)) := by kernel_rfl
theorem vcG_vc (ma : Int) (c : Dl) : vcG ma c = ((∃ (z : Nat), (z ≤ c.1 ∧ okA ma z c.su c.ca) ∧ ma = ma ∧ c.1 = c.1 ∧ (∀ (i : Nat), i < c.1 → (SV.agg [SV.dec (c.g i).p (c.g i).i, i6 (c.su i), i6 (c.ca i)]).den = (SV.agg [SV.dec (c.g i).p (c.g i).i, i6 (c.su i), i6 (c.ca i)]).den ∧ True ∧ True ∧ True ∧ True) ∧ (↑c.1 : Int) = (↑c.1 : Int) ∧ (0 : Int) = (↑z : Int) ∧ True) ∧ ∀ (z : Nat), z ≤ c.1 ∧ okA ma z c.su c.ca → ((↑z : Int) < (↑c.1 : Int) → (0 : Int) ≤ (↑z : Int) ∧ (↑z : Int) < (↑c.1 : Int) ∧ (0 : Nat) < (1 : Nat) ∧ ((0 : Int) ≤ ma ∧ ma ≤ (↑(64 : Nat) : Int)) ∧ ((-9223372036854775808 : Int) ≤ (1 : Int) * shP ma ∧ (1 : Int) * shP ma ≤ (9223372036854775807 : Int)) ∧ ((-9223372036854775808 : Int) ≤ (1 : Int) * shP ma - (1 : Int) ∧ (1 : Int) * shP ma - (1 : Int) ≤ (9223372036854775807 : Int)) ∧ (¬wiP (c.ca (↑z : Int).toNat) ((1 : Int) * shP ma - (1 : Int)) → (false = true ↔ okA ma c.n c.su c.ca) ∧ True) ∧ (¬¬wiP (c.ca (↑z : Int).toNat) ((1 : Int) * shP ma - (1 : Int)) → (0 : Nat) < (1 : Nat) ∧ (0 : Nat) < (1 : Nat) ∧ (¬wiP (c.su (↑z : Int).toNat) (c.ca (↑z : Int).toNat) → (false = true ↔ okA ma c.n c.su c.ca) ∧ True) ∧ (¬¬wiP (c.su (↑z : Int).toNat) (c.ca (↑z : Int).toNat) → ((-9223372036854775808 : Int) ≤ (↑z : Int) + (1 : Int) ∧ (↑z : Int) + (1 : Int) ≤ (9223372036854775807 : Int)) ∧ ∃ (z_1 : Nat), (z_1 ≤ c.1 ∧ okA ma z_1 c.su c.ca) ∧ c.1 - z_1 < c.1 - z ∧ ma = ma ∧ c.1 = c.1 ∧ (∀ (i : Nat), i < c.1 → (SV.agg [SV.dec (c.g i).p (c.g i).i, i6 (c.su i), i6 (c.ca i)]).den = (SV.agg [SV.dec (c.g i).p (c.g i).i, i6 (c.su i), i6 (c.ca i)]).den ∧ True ∧ True ∧ True ∧ True) ∧ (↑c.1 : Int) = (↑c.1 : Int) ∧ (↑z : Int) + (1 : Int) = (↑z_1 : Int) ∧ True))) ∧ (¬(↑z : Int) < (↑c.1 : Int) → (true = true ↔ okA ma c.n c.su c.ca) ∧ True)) := by kernel_rfl
end Go.Proofs.Ytfjfnpknlkonnaa

set_option maxRecDepth 100000
namespace Go.Proofs.Ytfjfnpknlkonnaa
open Go Go.Lg
attribute [local irreducible] bodyH
theorem shP_13 {z : Nat} (h : z ≤ 12) : 1 ≤ shP (z : Int) ∧ shP (z : Int) ≤ 4096 := by
  have : z = 0 ∨ z = 1 ∨ z = 2 ∨ z = 3 ∨ z = 4 ∨ z = 5 ∨ z = 6 ∨ z = 7 ∨ z = 8 ∨ z = 9 ∨ z = 10 ∨ z = 11 ∨ z = 12 := by omega
  rcases this with rfl | rfl | rfl | rfl | rfl | rfl | rfl | rfl | rfl | rfl | rfl | rfl | rfl <;> decide
theorem shI_13 {z : Int} (h : 0 ≤ z ∧ z ≤ 12) : 1 ≤ shP z ∧ shP z ≤ 4096 := by
  have := shP_13 (z := z.toNat) (by omega)
  rwa [show ((z.toNat : Nat) : Int) = z by omega] at this
theorem wi_true (s o : Int) : wiG s o := by rw [wiG_vc]; exact ⟨Iff.rfl, trivial⟩
theorem if_true' (n a b : Int) : ifG n a b := by
  rw [ifG_vc]
  refine ⟨fun h => ⟨⟨fun h2 => ⟨h, h2⟩, fun h2 => h2.2⟩, trivial⟩, fun h => ⟨⟨fun h2 => by simp at h2, fun h2 => absurd h2.1 h⟩, trivial⟩⟩
theorem vc_true {ma : Int} {c : Dl} (hm : 1 ≤ ma ∧ ma ≤ 12) (hn : c.n ≤ 20) : vcG ma c := by
  have hs := shI_13 (z := ma) (by omega)
  rw [vcG_vc]
  simp only [and_true, true_and, Nat.zero_lt_one, Int.toNat_natCast, and_self, implies_true, Classical.not_not, Int.one_mul]
  refine ⟨⟨0, ⟨by omega, fun k hk => by omega⟩, by first | trivial | rfl⟩, fun z hz => ⟨fun hl => ⟨by omega, hl, ⟨by omega, by show ma ≤ (64 : Int); omega⟩, by omega, by omega, fun h => ?_, fun h => ⟨fun h2 => ?_, fun h2 => ?_⟩⟩, fun hl => ?_⟩⟩
  · exact ⟨fun hf => by simp at hf, fun ha => absurd (ha z (by omega)).1 h⟩
  · exact ⟨fun hf => by simp at hf, fun ha => absurd (ha z (by omega)).2 h2⟩
  · refine ⟨by omega, z + 1, ⟨by omega, fun k hk => ?_⟩, by omega, by omega⟩
    by_cases e : k < z
    · exact hz.2 k e
    · have : k = z := by omega
      subst this
      exact ⟨h, h2⟩
  · have : z = c.n := by omega
    subst this
    exact ⟨fun _ => hz.2, fun _ => trivial⟩
section
attribute [local irreducible] funS
theorem wi_ok : wiC.Ok Try.prog := by
  refine ⟨by kernel_rfl, fun x k hk => ?_⟩
  simp only [wiC] at hk
  split at hk
  · rename_i s o
    have hh := wi_true s o
    unfold wiG at hh
    exact ⟨_, Does.plain (funH_does nilS_cs nilS_x nilS_ic mixed hh) trivial, hk⟩
  · exact hk.elim
theorem if_ok : ifC.Ok Try.prog := by
  refine ⟨by kernel_rfl, fun x k hk => ?_⟩
  simp only [ifC] at hk
  split at hk
  · rename_i n a b
    have hh := if_true' n a b
    unfold ifG at hh
    exact ⟨_, Does.plain (funH_does nilS_cs nilS_x nilS_ic mixed hh) trivial, hk⟩
  · exact hk.elim
theorem wi_cs : SoundS Try.prog (ctrs [wiC]) := ctrs_sound (by intro x hx; simp at hx; subst hx; exact wi_ok)
noncomputable def vcC : Ctr := ⟨45, fun args k => match args with
  | [.lst 3 n f, .int .i64 ma] => SV.lst 3 n f = (dlOf n f).sv ∧ (1 ≤ ma ∧ ma ≤ 12) ∧ n ≤ 20 ∧ k (.dec (okA ma (dlOf n f).n (dlOf n f).su (dlOf n f).ca) (Classical.propDecidable _))
  | _ => False⟩
theorem vc_ok : vcC.Ok Try.prog := by
  refine ⟨by kernel_rfl, fun x k hk => ?_⟩
  simp only [vcC] at hk
  split at hk
  · rename_i n f ma
    obtain ⟨hf, hm, hn, hk⟩ := hk
    have hh := vc_true (c := dlOf n f) hm hn
    unfold vcG at hh
    rw [← hf] at hh
    exact ⟨_, Does.plain (funH_does wi_cs nilS_x nilS_ic mixed hh) trivial, hk⟩
  · exact hk.elim
end
structure okS (ma wr : Int) (cl ho : Dl) : Prop where
  hm : 1 ≤ ma ∧ ma ≤ 12
  hw : 0 ≤ wr ∧ wr ≤ 3
  cn : cl.n ≤ 20
  hn : ho.n ≤ 12
  hc : okA ma cl.n cl.su cl.ca
  hh : okA ma ho.n ho.su ho.ca
noncomputable def vsG (ma wr : Int) (cl ho : Dl) : Prop := funH Try.prog (ctrs [ifC, vcC]) noX (ictrs []) noL noL 32 [.agg [i6 ma, i6 wr, cl.sv, ho.sv]] (.dec (okS ma wr cl ho) (Classical.propDecidable _))
end Go.Proofs.Ytfjfnpknlkonnaa

set_option maxRecDepth 100000
namespace Go.Proofs.Ytfjfnpknlkonnaa
open Go Go.Lg
theorem vsG_vc (ma : Int) (wr : Int) (cl : Dl) (ho : Dl) : vsG ma wr cl ho = ((0 : Nat) < (1 : Nat) ∧ ((1 : Int) ≤ ma ∧ ma ≤ (12 : Int) → (0 : Nat) < (1 : Nat) ∧ ((0 : Int) ≤ wr ∧ wr ≤ (3 : Int) → (0 : Nat) < (1 : Nat) ∧ ((↑cl.1 : Int) ≤ (20 : Int) → (0 : Nat) < (1 : Nat) ∧ ((↑ho.1 : Int) ≤ (12 : Int) → (0 : Nat) < (1 : Nat) ∧ (0 : Nat) < (1 : Nat) ∧ (∀ (i : Nat), i < cl.1 → True ∧ True ∧ True ∧ True) ∧ (SV.lst (3 : Nat) cl.n fun (k : Nat) => SV.agg [SV.dec (cl.g k).p (cl.g k).i, i6 (cl.su k), i6 (cl.ca k)]) = (dlOf cl.n fun (k : Nat) => SV.agg [SV.dec (cl.g k).p (cl.g k).i, i6 (cl.su k), i6 (cl.ca k)]).sv ∧ ((1 : Int) ≤ ma ∧ ma ≤ (12 : Int)) ∧ cl.1 ≤ (20 : Nat) ∧ (okA ma (dlOf cl.n fun (k : Nat) => SV.agg [SV.dec (cl.g k).p (cl.g k).i, i6 (cl.su k), i6 (cl.ca k)]).n (dlOf cl.n fun (k : Nat) => SV.agg [SV.dec (cl.g k).p (cl.g k).i, i6 (cl.su k), i6 (cl.ca k)]).su (dlOf cl.n fun (k : Nat) => SV.agg [SV.dec (cl.g k).p (cl.g k).i, i6 (cl.su k), i6 (cl.ca k)]).ca → (0 : Nat) < (1 : Nat) ∧ (0 : Nat) < (1 : Nat) ∧ (∀ (i : Nat), i < ho.1 → True ∧ True ∧ True ∧ True) ∧ (SV.lst (3 : Nat) ho.n fun (k : Nat) => SV.agg [SV.dec (ho.g k).p (ho.g k).i, i6 (ho.su k), i6 (ho.ca k)]) = (dlOf ho.n fun (k : Nat) => SV.agg [SV.dec (ho.g k).p (ho.g k).i, i6 (ho.su k), i6 (ho.ca k)]).sv ∧ ((1 : Int) ≤ ma ∧ ma ≤ (12 : Int)) ∧ ho.1 ≤ (20 : Nat) ∧ (okA ma (dlOf ho.n fun (k : Nat) => SV.agg [SV.dec (ho.g k).p (ho.g k).i, i6 (ho.su k), i6 (ho.ca k)]).n (dlOf ho.n fun (k : Nat) => SV.agg [SV.dec (ho.g k).p (ho.g k).i, i6 (ho.su k), i6 (ho.ca k)]).su (dlOf ho.n fun (k : Nat) => SV.agg [SV.dec (ho.g k).p (ho.g k).i, i6 (ho.su k), i6 (ho.ca k)]).ca ↔ okS ma wr cl ho) ∧ True) ∧ (¬okA ma (dlOf cl.n fun (k : Nat) => SV.agg [SV.dec (cl.g k).p (cl.g k).i, i6 (cl.su k), i6 (cl.ca k)]).n
 (dlOf cl.n fun (k : Nat) => SV.agg [SV.dec (cl.g k).p (cl.g k).i, i6 (cl.su k), i6 (cl.ca k)]).su (dlOf cl.n fun (k : Nat) => SV.agg [SV.dec (cl.g k).p (cl.g k).i, i6 (cl.su k), i6 (cl.ca k)]).ca → (false = true ↔ okS ma wr cl ho) ∧ True)) ∧ (¬(↑ho.1 : Int) ≤ (12 : Int) → (false = true ↔ okS ma wr cl ho) ∧ True)) ∧ (¬(↑cl.1 : Int) ≤ (20 : Int) → (false = true ↔ okS ma wr cl ho) ∧ True)) ∧ (¬((0 : Int) ≤ wr ∧ wr ≤ (3 : Int)) → (false = true ↔ okS ma wr cl ho) ∧ True)) ∧ (¬((1 : Int) ≤ ma ∧ ma ≤ (12 : Int)) → (false = true ↔ okS ma wr cl ho) ∧ True)) := by kernel_rfl
end Go.Proofs.Ytfjfnpknlkonnaa

set_option maxRecDepth 100000
namespace Go.Proofs.Ytfjfnpknlkonnaa
open Go Go.Lg
attribute [local irreducible] funS bodyH
theorem dl_fold (c : Dl) : (dlOf c.n fun k => SV.agg [SV.dec (c.g k).p (c.g k).i, i6 (c.su k), i6 (c.ca k)]) = c := rfl
theorem sv_fold (c : Dl) : (SV.lst 3 c.n fun k => SV.agg [SV.dec (c.g k).p (c.g k).i, i6 (c.su k), i6 (c.ca k)]) = c.sv := rfl
theorem vs_true (ma wr : Int) (cl ho : Dl) : vsG ma wr cl ho := by
  rw [vsG_vc]
  simp only [and_true, true_and, Nat.zero_lt_one, and_self, implies_true, dl_fold, sv_fold, Bool.false_eq_true, false_iff]
  refine ⟨fun h1 => ⟨fun h2 => ⟨fun h3 => ⟨fun h4 => ⟨h1, by omega, fun h5 => ⟨h1, by omega, ⟨fun h6 => ⟨h1, h2, by omega, by omega, h5, h6⟩, fun h => h.hh⟩⟩, fun h5 h => h5 h.hc⟩, fun h4 h => h4 (by have := h.hn; omega)⟩, fun h3 h => h3 (by have := h.cn; omega)⟩, fun h2 h => h2 h.hw⟩, fun h1 h => h1 h.hm⟩
theorem vs_cs : SoundS Try.prog (ctrs [ifC, vcC]) := ctrs_sound (by
  intro x hx
  simp at hx
  rcases hx with rfl | rfl
  · exact if_ok
  · exact vc_ok)
noncomputable def vsC : Ctr := ⟨32, fun args k => match args with
  | [.agg [.int .i64 ma, .int .i64 wr, .lst 3 n f, .lst 3 n' f']] => SV.lst 3 n f = (dlOf n f).sv ∧ SV.lst 3 n' f' = (dlOf n' f').sv ∧ k (.dec (okS ma wr (dlOf n f) (dlOf n' f')) (Classical.propDecidable _))
  | _ => False⟩
theorem vs_ok : vsC.Ok Try.prog := by
  refine ⟨by kernel_rfl, fun x k hk => ?_⟩
  simp only [vsC] at hk
  split at hk
  · rename_i ma wr n f n' f'
    obtain ⟨hf, hf', hk⟩ := hk
    have hh := vs_true ma wr (dlOf n f) (dlOf n' f')
    unfold vsG at hh
    rw [← hf, ← hf'] at hh
    exact ⟨_, Does.plain (funH_does vs_cs nilS_x nilS_ic mixed hh) trivial, hk⟩
  · exact hk.elim
end Go.Proofs.Ytfjfnpknlkonnaa

set_option maxRecDepth 100000
namespace Go.Proofs.Ytfjfnpknlkonnaa
open Go Go.Lg
attribute [local irreducible] bodyH
noncomputable def csD (d : Dl) : Cs := ⟨d.n, fun k => @decide (d.g k).p (d.g k).i, d.su, d.ca⟩
theorem csD_den (d : Dl) : (csD d).sv.den = d.sv.den := by
  simp only [Cs.sv, Dl.sv, csD, SV.den, SV.denL, Bool.decide_eq_true]
noncomputable def newC : Ctr := ⟨33, fun args k => match args with
  | [.agg [.int .i64 ma, .int .i64 wr, .lst 3 n f, .lst 3 n' f']] => SV.lst 3 n f = (dlOf n f).sv ∧ SV.lst 3 n' f' = (dlOf n' f').sv ∧ n ≤ 20 ∧ n' ≤ 12 ∧ k (iqW ma wr (tal (csD (dlOf n f)) n) (hoV (csD (dlOf n' f'))))
  | _ => False⟩
theorem new_ok : newC.OkF Try.prog := by
  refine ⟨by kernel_rfl, fun x k hk => ?_⟩
  simp only [newC] at hk
  split at hk
  · rename_i ma wr n f n' f'
    obtain ⟨hf, hf', hn, hn', hk⟩ := hk
    refine ⟨_, ?_, hk⟩
    have := new_does (v := ⟨ma, wr, csD (dlOf n f), csD (dlOf n' f')⟩) hn hn'
    have e : SV.denL [.agg [.int .i64 ma, .int .i64 wr, .lst 3 n f, .lst 3 n' f']] = SV.denL [Sq.sv ⟨ma, wr, csD (dlOf n f), csD (dlOf n' f')⟩] := by
      rw [hf, hf']
      show [AV.agg [(i6 ma).den, (i6 wr).den, (dlOf n f).sv.den, (dlOf n' f').sv.den]] = [AV.agg [(i6 ma).den, (i6 wr).den, (csD (dlOf n f)).sv.den, (csD (dlOf n' f')).sv.den]]
      rw [csD_den, csD_den]
    rw [e]
    exact this
  · exact hk.elim
noncomputable def susC : Ctr := ⟨34, fun args k => match args with
  | [.agg [.int .i64 ma, .int .i64 wr, .int .i64 f0, .int .i64 f1, .int .i64 f2, .int .i64 f3, .int .i64 f4, .int .i64 f5, .int .i64 f6, .int .i64 f7, .int .i64 f8, .int .i64 f9, .int .i64 f10, .int .i64 f11, .lst 2 n f], .agg [.int .i64 a0, .int .i64 a1, .int .i64 a2, .int .i64 a3, .int .i64 a4, .int .i64 a5, .int .i64 a6, .int .i64 a7, .int .i64 a8, .int .i64 a9, .int .i64 a10, .int .i64 a11]] =>
    (1 ≤ ma ∧ ma ≤ 12) ∧ SV.lst 2 n f = hoV (hoOf n f) ∧ k (i6 (orN (susL (f12 a0 a1 a2 a3 a4 a5 a6 a7 a8 a9 a10 a11) wr ma.toNat) (susL (f12 a0 a1 a2 a3 a4 a5 a6 a7 a8 a9 a10 a11) wr ma.toNat).length))
  | _ => False⟩
theorem sus_ok : susC.OkF Try.prog := by
  refine ⟨by kernel_rfl, fun x k hk => ?_⟩
  simp only [susC] at hk
  split at hk
  · rename_i ma wr f0 f1 f2 f3 f4 f5 f6 f7 f8 f9 f10 f11 n f a0 a1 a2 a3 a4 a5 a6 a7 a8 a9 a10 a11
    obtain ⟨hm, hf, hk⟩ := hk
    refine ⟨_, ?_, hk⟩
    rw [hf]
    have := sus_does (ma := ma.toNat) (wr := wr) (fo := f12 f0 f1 f2 f3 f4 f5 f6 f7 f8 f9 f10 f11) (t := f12 a0 a1 a2 a3 a4 a5 a6 a7 a8 a9 a10 a11) (h := hoOf n f) (by omega)
    have e : ((ma.toNat : Nat) : Int) = ma := by omega
    rw [e] at this
    exact this
  · exact hk.elim
noncomputable def suS (ma wr : Int) (c : Cs) : Int := orN (susL (tal c c.n) wr ma.toNat) (susL (tal c c.n) wr ma.toNat).length
open Classical in
noncomputable def suX (ma wr : Int) (cl ho : Dl) : Int := if okS ma wr cl ho then suS ma wr (csD cl) else 0
open Classical in
noncomputable def erX (ma wr : Int) (cl ho : Dl) : Int := if okS ma wr cl ho then (if suS ma wr (csD cl) = 0 then 4 else 0) else 1
noncomputable def csS : CSpec := ctrsF [newC, susC] (ctrs [vsC])
noncomputable def sspG (ma wr : Int) (cl ho : Dl) : Prop := funH Try.prog csS noX (ictrs []) noL noL 13 [.agg [i6 ma, i6 wr, cl.sv, ho.sv]] (.tup [i6 (suX ma wr cl ho), i6 (erX ma wr cl ho)])
end Go.Proofs.Ytfjfnpknlkonnaa

set_option maxRecDepth 100000
namespace Go.Proofs.Ytfjfnpknlkonnaa
open Go Go.Lg
theorem sspG_vc (ma : Int) (wr : Int) (cl : Dl) (ho : Dl) : sspG ma wr cl ho = ((0 : Nat) < (1 : Nat) ∧ (∀ (i : Nat), i < cl.1 → True ∧ True ∧ True ∧ True) ∧ (∀ (i : Nat), i < ho.1 → True ∧ True ∧ True ∧ True) ∧ (SV.lst (3 : Nat) cl.n fun (k : Nat) => SV.agg [SV.dec (cl.g k).p (cl.g k).i, i6 (cl.su k), i6 (cl.ca k)]) = (dlOf cl.n fun (k : Nat) => SV.agg [SV.dec (cl.g k).p (cl.g k).i, i6 (cl.su k), i6 (cl.ca k)]).sv ∧ (SV.lst (3 : Nat) ho.n fun (k : Nat) => SV.agg [SV.dec (ho.g k).p (ho.g k).i, i6 (ho.su k), i6 (ho.ca k)]) = (dlOf ho.n fun (k : Nat) => SV.agg [SV.dec (ho.g k).p (ho.g k).i, i6 (ho.su k), i6 (ho.ca k)]).sv ∧ (¬okS ma wr (dlOf cl.n fun (k : Nat) => SV.agg [SV.dec (cl.g k).p (cl.g k).i, i6 (cl.su k), i6 (cl.ca k)]) (dlOf ho.n fun (k : Nat) => SV.agg [SV.dec (ho.g k).p (ho.g k).i, i6 (ho.su k), i6 (ho.ca k)]) → (0 : Int) = suX ma wr cl ho ∧ (1 : Int) = erX ma wr cl ho ∧ True) ∧ (¬¬okS ma wr (dlOf cl.n fun (k : Nat) => SV.agg [SV.dec (cl.g k).p (cl.g k).i, i6 (cl.su k), i6 (cl.ca k)]) (dlOf ho.n fun (k : Nat) => SV.agg [SV.dec (ho.g k).p (ho.g k).i, i6 (ho.su k), i6 (ho.ca k)]) → (0 : Nat) < (1 : Nat) ∧ (∀ (i : Nat), i < cl.1 → True ∧ True ∧ True ∧ True) ∧ (∀ (i : Nat), i < ho.1 → True ∧ True ∧ True ∧ True) ∧ (SV.lst (3 : Nat) cl.n fun (k : Nat) => SV.agg [SV.dec (cl.g k).p (cl.g k).i, i6 (cl.su k), i6 (cl.ca k)]) = (dlOf cl.n fun (k : Nat) => SV.agg [SV.dec (cl.g k).p (cl.g k).i, i6 (cl.su k), i6 (cl.ca k)]).sv ∧ (SV.lst (3 : Nat) ho.n fun (k : Nat) => SV.agg [SV.dec (ho.g k).p (ho.g k).i, i6 (ho.su k), i6 (ho.ca k)]) = (dlOf ho.n fun (k : Nat) => SV.agg [SV.dec (ho.g k).p (ho.g k).i, i6 (ho.su k), i6 (ho.ca k)]).sv ∧ cl.1 ≤ (20 : Nat) ∧ ho.1 ≤ (12 : Nat) ∧ (0 : Nat) < (1 : Nat) ∧ (0 : Nat) < (1 : Nat) ∧ (∀ (i : Nat), i < ho.1 →
 (True ∧ (True ∧ True ∧ True ∧ True) ∧ True) ∧ (True ∧ (True ∧ True ∧ True ∧ True) ∧ True) ∧ True) ∧ ((1 : Int) ≤ ma ∧ ma ≤ (12 : Int)) ∧ (SV.lst (2 : Nat) (csD (dlOf ho.n fun (k : Nat) => SV.agg [SV.dec (ho.g k).p (ho.g k).i, i6 (ho.su k), i6 (ho.ca k)])).n fun (k : Nat) => SV.agg [SV.clo (Fn.func (57 : FuncId)) [] [SV.ipt [SV.bool true, i6 ((csD (dlOf ho.n fun (k : Nat) => SV.agg [SV.dec (ho.g k).p (ho.g k).i, i6 (ho.su k), i6 (ho.ca k)])).su k), i6 ((csD (dlOf ho.n fun (k : Nat) => SV.agg [SV.dec (ho.g k).p (ho.g k).i, i6 (ho.su k), i6 (ho.ca k)])).ca k)]], SV.clo (Fn.func (58 : FuncId)) [] [SV.ipt [SV.bool false, i6 ((csD (dlOf ho.n fun (k : Nat) => SV.agg [SV.dec (ho.g k).p (ho.g k).i, i6 (ho.su k), i6 (ho.ca k)])).su k), i6 ((csD (dlOf ho.n fun (k : Nat) => SV.agg [SV.dec (ho.g k).p (ho.g k).i, i6 (ho.su k), i6 (ho.ca k)])).ca k)]]]) = hoV (hoOf (csD (dlOf ho.n fun (k : Nat) => SV.agg [SV.dec (ho.g k).p (ho.g k).i, i6 (ho.su k), i6 (ho.ca k)])).n fun (k : Nat) => SV.agg [SV.clo (Fn.func (57 : FuncId)) [] [SV.ipt [SV.bool true, i6 ((csD (dlOf ho.n fun (k : Nat) => SV.agg [SV.dec (ho.g k).p (ho.g k).i, i6 (ho.su k), i6 (ho.ca k)])).su k), i6 ((csD (dlOf ho.n fun (k : Nat) => SV.agg [SV.dec (ho.g k).p (ho.g k).i, i6 (ho.su k), i6 (ho.ca k)])).ca k)]], SV.clo (Fn.func (58 : FuncId)) [] [SV.ipt [SV.bool false, i6 ((csD (dlOf ho.n fun (k : Nat) => SV.agg [SV.dec (ho.g k).p (ho.g k).i, i6 (ho.su k), i6 (ho.ca k)])).su k), i6 ((csD (dlOf ho.n fun (k : Nat) => SV.agg [SV.dec (ho.g k).p (ho.g k).i, i6 (ho.su k), i6 (ho.ca k)])).ca k)]]]) ∧ (orN (susL (f12 (tal (csD (dlOf cl.n fun (k : Nat) => SV.agg [SV.dec (cl.g k).p (cl.g k).i, i6 (cl.su k), i6 (cl.ca k)])) cl.n (0 : Nat)) (tal (csD (dlOf cl.n fun (k : Nat) => SV.agg
 [SV.dec (cl.g k).p (cl.g k).i, i6 (cl.su k), i6 (cl.ca k)])) cl.n (1 : Nat)) (tal (csD (dlOf cl.n fun (k : Nat) => SV.agg [SV.dec (cl.g k).p (cl.g k).i, i6 (cl.su k), i6 (cl.ca k)])) cl.n (2 : Nat)) (tal (csD (dlOf cl.n fun (k : Nat) => SV.agg [SV.dec (cl.g k).p (cl.g k).i, i6 (cl.su k), i6 (cl.ca k)])) cl.n (3 : Nat)) (tal (csD (dlOf cl.n fun (k : Nat) => SV.agg [SV.dec (cl.g k).p (cl.g k).i, i6 (cl.su k), i6 (cl.ca k)])) cl.n (4 : Nat)) (tal (csD (dlOf cl.n fun (k : Nat) => SV.agg [SV.dec (cl.g k).p (cl.g k).i, i6 (cl.su k), i6 (cl.ca k)])) cl.n (5 : Nat)) (tal (csD (dlOf cl.n fun (k : Nat) => SV.agg [SV.dec (cl.g k).p (cl.g k).i, i6 (cl.su k), i6 (cl.ca k)])) cl.n (6 : Nat)) (tal (csD (dlOf cl.n fun (k : Nat) => SV.agg [SV.dec (cl.g k).p (cl.g k).i, i6 (cl.su k), i6 (cl.ca k)])) cl.n (7 : Nat)) (tal (csD (dlOf cl.n fun (k : Nat) => SV.agg [SV.dec (cl.g k).p (cl.g k).i, i6 (cl.su k), i6 (cl.ca k)])) cl.n (8 : Nat)) (tal (csD (dlOf cl.n fun (k : Nat) => SV.agg [SV.dec (cl.g k).p (cl.g k).i, i6 (cl.su k), i6 (cl.ca k)])) cl.n (9 : Nat)) (tal (csD (dlOf cl.n fun (k : Nat) => SV.agg [SV.dec (cl.g k).p (cl.g k).i, i6 (cl.su k), i6 (cl.ca k)])) cl.n (10 : Nat)) (tal (csD (dlOf cl.n fun (k : Nat) => SV.agg [SV.dec (cl.g k).p (cl.g k).i, i6 (cl.su k), i6 (cl.ca k)])) cl.n (11 : Nat))) wr ma.toNat) (susL (f12 (tal (csD (dlOf cl.n fun (k : Nat) => SV.agg [SV.dec (cl.g k).p (cl.g k).i, i6 (cl.su k), i6 (cl.ca k)])) cl.n (0 : Nat)) (tal (csD (dlOf cl.n fun (k : Nat) => SV.agg [SV.dec (cl.g k).p (cl.g k).i, i6 (cl.su k), i6 (cl.ca k)])) cl.n (1 : Nat)) (tal (csD (dlOf cl.n fun (k : Nat) => SV.agg [SV.dec (cl.g k).p (cl.g k).i, i6 (cl.su k), i6 (cl.ca k)])) cl.n (2 : Nat)) (tal (csD (dlOf cl.n fun (k : Nat) => SV.agg [SV.dec (cl.g k).p (cl.g k).i, i6 (cl.su k), i6 (cl.ca k)]))
 cl.n (3 : Nat)) (tal (csD (dlOf cl.n fun (k : Nat) => SV.agg [SV.dec (cl.g k).p (cl.g k).i, i6 (cl.su k), i6 (cl.ca k)])) cl.n (4 : Nat)) (tal (csD (dlOf cl.n fun (k : Nat) => SV.agg [SV.dec (cl.g k).p (cl.g k).i, i6 (cl.su k), i6 (cl.ca k)])) cl.n (5 : Nat)) (tal (csD (dlOf cl.n fun (k : Nat) => SV.agg [SV.dec (cl.g k).p (cl.g k).i, i6 (cl.su k), i6 (cl.ca k)])) cl.n (6 : Nat)) (tal (csD (dlOf cl.n fun (k : Nat) => SV.agg [SV.dec (cl.g k).p (cl.g k).i, i6 (cl.su k), i6 (cl.ca k)])) cl.n (7 : Nat)) (tal (csD (dlOf cl.n fun (k : Nat) => SV.agg [SV.dec (cl.g k).p (cl.g k).i, i6 (cl.su k), i6 (cl.ca k)])) cl.n (8 : Nat)) (tal (csD (dlOf cl.n fun (k : Nat) => SV.agg [SV.dec (cl.g k).p (cl.g k).i, i6 (cl.su k), i6 (cl.ca k)])) cl.n (9 : Nat)) (tal (csD (dlOf cl.n fun (k : Nat) => SV.agg [SV.dec (cl.g k).p (cl.g k).i, i6 (cl.su k), i6 (cl.ca k)])) cl.n (10 : Nat)) (tal (csD (dlOf cl.n fun (k : Nat) => SV.agg [SV.dec (cl.g k).p (cl.g k).i, i6 (cl.su k), i6 (cl.ca k)])) cl.n (11 : Nat))) wr ma.toNat).length = (0 : Int) → (0 : Int) = suX ma wr cl ho ∧ (4 : Int) = erX ma wr cl ho ∧ True) ∧ (¬orN (susL (f12 (tal (csD (dlOf cl.n fun (k : Nat) => SV.agg [SV.dec (cl.g k).p (cl.g k).i, i6 (cl.su k), i6 (cl.ca k)])) cl.n (0 : Nat)) (tal (csD (dlOf cl.n fun (k : Nat) => SV.agg [SV.dec (cl.g k).p (cl.g k).i, i6 (cl.su k), i6 (cl.ca k)])) cl.n (1 : Nat)) (tal (csD (dlOf cl.n fun (k : Nat) => SV.agg [SV.dec (cl.g k).p (cl.g k).i, i6 (cl.su k), i6 (cl.ca k)])) cl.n (2 : Nat)) (tal (csD (dlOf cl.n fun (k : Nat) => SV.agg [SV.dec (cl.g k).p (cl.g k).i, i6 (cl.su k), i6 (cl.ca k)])) cl.n (3 : Nat)) (tal (csD (dlOf cl.n fun (k : Nat) => SV.agg [SV.dec (cl.g k).p (cl.g k).i, i6 (cl.su k), i6 (cl.ca k)])) cl.n (4 : Nat)) (tal (csD (dlOf cl.n fun (k : Nat) => SV.agg
 [SV.dec (cl.g k).p (cl.g k).i, i6 (cl.su k), i6 (cl.ca k)])) cl.n (5 : Nat)) (tal (csD (dlOf cl.n fun (k : Nat) => SV.agg [SV.dec (cl.g k).p (cl.g k).i, i6 (cl.su k), i6 (cl.ca k)])) cl.n (6 : Nat)) (tal (csD (dlOf cl.n fun (k : Nat) => SV.agg [SV.dec (cl.g k).p (cl.g k).i, i6 (cl.su k), i6 (cl.ca k)])) cl.n (7 : Nat)) (tal (csD (dlOf cl.n fun (k : Nat) => SV.agg [SV.dec (cl.g k).p (cl.g k).i, i6 (cl.su k), i6 (cl.ca k)])) cl.n (8 : Nat)) (tal (csD (dlOf cl.n fun (k : Nat) => SV.agg [SV.dec (cl.g k).p (cl.g k).i, i6 (cl.su k), i6 (cl.ca k)])) cl.n (9 : Nat)) (tal (csD (dlOf cl.n fun (k : Nat) => SV.agg [SV.dec (cl.g k).p (cl.g k).i, i6 (cl.su k), i6 (cl.ca k)])) cl.n (10 : Nat)) (tal (csD (dlOf cl.n fun (k : Nat) => SV.agg [SV.dec (cl.g k).p (cl.g k).i, i6 (cl.su k), i6 (cl.ca k)])) cl.n (11 : Nat))) wr ma.toNat) (susL (f12 (tal (csD (dlOf cl.n fun (k : Nat) => SV.agg [SV.dec (cl.g k).p (cl.g k).i, i6 (cl.su k), i6 (cl.ca k)])) cl.n (0 : Nat)) (tal (csD (dlOf cl.n fun (k : Nat) => SV.agg [SV.dec (cl.g k).p (cl.g k).i, i6 (cl.su k), i6 (cl.ca k)])) cl.n (1 : Nat)) (tal (csD (dlOf cl.n fun (k : Nat) => SV.agg [SV.dec (cl.g k).p (cl.g k).i, i6 (cl.su k), i6 (cl.ca k)])) cl.n (2 : Nat)) (tal (csD (dlOf cl.n fun (k : Nat) => SV.agg [SV.dec (cl.g k).p (cl.g k).i, i6 (cl.su k), i6 (cl.ca k)])) cl.n (3 : Nat)) (tal (csD (dlOf cl.n fun (k : Nat) => SV.agg [SV.dec (cl.g k).p (cl.g k).i, i6 (cl.su k), i6 (cl.ca k)])) cl.n (4 : Nat)) (tal (csD (dlOf cl.n fun (k : Nat) => SV.agg [SV.dec (cl.g k).p (cl.g k).i, i6 (cl.su k), i6 (cl.ca k)])) cl.n (5 : Nat)) (tal (csD (dlOf cl.n fun (k : Nat) => SV.agg [SV.dec (cl.g k).p (cl.g k).i, i6 (cl.su k), i6 (cl.ca k)])) cl.n (6 : Nat)) (tal (csD (dlOf cl.n fun (k : Nat) => SV.agg [SV.dec (cl.g k).p (cl.g k).i, i6 (cl.su k), i6 (cl.ca k)]))
 cl.n (7 : Nat)) (tal (csD (dlOf cl.n fun (k : Nat) => SV.agg [SV.dec (cl.g k).p (cl.g k).i, i6 (cl.su k), i6 (cl.ca k)])) cl.n (8 : Nat)) (tal (csD (dlOf cl.n fun (k : Nat) => SV.agg [SV.dec (cl.g k).p (cl.g k).i, i6 (cl.su k), i6 (cl.ca k)])) cl.n (9 : Nat)) (tal (csD (dlOf cl.n fun (k : Nat) => SV.agg [SV.dec (cl.g k).p (cl.g k).i, i6 (cl.su k), i6 (cl.ca k)])) cl.n (10 : Nat)) (tal (csD (dlOf cl.n fun (k : Nat) => SV.agg [SV.dec (cl.g k).p (cl.g k).i, i6 (cl.su k), i6 (cl.ca k)])) cl.n (11 : Nat))) wr ma.toNat).length = (0 : Int) → orN (susL (f12 (tal (csD (dlOf cl.n fun (k : Nat) => SV.agg [SV.dec (cl.g k).p (cl.g k).i, i6 (cl.su k), i6 (cl.ca k)])) cl.n (0 : Nat)) (tal (csD (dlOf cl.n fun (k : Nat) => SV.agg [SV.dec (cl.g k).p (cl.g k).i, i6 (cl.su k), i6 (cl.ca k)])) cl.n (1 : Nat)) (tal (csD (dlOf cl.n fun (k : Nat) => SV.agg [SV.dec (cl.g k).p (cl.g k).i, i6 (cl.su k), i6 (cl.ca k)])) cl.n (2 : Nat)) (tal (csD (dlOf cl.n fun (k : Nat) => SV.agg [SV.dec (cl.g k).p (cl.g k).i, i6 (cl.su k), i6 (cl.ca k)])) cl.n (3 : Nat)) (tal (csD (dlOf cl.n fun (k : Nat) => SV.agg [SV.dec (cl.g k).p (cl.g k).i, i6 (cl.su k), i6 (cl.ca k)])) cl.n (4 : Nat)) (tal (csD (dlOf cl.n fun (k : Nat) => SV.agg [SV.dec (cl.g k).p (cl.g k).i, i6 (cl.su k), i6 (cl.ca k)])) cl.n (5 : Nat)) (tal (csD (dlOf cl.n fun (k : Nat) => SV.agg [SV.dec (cl.g k).p (cl.g k).i, i6 (cl.su k), i6 (cl.ca k)])) cl.n (6 : Nat)) (tal (csD (dlOf cl.n fun (k : Nat) => SV.agg [SV.dec (cl.g k).p (cl.g k).i, i6 (cl.su k), i6 (cl.ca k)])) cl.n (7 : Nat)) (tal (csD (dlOf cl.n fun (k : Nat) => SV.agg [SV.dec (cl.g k).p (cl.g k).i, i6 (cl.su k), i6 (cl.ca k)])) cl.n (8 : Nat)) (tal (csD (dlOf cl.n fun (k : Nat) => SV.agg [SV.dec (cl.g k).p (cl.g k).i, i6 (cl.su k), i6 (cl.ca k)])) cl.n (9 : Nat)) (tal (csD
 (dlOf cl.n fun (k : Nat) => SV.agg [SV.dec (cl.g k).p (cl.g k).i, i6 (cl.su k), i6 (cl.ca k)])) cl.n (10 : Nat)) (tal (csD (dlOf cl.n fun (k : Nat) => SV.agg [SV.dec (cl.g k).p (cl.g k).i, i6 (cl.su k), i6 (cl.ca k)])) cl.n (11 : Nat))) wr ma.toNat) (susL (f12 (tal (csD (dlOf cl.n fun (k : Nat) => SV.agg [SV.dec (cl.g k).p (cl.g k).i, i6 (cl.su k), i6 (cl.ca k)])) cl.n (0 : Nat)) (tal (csD (dlOf cl.n fun (k : Nat) => SV.agg [SV.dec (cl.g k).p (cl.g k).i, i6 (cl.su k), i6 (cl.ca k)])) cl.n (1 : Nat)) (tal (csD (dlOf cl.n fun (k : Nat) => SV.agg [SV.dec (cl.g k).p (cl.g k).i, i6 (cl.su k), i6 (cl.ca k)])) cl.n (2 : Nat)) (tal (csD (dlOf cl.n fun (k : Nat) => SV.agg [SV.dec (cl.g k).p (cl.g k).i, i6 (cl.su k), i6 (cl.ca k)])) cl.n (3 : Nat)) (tal (csD (dlOf cl.n fun (k : Nat) => SV.agg [SV.dec (cl.g k).p (cl.g k).i, i6 (cl.su k), i6 (cl.ca k)])) cl.n (4 : Nat)) (tal (csD (dlOf cl.n fun (k : Nat) => SV.agg [SV.dec (cl.g k).p (cl.g k).i, i6 (cl.su k), i6 (cl.ca k)])) cl.n (5 : Nat)) (tal (csD (dlOf cl.n fun (k : Nat) => SV.agg [SV.dec (cl.g k).p (cl.g k).i, i6 (cl.su k), i6 (cl.ca k)])) cl.n (6 : Nat)) (tal (csD (dlOf cl.n fun (k : Nat) => SV.agg [SV.dec (cl.g k).p (cl.g k).i, i6 (cl.su k), i6 (cl.ca k)])) cl.n (7 : Nat)) (tal (csD (dlOf cl.n fun (k : Nat) => SV.agg [SV.dec (cl.g k).p (cl.g k).i, i6 (cl.su k), i6 (cl.ca k)])) cl.n (8 : Nat)) (tal (csD (dlOf cl.n fun (k : Nat) => SV.agg [SV.dec (cl.g k).p (cl.g k).i, i6 (cl.su k), i6 (cl.ca k)])) cl.n (9 : Nat)) (tal (csD (dlOf cl.n fun (k : Nat) => SV.agg [SV.dec (cl.g k).p (cl.g k).i, i6 (cl.su k), i6 (cl.ca k)])) cl.n (10 : Nat)) (tal (csD (dlOf cl.n fun (k : Nat) => SV.agg [SV.dec (cl.g k).p (cl.g k).i, i6 (cl.su k), i6 (cl.ca k)])) cl.n (11 : Nat))) wr ma.toNat).length = suX ma wr cl ho ∧
 (0 : Int) = erX ma wr cl ho ∧ True))) := by kernel_rfl
end Go.Proofs.Ytfjfnpknlkonnaa

set_option maxRecDepth 100000
namespace Go.Proofs.Ytfjfnpknlkonnaa
open Go Go.Lg
attribute [local irreducible] funS bodyH
theorem sus12' (t : Nat → Int) (wr : Int) {ma : Int} (h : ma ≤ 12) : susL (f12 (t 0) (t 1) (t 2) (t 3) (t 4) (t 5) (t 6) (t 7) (t 8) (t 9) (t 10) (t 11)) wr ma.toNat = susL t wr ma.toNat := sus12 t wr (by omega)
theorem ssp_true (ma wr : Int) (cl ho : Dl) : sspG ma wr cl ho := by
  rw [sspG_vc]
  simp only [and_true, true_and, Nat.zero_lt_one, and_self, implies_true, dl_fold, sv_fold, Classical.not_not]
  refine ⟨fun h => ?_, fun h => ⟨h.cn, h.hn, h.hm, rfl, ?_⟩⟩
  · exact ⟨by rw [suX, if_neg h], by rw [erX, if_neg h]⟩
  · have h12 := h.hm.2
    simp only [sus12' (tal (csD cl) cl.n) wr h12]
    have e : suS ma wr (csD cl) = orN (susL (tal (csD cl) cl.n) wr ma.toNat) (susL (tal (csD cl) cl.n) wr ma.toNat).length := rfl
    rw [← e, suX, erX, if_pos h, if_pos h]
    exact ⟨fun h0 => ⟨h0.symm, by rw [if_pos h0]⟩, fun h0 => ⟨rfl, by rw [if_neg h0]⟩⟩
theorem csS_ok : SoundS Try.prog csS := ctrsF_sound (ctrs_sound (by intro x hx; simp at hx; subst hx; exact vs_ok)) (by
  intro x hx
  simp at hx
  rcases hx with rfl | rfl
  · exact new_ok
  · exact sus_ok)
theorem ssp_does (ma wr : Int) (cl ho : Dl) : Does Try.prog 13 true (SV.denL [.agg [i6 ma, i6 wr, cl.sv, ho.sv]]) (SV.tup [i6 (suX ma wr cl ho), i6 (erX ma wr cl ho)]).den := by
  have hh := ssp_true ma wr cl ho
  unfold sspG at hh
  exact Does.plain (funH_does csS_ok nilS_x nilS_ic mixed hh) ⟨trivial, trivial, trivial⟩
end Go.Proofs.Ytfjfnpknlkonnaa
