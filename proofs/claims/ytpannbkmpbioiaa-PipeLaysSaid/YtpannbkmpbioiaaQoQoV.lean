import Derived.Test.YtpannbkmpbioiaaQmQn
set_option linter.unusedVariables false
set_option linter.unusedSimpArgs false
namespace Go.Proofs.Ytpannbkmpbioiaa
open Go Go.Lg
attribute [local irreducible] bodyH
theorem pow_ok : powC.Ok Try.prog := by
  refine ⟨by kernel_rfl, fun args k hk => ?_⟩
  simp only [powC] at hk
  split at hk
  · rename_i n
    obtain ⟨hn, hk⟩ := hk
    have hh := pow_true (n := n.toNat) (by omega)
    unfold powG at hh
    rw [show ((n.toNat : Nat) : Int) = n by omega] at hh
    exact ⟨_, okV nil_cs nil_x nil_ic hh trivial, hk⟩
  · exact hk.elim
theorem csPow : SoundS Try.prog (ctrs [powC]) := ctrs_sound (by
  intro x hx
  simp only [List.mem_cons, List.not_mem_nil, or_false] at hx
  subst hx
  exact pow_ok)
theorem has_ok : hasC.Ok Try.prog := by
  refine ⟨by kernel_rfl, fun args k hk => ?_⟩
  simp only [hasC] at hk
  split at hk
  · rename_i o n
    obtain ⟨⟨ho, hn⟩, hk⟩ := hk
    have hh := has_true ho hn
    unfold hasG at hh
    exact ⟨_, okV csPow nil_x nil_ic hh trivial, hk⟩
  · exact hk.elim
theorem csHas : SoundS Try.prog (ctrs [hasC]) := ctrs_sound (by
  intro x hx
  simp only [List.mem_cons, List.not_mem_nil, or_false] at hx
  subst hx
  exact has_ok)
theorem may_ok : mayC.Ok Try.prog := netC_ok (by kernel_rfl) fun w r k hk => by
  split at hk
  · rename_i o
    obtain ⟨⟨ho, hn⟩, hk⟩ := hk
    have hh := may_true (w := w) ho hn
    unfold mayG at hh
    exact ⟨_, okV csHas nil_x nil_ic hh trivial, hk⟩
  · exact hk.elim
theorem is_ok : ∀ M, (isC M).Ok Try.prog
  | 0 => netC_ok (by kernel_rfl) fun w r k hk => by
    split at hk
    · have := hk.1.2.2.2.2; omega
    · exact hk.elim
  | M + 1 => netC_ok (by kernel_rfl) fun w r k hk => by
    have hcs : SoundS Try.prog (ctrs [hasC, isC M]) := ctrs_sound (by
      intro x hx
      simp only [List.mem_cons, List.not_mem_nil, or_false] at hx
      rcases hx with rfl | rfl
      · exact has_ok
      · exact is_ok M)
    split at hk
    · rename_i o z
      obtain ⟨⟨ho, hn, hm, hz, hM⟩, hk⟩ := hk
      have hh := is_true (M := M) ho hn hm hz hM
      unfold isG at hh
      exact ⟨_, okV hcs nil_x nil_ic hh trivial, hk⟩
    · exact hk.elim
theorem beh_ok : ∀ M, (behC M).Ok Try.prog
  | 0 => netC_ok (by kernel_rfl) fun w r k hk => by
    split at hk
    · have := hk.1.2.2.2.2; omega
    · exact hk.elim
  | M + 1 => netC_ok (by kernel_rfl) fun w r k hk => by
    have hcs : SoundS Try.prog (ctrs [behC M]) := ctrs_sound (by
      intro x hx
      simp only [List.mem_cons, List.not_mem_nil, or_false] at hx
      subst hx
      exact beh_ok M)
    split at hk
    · rename_i q z
      obtain ⟨⟨hq, hn, hm, hz, hM⟩, hk⟩ := hk
      have hh := beh_true (M := M) hq hn hm hz hM
      unfold behG at hh
      exact ⟨_, okV hcs nil_x nil_ic hh trivial, hk⟩
    · exact hk.elim
theorem dV_eq {n : Nat} {f : Nat → SV} (hf : f = fun i => i6 (prI (f i))) : SV.lst 1 n f = dV n fun i => prI (f i) := by unfold dV; rw [← hf]
theorem csThr : SoundS Try.prog (ctrs [behC 100, isC 100]) := ctrs_sound (by
  intro x hx
  simp only [List.mem_cons, List.not_mem_nil, or_false] at hx
  rcases hx with rfl | rfl
  · exact beh_ok 100
  · exact is_ok 100)
theorem thr_ok : thrC.Ok Try.prog := netC_ok (by kernel_rfl) fun w r k hk => by
  split at hk
  · rename_i o q n f
    obtain ⟨hf, ⟨hw, ho, hq, rfl, hd⟩, hk⟩ := hk
    have hh := thr_true hw ho hq hd
    unfold thrG at hh
    rw [dV_eq hf]
    exact ⟨_, okV csThr nil_x nil_ic hh trivial, hk⟩
  · exact hk.elim
theorem atR_ok : ∀ M, (atRC M).Ok Try.prog
  | 0 => netC_ok (by kernel_rfl) fun w r k hk => by
    split at hk
    · have := hk.2.1.2.2.2.2.2.2; omega
    · exact hk.elim
  | M + 1 => netC_ok (by kernel_rfl) fun w r k hk => by
    have hcs : SoundS Try.prog (ctrs [thrC, atRC M]) := ctrs_sound (by
      intro x hx
      simp only [List.mem_cons, List.not_mem_nil, or_false] at hx
      rcases hx with rfl | rfl
      · exact thr_ok
      · exact atR_ok M)
    split at hk
    · rename_i o z n f s
      obtain ⟨hf, ⟨hw, ho, hz, rfl, hd, hs, hM⟩, hk⟩ := hk
      have hh := atR_true (M := M) hw ho hz hd hs hM
      unfold atRG at hh
      rw [dV_eq hf]
      exact ⟨_, okV hcs nil_x nil_ic hh trivial, hk⟩
    · exact hk.elim
theorem csPrsR : SoundS Try.prog (ctrs [powC, mayC, isC 100, atRC 100]) := ctrs_sound (by
  intro x hx
  simp only [List.mem_cons, List.not_mem_nil, or_false] at hx
  rcases hx with rfl | rfl | rfl | rfl
  · exact pow_ok
  · exact may_ok
  · exact is_ok 100
  · exact atR_ok 100)
theorem prsR_ok : prsRC.Ok Try.prog := netC_ok (by kernel_rfl) fun w r k hk => by
  split at hk
  · rename_i z
    obtain ⟨⟨hw, hz⟩, hk⟩ := hk
    have hh := prsR_true hw hz
    unfold prsRG at hh
    exact ⟨_, okV csPrsR nil_x nil_ic hh (by simp [plainS, plainS.plainL]), hk⟩
  · exact hk.elim
theorem csFltR : SoundS Try.prog (ctrs [vnetC 23, prsRC]) := ctrs_sound (by
  intro x hx
  simp only [List.mem_cons, List.not_mem_nil, or_false] at hx
  rcases hx with rfl | rfl
  · exact vnet23
  · exact prsR_ok)
def FltRC : Ctr := netC 17 fun w r k => match r with
  | [] => k (.tup [i6 (FtJR w), .dec (FtLR w) (Classical.propDecidable _), i6 (FtER w)])
  | _ => False
theorem FltR_ok : FltRC.Ok Try.prog := netC_ok (by kernel_rfl) fun w r k hk => by
  split at hk
  · have hh := FltR_true w
    unfold FltRG at hh
    exact ⟨_, okV csFltR nil_x nil_ic hh (by simp [plainS, plainS.plainL]), hk⟩
  · exact hk.elim
structure bigP (w : Nw) (n : Int) : Prop where
  h : ((w.m.n : Int) > n ∧ (w.m.n : Int) ≤ 8) ∨ (w.m.n : Int) > 12 ∨ (w.j.n : Int) > 13
def bigC : Ctr := netC 10 fun w r k => match r with
  | [.int .i64 n] => k (.dec (bigP w n) (Classical.propDecidable _))
  | _ => False
def aliveC : Ctr := ⟨11, fun args k => match args with
  | [] => k (.bool true)
  | _ => False⟩
noncomputable def bigG (w : Nw) (n : Int) : Prop := funH Try.prog (ctrs []) noX (ictrs []) noL noL 10 [w.sv, i6 n] (.dec (bigP w n) (Classical.propDecidable _))
end Go.Proofs.Ytpannbkmpbioiaa

set_option maxRecDepth 100000
namespace Go.Proofs.Ytpannbkmpbioiaa
open Go Go.Lg
theorem bigG_vc (w : Nw) (n : Int) : bigG w n =
 ((0 : Nat) < (1 : Nat) ∧
  (n < (↑w.m.1 : Int) →
      (0 : Nat) < (1 : Nat) ∧
        ((↑w.m.1 : Int) ≤ (8 : Int) → (true = true ↔ bigP w n) ∧ True) ∧
          (¬(↑w.m.1 : Int) ≤ (8 : Int) →
            (0 : Nat) < (1 : Nat) ∧
              ((12 : Int) < (↑w.m.1 : Int) → (true = true ↔ bigP w n) ∧ True) ∧
                (¬(12 : Int) < (↑w.m.1 : Int) →
                  (0 : Nat) < (1 : Nat) ∧ ((13 : Int) < (↑w.j.1 : Int) ↔ bigP w n) ∧ True))) ∧
    (¬n < (↑w.m.1 : Int) →
      (0 : Nat) < (1 : Nat) ∧
        ((12 : Int) < (↑w.m.1 : Int) → (true = true ↔ bigP w n) ∧ True) ∧
          (¬(12 : Int) < (↑w.m.1 : Int) → (0 : Nat) < (1 : Nat) ∧ ((13 : Int) < (↑w.j.1 : Int) ↔ bigP w n) ∧ True))) := by kernel_rfl
end Go.Proofs.Ytpannbkmpbioiaa
