import Derived.Test.YtpannbkmpbioiaaPziPzjVPzkVPzlPzmPzmV
import Derived.Test.YtpannbkmpbioiaaPyeRfRg
set_option linter.unusedVariables false
set_option linter.unusedSimpArgs false
set_option maxRecDepth 100000
namespace Go.Proofs.Ytpannbkmpbioiaa
open Go Go.Lg
attribute [local irreducible] funS bodyH
theorem wit_ok : witC.OkF Try.prog := netC_okF (by kernel_rfl) fun w r k hk => by
  split at hk
  · rename_i b
    obtain ⟨hb, hn, hd, hk⟩ := hk
    refine ⟨_, ?_, hk⟩
    have := wit_does (w := w) (b := b.toNat) (by omega) hn hd
    rw [show ((b.toNat : Nat) : Int) = b by omega] at this
    exact this
  · exact hk.elim
theorem erP_eP {w : Nw} (hw : okNet w) (b : Nat) : erP w b ↔ eP w b := by
  unfold erP eP
  rw [← (flt_eq _).1]
  have := okNet_wL hw (cut (hs b))
  unfold FtE
  rw [if_pos this]
  constructor
  · intro h hf
    rw [if_pos hf] at h
    exact absurd h (by decide)
  · intro h
    rw [if_neg h]
theorem csLa_ok : SoundS Try.prog csLa := ctrsF_sound (ctrs_sound (by
  intro x hx
  simp only [List.mem_cons, List.not_mem_nil, or_false] at hx
  rcases hx with rfl | rfl | rfl
  · exact vnet40
  · exact che_ok
  · exact cos_ok)) (by intro x hx; simp at hx; subst hx; exact num_ok)
theorem csMu_ok : SoundS Try.prog csMu := ctrsF_sound (ctrs_sound (by
  intro x hx
  simp only [List.mem_cons, List.not_mem_nil, or_false] at hx
  rcases hx with rfl | rfl
  · exact vnet40
  · exact com_ok)) (by intro x hx; simp at hx; subst hx; exact num_ok)
theorem layP_ok : (layCtr 18).OkF Try.prog := netC_okF (by kernel_rfl) fun w r k hk => by
  split at hk
  · refine ⟨_, ?_, hk⟩
    have hh := lay_true (w := w)
    unfold layG at hh
    exact funH_does csLa_ok nil_x nil_ic mixed hh
  · exact hk.elim
theorem musP_ok : (musCtr 20).OkF Try.prog := netC_okF (by kernel_rfl) fun w r k hk => by
  split at hk
  · refine ⟨_, ?_, hk⟩
    have hh := mus_true (w := w)
    unfold musG at hh
    exact funH_does csMu_ok nil_x nil_ic mixed hh
  · exact hk.elim
end Go.Proofs.Ytpannbkmpbioiaa
