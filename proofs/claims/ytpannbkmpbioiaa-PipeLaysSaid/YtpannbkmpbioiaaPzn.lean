import Derived.Test.YtpannbkmpbioiaaPziPzjVPzkVPzlPzmPzmV
import Derived.Test.YtpannbkmpbioiaaPyeRfRg
set_option linter.unusedVariables false
set_option linter.unusedSimpArgs false
set_option maxRecDepth 100000
namespace Go.Proofs.Ytpannbkmpbioiaa
open Go Go.Lg
attribute [local irreducible] funS bodyH
theorem wit_ok : witC.OkF Try.prog := netC_okF (by kernel_rfl) fun w r k hk => by
  split at hk
  · rename_i b
    obtain ⟨hb, hn, hd, hk⟩ := hk
    refine ⟨_, ?_, hk⟩
    have := wit_does (w := w) (b := b.toNat) (by omega) hn hd
    rw [show ((b.toNat : Nat) : Int) = b by omega] at this
    exact this
  · exact hk.elim
theorem erP_eP {w : Nw} (hw : okNet w) (b : Nat) : erP w b ↔ eP w b := by
  unfold erP eP
  rw [← (flt_eq _).1]
  have := okNet_wL hw (cut (hs b))
  unfold FtE
  rw [if_pos this]
  constructor
  · intro h hf
    rw [if_pos hf] at h
    exact absurd h (by decide)
  · intro h
    rw [if_neg h]
theorem enL_er {w : Nw} (hw : okNet w) : fiL (erP w) (pw w.m.n) = enL w := fil_congr fun j _ => erP_eP hw j
theorem csER_ok : SoundS Try.prog csER := ctrsF_sound (ctrs_sound (by
  intro x hx
  simp only [List.mem_cons, List.not_mem_nil, or_false] at hx
  rcases hx with rfl | rfl
  · exact pow_ok
  · exact FltR_ok)) (by intro x hx; simp at hx; subst hx; exact wit_ok)
theorem enR_ok : enRC.OkF Try.prog := netC_okF (by kernel_rfl) fun w r k hk => by
  split at hk
  · refine ⟨_, ?_, hk.2⟩
    have hh := enR_true hk.1
    unfold enRG at hh
    rw [enL_er hk.1] at hh
    exact funH_does csER_ok nil_x nil_ic mixed hh
  · exact hk.elim
theorem lis_ok : lisC.OkF Try.prog := netC_okF (by kernel_rfl) fun w r k hk => by
  split at hk
  · rename_i b
    obtain ⟨hb, hn, hm, hk⟩ := hk
    refine ⟨_, ?_, hk⟩
    have hh := lis_true (w := w) (b := b.toNat) (by omega) hn hm
    unfold lisG at hh
    rw [show ((b.toNat : Nat) : Int) = b by omega] at hh
    exact funH_does has_cs1 nil_x nil_ic mixed hh
  · exact hk.elim
theorem csRL_ok : SoundS Try.prog csRL := ctrsF_sound (ctrs_sound (by intro x hx; simp at hx; subst hx; exact vnet23)) (by
  intro x hx
  simp only [List.mem_cons, List.not_mem_nil, or_false] at hx
  rcases hx with rfl | rfl
  · exact enR_ok
  · exact lis_ok)
theorem csRM_ok : SoundS Try.prog csRM := ctrsF_sound (ctrs_sound (by
  intro x hx
  simp only [List.mem_cons, List.not_mem_nil, or_false] at hx
  rcases hx with rfl | rfl
  · exact vnet23
  · exact has_ok)) (by intro x hx; simp at hx; subst hx; exact enR_ok)
theorem csLa_ok : SoundS Try.prog csLa := ctrsF_sound (ctrs_sound (by
  intro x hx
  simp only [List.mem_cons, List.not_mem_nil, or_false] at hx
  rcases hx with rfl | rfl | rfl
  · exact vnet40
  · exact che_ok
  · exact cos_ok)) (by intro x hx; simp at hx; subst hx; exact num_ok)
theorem csMu_ok : SoundS Try.prog csMu := ctrsF_sound (ctrs_sound (by
  intro x hx
  simp only [List.mem_cons, List.not_mem_nil, or_false] at hx
  rcases hx with rfl | rfl
  · exact vnet40
  · exact com_ok)) (by intro x hx; simp at hx; subst hx; exact num_ok)
theorem layP_ok : (layCtr 18).OkF Try.prog := netC_okF (by kernel_rfl) fun w r k hk => by
  split at hk
  · refine ⟨_, ?_, hk⟩
    have hh := lay_true (w := w)
    unfold layG at hh
    exact funH_does csLa_ok nil_x nil_ic mixed hh
  · exact hk.elim
theorem layR_ok : (layCtr 19).OkF Try.prog := netC_okF (by kernel_rfl) fun w r k hk => by
  split at hk
  · refine ⟨_, ?_, hk⟩
    have hh := rla_true (w := w)
    unfold rlaG at hh
    exact funH_does csRL_ok nil_x nil_ic mixed hh
  · exact hk.elim
theorem musP_ok : (musCtr 20).OkF Try.prog := netC_okF (by kernel_rfl) fun w r k hk => by
  split at hk
  · refine ⟨_, ?_, hk⟩
    have hh := mus_true (w := w)
    unfold musG at hh
    exact funH_does csMu_ok nil_x nil_ic mixed hh
  · exact hk.elim
theorem musR_ok : (musCtr 21).OkF Try.prog := netC_okF (by kernel_rfl) fun w r k hk => by
  split at hk
  · refine ⟨_, ?_, hk⟩
    have hh := rmu_true (w := w)
    unfold rmuG at hh
    exact funH_does csRM_ok nil_x nil_ic mixed hh
  · exact hk.elim
theorem ints_ok : intsC.Ok Try.prog := by
  refine ⟨by kernel_rfl, fun x k hk => ?_⟩
  simp only [intsC] at hk
  split at hk
  · rename_i n f n' f'
    obtain ⟨hf, hf', hn, hk⟩ := hk
    refine ⟨_, ?_, hk⟩
    rw [hf, hf']
    have hh := its_true (n' := n') (f := fun i => prI (f i)) (f' := fun i => prI (f' i)) hn
    unfold itsG at hh
    exact okV nil_cs nil_x nil_ic hh trivial
  · exact hk.elim
theorem laL_len (w : Nw) : (laL w).length ≤ 1000 := by
  unfold laL
  split
  · have := fil_le (cut (hs (bsN w (enL w).length))) 8
    omega
  · simp
theorem muL_len (w : Nw) : (muL w).length ≤ 1000 := by
  unfold muL
  split
  · have := fil_le (cut (cmP w (enL w).length)) 8
    omega
  · simp
theorem lays_true {w : Nw} : laysG w := by
  rw [laysG_vc]
  simp only [and_true, true_and, Nat.zero_lt_one, and_self, implies_true, Classical.not_not, Bool.false_eq_true, lstI, li, not_true_eq_false, false_implies]
  exact fun _ => ⟨rfl, rfl, laL_len w, fun _ _ _ => ⟨rfl, rfl, muL_len w⟩⟩
theorem csLL_ok : SoundS Try.prog csLL := ctrsF_sound (ctrs_sound (by
  intro x hx
  simp only [List.mem_cons, List.not_mem_nil, or_false] at hx
  rcases hx with rfl | rfl | rfl
  · exact big_ok
  · exact alive_ok
  · exact ints_ok)) (by
  intro x hx
  simp only [List.mem_cons, List.not_mem_nil, or_false] at hx
  rcases hx with rfl | rfl | rfl | rfl
  · exact layP_ok
  · exact layR_ok
  · exact musP_ok
  · exact musR_ok)
theorem lays_does (w : Nw) : Does Try.prog 4 false (SV.denL [w.sv]) (.sc (.bool true)) := by
  have hh := lays_true (w := w)
  unfold laysG at hh
  exact funH_does csLL_ok nil_x nil_ic mixed hh
end Go.Proofs.Ytpannbkmpbioiaa
