import Derived.Test.YtpannbkmpbioiaaQaQaVQbQcQcVQdQeQeVQf
set_option linter.unusedVariables false
set_option linter.unusedSimpArgs false
namespace Go.Proofs.Ytpannbkmpbioiaa
open Go Go.Lg
attribute [local irreducible] bodyH
theorem flatMap_congr' {α β : Type} {l : List α} {f g : α → List β} (h : ∀ a, a ∈ l → f a = g a) : l.flatMap f = l.flatMap g := by
  induction l with
  | nil => rfl
  | cons x l ih => rw [List.flatMap_cons, List.flatMap_cons, h x (by simp), ih fun a ha => h a (by simp [ha])]
def subL (m : Mn) (b : Bool) (j k : Nat) : List Nat := if m.fr k = j ∧ pas b (m.va k) = true then led m b (k + 1) else []
theorem ledL_fuel {m : Mn} {b : Bool} (hm : okM m) : ∀ (F F' j : Nat), m.n + 1 - j ≤ F → m.n + 1 - j ≤ F' → j ≤ m.n → ledL m b F j = ledL m b F' j
  | 0, F', j, h, h', hj => by omega
  | F + 1, 0, j, h, h', hj => by omega
  | F + 1, F' + 1, j, h, h', hj => by
    simp only [ledL]
    congr 1
    refine flatMap_congr' fun k hk => ?_
    have hk : k < m.n := by simpa using hk
    split
    · rename_i hc
      have := hm k hk
      exact ledL_fuel hm F F' (k + 1) (by omega) (by omega) (by omega)
    · rfl
theorem led_eq {m : Mn} {b : Bool} (hm : okM m) {j : Nat} (hj : j ≤ m.n) : led m b j = j :: (List.range m.n).flatMap (subL m b j) := by
  have e : m.n + 1 - j = (m.n - j) + 1 := by omega
  unfold led
  rw [e]
  simp only [ledL]
  congr 1
  refine flatMap_congr' fun k hk => ?_
  have hk : k < m.n := by simpa using hk
  unfold subL
  split
  · rename_i hc
    have := hm k hk
    unfold led
    exact ledL_fuel hm _ _ (k + 1) (by omega) (by omega) (by omega)
  · rfl
def preL (m : Mn) (b : Bool) (j k : Nat) : List Nat := j :: (List.range k).flatMap (subL m b j)
theorem preL_succ (m : Mn) (b : Bool) (j k : Nat) : preL m b j (k + 1) = preL m b j k ++ subL m b j k := by
  simp [preL, List.range_succ, List.flatMap_append]
theorem preL_len (m : Mn) (b : Bool) (j : Nat) : ∀ k, (preL m b j k).length = cnt m b j k
  | 0 => by simp [preL, cnt]
  | k + 1 => by
    rw [preL_succ, List.length_append, preL_len m b j k, cnt]
    unfold subL
    split <;> simp
theorem preL_get {m : Mn} {b : Bool} (hm : okM m) {j : Nat} (hj : j ≤ m.n) {k i : Nat} (hk : k < m.n) (hi : i < (subL m b j k).length) : cnt m b j k + i < (led m b j).length ∧ (led m b j).getD (cnt m b j k + i) 0 = (subL m b j k).getD i 0 := by
  have e : led m b j = preL m b j m.n := led_eq hm hj
  have e2 : ∀ d, preL m b j (k + 1 + d) = preL m b j k ++ subL m b j k ++ ((List.range d).flatMap fun q => subL m b j (k + 1 + q)) := by
    intro d
    induction d with
    | zero => simp [preL_succ]
    | succ d ih =>
      rw [show k + 1 + (d + 1) = (k + 1 + d) + 1 by omega, preL_succ, ih, List.range_succ, List.flatMap_append]
      simp
  have e3 := e2 (m.n - (k + 1))
  rw [show k + 1 + (m.n - (k + 1)) = m.n by omega, ← e] at e3
  have hl := preL_len m b j k
  rw [e3]
  constructor
  · simp only [List.length_append]; omega
  · simp only [List.getD]
    rw [List.append_assoc, List.getElem?_append_right (by omega), hl, show cnt m b j k + i - cnt m b j k = i by omega, List.getElem?_append_left hi]
theorem led_true {m : Mn} {b : Bool} {j M : Nat} (hm : okM m) (hn : m.n ≤ 1000) (hj : j ≤ m.n) (hM : m.n + 1 - j < M + 1) :
    (0 < (led m b j).length ∧ (led m b j).getD 0 0 = j) ∧ cnt m b j m.n = (led m b j).length ∧ ∀ k, k < m.n → (¬ (m.fr k = j ∧ pas b (m.va k) = true) → cnt m b j (k + 1) = cnt m b j k) ∧
      ((m.fr k = j ∧ pas b (m.va k) = true) → cnt m b j (k + 1) = cnt m b j k + (led m b (k + 1)).length ∧ (okJ m ((k : Int) + 1) ∧ m.n + 1 - (k + 1) < M) ∧
        ∀ i, i < (led m b (k + 1)).length → cnt m b j k + i < (led m b j).length ∧ (led m b j).getD (cnt m b j k + i) 0 = (led m b (k + 1)).getD i 0) := by
  refine ⟨by rw [led_eq hm hj]; simp, by rw [← preL_len, led_eq hm hj]; rfl, fun k hk => ⟨fun h => by simp [cnt, h], fun h => ⟨by simp [cnt, h], ⟨⟨hm, hn, by omega, by omega⟩, ?_⟩, fun i hi => ?_⟩⟩⟩
  · have := hm k hk; omega
  · have e : subL m b j k = led m b (k + 1) := by unfold subL; rw [if_pos h]
    have := preL_get hm hj (b := b) hk (i := i) (by rw [e]; exact hi)
    rw [e] at this; exact this
theorem led1T_true {m : Mn} {j M : Nat} (hm : okM m) (hn : m.n ≤ 1000) (hj : j ≤ m.n) (hM : m.n + 1 - j < M + 1) : led1T M m j := by
  rw [led1T_vc]
  obtain ⟨⟨h1, h2⟩, h3, h4⟩ := led_true (b := true) hm hn hj hM
  simp only [and_true, true_and, Nat.zero_lt_one, implies_true, Classical.not_not, Int.toNat_natCast, Nat.add_zero]
  refine ⟨h1, by rw [h2], ⟨0, Nat.zero_le _, rfl, rfl⟩, fun z hz => ⟨fun hlt => ?_, fun hge => ?_⟩⟩
  · have hz : z < m.n := by omega
    obtain ⟨h5, h6⟩ := h4 z hz
    have e1 : ((z : Int) + 1).toNat = z + 1 := by omega
    rw [e1]
    refine ⟨by omega, hlt, fun h7 => ⟨by omega, z + 1, hz, by omega, (h5 fun h => h7 h.1).symm, by omega⟩, fun h7 => ⟨fun h8 => ⟨by omega, z + 1, hz, by omega, (h5 fun h => by simp [pas, h8] at h).symm, by omega⟩, fun h8 => ?_⟩⟩
    have hp : pas true (m.va z) = true := by simp [pas, h8]
    obtain ⟨h9, ⟨h10, h11⟩, h12⟩ := h6 ⟨h7, hp⟩
    refine ⟨by omega, rfl, rfl, h10, h11, ⟨0, ⟨rfl, hz, h7, hp⟩, rfl⟩, fun i hi z1 hz1 => ?_, fun z1 hz1 => ⟨by omega, z + 1, hz, by omega, h9.symm, by omega⟩⟩
    obtain ⟨h13, h14⟩ := h12 i hi
    exact ⟨h13, by rw [h14], i + 1, ⟨rfl, hz, h7, hp⟩, by omega⟩
  · have hz : z ≤ m.n := hz
    have : z = m.n := by omega
    rw [this]; exact h3
theorem led1F_true {m : Mn} {j M : Nat} (hm : okM m) (hn : m.n ≤ 1000) (hj : j ≤ m.n) (hM : m.n + 1 - j < M + 1) : led1F M m j := by
  rw [led1F_vc]
  obtain ⟨⟨h1, h2⟩, h3, h4⟩ := led_true (b := false) hm hn hj hM
  simp only [and_true, true_and, Nat.zero_lt_one, implies_true, Classical.not_not, Int.toNat_natCast, Nat.add_zero]
  refine ⟨h1, by rw [h2], ⟨0, Nat.zero_le _, rfl, rfl⟩, fun z hz => ⟨fun hlt => ?_, fun hge => ?_⟩⟩
  · have hz : z < m.n := by omega
    obtain ⟨h5, h6⟩ := h4 z hz
    have e1 : ((z : Int) + 1).toNat = z + 1 := by omega
    rw [e1]
    refine ⟨by omega, hlt, fun h7 => ⟨by omega, z + 1, hz, by omega, (h5 fun h => h7 h.1).symm, by omega⟩, fun h7 => ⟨fun h8 => ⟨by omega, z + 1, hz, by omega, (h5 fun h => by simp [pas, h8] at h).symm, by omega⟩, fun h8 => ?_⟩⟩
    have hp : pas false (m.va z) = true := by simp [pas, h8]
    obtain ⟨h9, ⟨h10, h11⟩, h12⟩ := h6 ⟨h7, hp⟩
    refine ⟨by omega, rfl, rfl, h10, h11, ⟨0, ⟨rfl, hz, h7, hp⟩, rfl⟩, fun i hi z1 hz1 => ?_, fun z1 hz1 => ⟨by omega, z + 1, hz, by omega, h9.symm, by omega⟩⟩
    obtain ⟨h13, h14⟩ := h12 i hi
    exact ⟨h13, by rw [h14], i + 1, ⟨rfl, hz, h7, hp⟩, by omega⟩
  · have hz : z ≤ m.n := hz
    have : z = m.n := by omega
    rw [this]; exact h3
end Go.Proofs.Ytpannbkmpbioiaa

namespace Go.Proofs.Ytpannbkmpbioiaa
open Go Go.Lg
attribute [local irreducible] bodyH
theorem okV {cs : CSpec} {cx : CX} {ic : IC} (hcs : SoundS Try.prog cs) (hcx : SoundXH Try.prog noGhost γ0 cx) (hic : SoundIH Try.prog ic) {sp isp g args res} (h : funH Try.prog cs cx ic sp isp g args res) (hp : plainS res) : Does Try.prog g true (SV.denL args) res.den :=
  Does.plain (funH_does hcs hcx hic mixed h) hp
theorem nil_cs : SoundS Try.prog (ctrs []) := ctrs_sound (by simp)
theorem nil_ic : SoundIH Try.prog (ictrs []) := ictrs_sound (by simp)
theorem nil_x : SoundXH Try.prog noGhost γ0 noX := noX_sound
theorem from_ok {g : FuncId} (hc : callable Try.prog g = true) (h : ∀ n a b, Does Try.prog g true (SV.denL [i6 n, i6 a, i6 b]) (SV.dec (a ≤ n ∧ n ≤ b) inferInstance).den) : (fromC g).Ok Try.prog := by
  refine ⟨hc, fun args k hk => ?_⟩
  simp only [fromC] at hk
  split at hk
  · exact ⟨_, h _ _ _, hk⟩
  · exact hk.elim
theorem from62 : (fromC 62).Ok Try.prog := from_ok (by kernel_rfl) fun n a b => by
  have hh := isFrom_true n a b
  unfold isFromG at hh
  exact okV nil_cs nil_x nil_ic hh trivial
theorem from35 : (fromC 35).Ok Try.prog := from_ok (by kernel_rfl) fun n a b => by
  have hh := in_true n a b
  unfold inG at hh
  exact okV nil_cs nil_x nil_ic hh trivial
theorem cs0_sound : SoundS Try.prog cs0 := ctrs_sound (by
  intro x hx
  simp only [List.mem_cons, List.not_mem_nil, or_false] at hx
  rcases hx with rfl | rfl
  · exact from62
  · exact from35)
theorem span_ok {g : FuncId} (hc : callable Try.prog g = true) (h : ∀ x y b, Does Try.prog g true (SV.denL [.agg [i6 x, i6 y], i6 b]) (SV.dec (0 ≤ x ∧ x ≤ y ∧ y ≤ b) inferInstance).den) : (spanC g).Ok Try.prog := by
  refine ⟨hc, fun args k hk => ?_⟩
  simp only [spanC] at hk
  split at hk
  · exact ⟨_, h _ _ _, hk⟩
  · exact hk.elim
theorem span61 : (spanC 61).Ok Try.prog := span_ok (by kernel_rfl) fun n a b => by
  have hh := vspan_true n a b
  unfold vspanG at hh
  exact okV cs0_sound nil_x nil_ic hh trivial
theorem span48 : (spanC 48).Ok Try.prog := span_ok (by kernel_rfl) fun n a b => by
  have hh := rspan_true n a b
  unfold rspanG at hh
  exact okV cs0_sound nil_x nil_ic hh trivial
theorem cs1_sound : SoundS Try.prog cs1 := ctrs_sound (by
  intro x hx
  simp only [List.mem_cons, List.not_mem_nil, or_false] at hx
  rcases hx with rfl | rfl | rfl | rfl
  · exact from62
  · exact from35
  · exact span61
  · exact span48)
theorem jun_ok : junC.Ok Try.prog := by
  refine ⟨by kernel_rfl, fun args k hk => ?_⟩
  simp only [junC] at hk
  split at hk
  · rename_i a b c d e
    have hh := vjun_true a b c d e
    unfold vjunG at hh
    exact ⟨_, okV cs1_sound nil_x nil_ic hh trivial, hk⟩
  · exact hk.elim
theorem mai_ok : maiC.Ok Try.prog := by
  refine ⟨by kernel_rfl, fun args k hk => ?_⟩
  simp only [maiC] at hk
  split at hk
  · rename_i a b c d e
    have hh := vmai_true a b c d e
    unfold vmaiG at hh
    exact ⟨_, okV cs1_sound nil_x nil_ic hh trivial, hk⟩
  · exact hk.elim
theorem cs2_sound : SoundS Try.prog cs2 := ctrs_sound (by
  intro x hx
  simp only [List.mem_cons, List.not_mem_nil, or_false] at hx
  rcases hx with rfl | rfl | rfl | rfl | rfl | rfl
  · exact from62
  · exact from35
  · exact span61
  · exact span48
  · exact jun_ok
  · exact mai_ok)
theorem netC_ok {g : FuncId} {C : Nw → List SV → (SV → Prop) → Prop} (hc : callable Try.prog g = true) (h : ∀ w r k, C w r k → ∃ res, Does Try.prog g true (SV.denL (w.sv :: r)) res.den ∧ k res) : (netC g C).Ok Try.prog := by
  refine ⟨hc, fun args k hk => ?_⟩
  simp only [netC] at hk
  split at hk
  · rename_i x r
    obtain ⟨hx, hC⟩ := hk
    obtain ⟨res, h1, h2⟩ := h _ r k hC
    rw [← hx] at h1
    exact ⟨res, h1, h2⟩
  · exact hk.elim
theorem netC_okF {g : FuncId} {C : Nw → List SV → (SV → Prop) → Prop} (hc : callable Try.prog g = true) (h : ∀ w r k, C w r k → ∃ res, Does Try.prog g false (SV.denL (w.sv :: r)) res.den ∧ k res) : (netC g C).OkF Try.prog := by
  refine ⟨hc, fun args k hk => ?_⟩
  simp only [netC] at hk
  split at hk
  · rename_i x r
    obtain ⟨hx, hC⟩ := hk
    obtain ⟨res, h1, h2⟩ := h _ r k hC
    rw [← hx] at h1
    exact ⟨res, h1, h2⟩
  · exact hk.elim
theorem maiL_ok {g : FuncId} {C : Mn → List SV → (SV → Prop) → Prop} (hc : callable Try.prog g = true) (h : ∀ w r k, C w r k → ∃ res, Does Try.prog g true (SV.denL (w.sv :: r)) res.den ∧ k res) : (maiL g C).Ok Try.prog := by
  refine ⟨hc, fun args k hk => ?_⟩
  simp only [maiL] at hk
  split at hk
  · rename_i x r
    obtain ⟨hx, hC⟩ := hk
    obtain ⟨res, h1, h2⟩ := h _ r k hC
    rw [← hx] at h1
    exact ⟨res, h1, h2⟩
  · exact hk.elim
theorem maiL_okF {g : FuncId} {C : Mn → List SV → (SV → Prop) → Prop} (hc : callable Try.prog g = true) (h : ∀ w r k, C w r k → ∃ res, Does Try.prog g false (SV.denL (w.sv :: r)) res.den ∧ k res) : (maiL g C).OkF Try.prog := by
  refine ⟨hc, fun args k hk => ?_⟩
  simp only [maiL] at hk
  split at hk
  · rename_i x r
    obtain ⟨hx, hC⟩ := hk
    obtain ⟨res, h1, h2⟩ := h _ r k hC
    rw [← hx] at h1
    exact ⟨res, h1, h2⟩
  · exact hk.elim
theorem vnet40 : (vnetC 40).Ok Try.prog := netC_ok (by kernel_rfl) fun w r k hk => by
  split at hk
  · have hh := vnet_true w
    unfold vnetG at hh
    exact ⟨_, okV cs2_sound nil_x nil_ic hh trivial, hk⟩
  · exact hk.elim
theorem vnet23 : (vnetC 23).Ok Try.prog := netC_ok (by kernel_rfl) fun w r k hk => by
  split at hk
  · have hh := rnet_true w
    unfold rnetG at hh
    exact ⟨_, okV cs2_sound nil_x nil_ic hh trivial, hk⟩
  · exact hk.elim
theorem csV_sound : SoundS Try.prog csV := ctrs_sound (by
  intro x hx
  simp only [List.mem_cons, List.not_mem_nil, or_false] at hx
  rcases hx with rfl | rfl
  · exact vnet40
  · exact vnet23)
theorem chk_ok : chkC.Ok Try.prog := netC_ok (by kernel_rfl) fun w r k hk => by
  split at hk
  · rename_i z
    have hh := chk_true w z
    unfold chkG at hh
    exact ⟨_, okV csV_sound nil_x nil_ic hh trivial, hk⟩
  · exact hk.elim
theorem way_ok : wayC.OkF Try.prog := maiL_okF (by kernel_rfl) fun m r k hk => by
  split at hk
  · rename_i z
    have hh := way_true m z
    unfold wayG at hh
    exact ⟨_, funH_does nil_cs nil_x nil_ic mixed hh, hk⟩
  · exact hk.elim
theorem wayI_ok : wayI.Ok Try.prog := by
  refine ⟨by kernel_rfl, fun fs us k hk => ?_⟩
  simp only [wayI] at hk
  split at hk
  · rename_i z x
    obtain ⟨hx, hj, hk⟩ := hk
    have hz := hj.hz
    have hh := way1_true (m := mOf x) (j := z.toNat) (N := dpt (mOf x) z.toNat z.toNat) ⟨hj.hm, by omega, rfl⟩ hj.hn
    unfold way1G at hh
    have e : ((z.toNat : Nat) : Int) = z := by omega
    rw [e] at hh
    have := itH_ok nil_cs (fun Γ γ _ => noX_sound) nil_ic mixed hh
    rw [← hx] at this
    exact ⟨_, 1, _, this, fun j hj => rfl, hk⟩
  · exact hk.elim
theorem wayI_sound : SoundIH Try.prog (ictrs [wayI]) := ictrs_sound (by
  intro x hx
  simp only [List.mem_cons, List.not_mem_nil, or_false] at hx
  subst hx
  exact wayI_ok)
theorem wayF_sound : SoundS Try.prog (ctrsF [wayC] (ctrs [])) := ctrsF_sound nil_cs (by
  intro x hx
  simp only [List.mem_cons, List.not_mem_nil, or_false] at hx
  subst hx
  exact way_ok)
theorem fed_ok : fedC.Ok Try.prog := maiL_ok (by kernel_rfl) fun m r k hk => by
  split at hk
  · rename_i z
    have hh := fed_true hk.1
    unfold fedG at hh
    exact ⟨_, okV wayF_sound nil_x wayI_sound hh trivial, hk.2⟩
  · exact hk.elim
theorem open_ok : openC.OkF Try.prog := maiL_okF (by kernel_rfl) fun m r k hk => by
  split at hk
  · rename_i z
    have hh := opn_true hk.1
    unfold opnG at hh
    exact ⟨_, funH_does wayF_sound (inl_sound (ys := none) nil_cs noX_sound trivial nil_ic mixed) wayI_sound mixed hh, hk.2⟩
  · exact hk.elim
theorem lo_ok : loC.Ok Try.prog := by
  refine ⟨by kernel_rfl, fun args k hk => ?_⟩
  simp only [loC] at hk
  split at hk
  · rename_i x y
    have hh := lo_true x y
    unfold loG at hh
    exact ⟨_, okV nil_cs nil_x nil_ic hh trivial, hk⟩
  · exact hk.elim
theorem hi_ok : hiC.Ok Try.prog := by
  refine ⟨by kernel_rfl, fun args k hk => ?_⟩
  simp only [hiC] at hk
  split at hk
  · rename_i x y
    have hh := hi_true x y
    unfold hiG at hh
    exact ⟨_, okV nil_cs nil_x nil_ic hh trivial, hk⟩
  · exact hk.elim
theorem pasT_ok : (pasC true 83).Ok Try.prog := by
  refine ⟨by kernel_rfl, fun args k hk => ?_⟩
  simp only [pasC] at hk
  split at hk
  · rename_i v
    have hh := pasT_true v
    unfold pasTG at hh
    exact ⟨_, okV nil_cs nil_x nil_ic hh trivial, hk⟩
  · exact hk.elim
theorem pasF_ok : (pasC false 87).Ok Try.prog := by
  refine ⟨by kernel_rfl, fun args k hk => ?_⟩
  simp only [pasC] at hk
  split at hk
  · rename_i v
    have hh := pasF_true v
    unfold pasFG at hh
    exact ⟨_, okV nil_cs nil_x nil_ic hh trivial, hk⟩
  · exact hk.elim
theorem endT_ok : (endC true 58).Ok Try.prog := by
  refine ⟨by kernel_rfl, fun args k hk => ?_⟩
  simp only [endC] at hk
  split at hk
  · have hh := endT_true
    unfold endTG at hh
    exact ⟨_, okV nil_cs nil_x nil_ic hh (by simp [endV, fnV, plainS, plainS.plainL]), hk⟩
  · exact hk.elim
theorem endF_ok : (endC false 60).Ok Try.prog := by
  refine ⟨by kernel_rfl, fun args k hk => ?_⟩
  simp only [endC] at hk
  split at hk
  · have hh := endF_true
    unfold endFG at hh
    exact ⟨_, okV nil_cs nil_x nil_ic hh (by simp [endV, fnV, plainS, plainS.plainL]), hk⟩
  · exact hk.elim
theorem gov_ok : govC.Ok Try.prog := by
  refine ⟨by kernel_rfl, fun args k hk => ?_⟩
  simp only [govC] at hk
  split at hk
  · rename_i a b c d g p
    have hh := gov_true a b c d g p
    unfold govG at hh
    exact ⟨_, okV nil_cs nil_x nil_ic hh trivial, hk⟩
  · exact hk.elim
theorem led_ok (b : Bool) : (ledC b).OkF Try.prog := by
  refine ⟨by kernel_rfl, fun args k hk => ?_⟩
  simp only [ledC] at hk
  split at hk
  · rename_i e x z
    obtain ⟨rfl, hx, hk⟩ := hk
    refine ⟨_, ?_, hk⟩
    rw [hx]
    cases b with
    | true =>
      have hh := ledT_true (mOf x) z
      unfold ledTG at hh
      exact funH_does nil_cs nil_x nil_ic mixed hh
    | false =>
      have hh := ledF_true (mOf x) z
      unfold ledFG at hh
      exact funH_does nil_cs nil_x nil_ic mixed hh
  · exact hk.elim
theorem pas_sound : SoundS Try.prog (ctrs [pasC true 83, pasC false 87]) := ctrs_sound (by
  intro x hx
  simp only [List.mem_cons, List.not_mem_nil, or_false] at hx
  rcases hx with rfl | rfl
  · exact pasT_ok
  · exact pasF_ok)
theorem ledF_sound (b : Bool) : SoundS Try.prog (ctrsF [ledC b] (ctrs [pasC true 83, pasC false 87])) := ctrsF_sound pas_sound (by
  intro x hx
  simp only [List.mem_cons, List.not_mem_nil, or_false] at hx
  subst hx
  exact led_ok b)
theorem ledI_ok (b : Bool) : ∀ M, (ledI b M).Ok Try.prog
  | 0 => ⟨by kernel_rfl, fun fs us k hk => by
    simp only [ledI] at hk
    split at hk
    · obtain ⟨_, _, _, h, _⟩ := hk
      omega
    · exact hk.elim⟩
  | M + 1 => ⟨by kernel_rfl, fun fs us k hk => by
    have ih := ledI_ok b M
    have hic : SoundIH Try.prog (ictrs [ledI b M]) := ictrs_sound (by
      intro x hx
      simp only [List.mem_cons, List.not_mem_nil, or_false] at hx
      subst hx
      exact ih)
    simp only [ledI] at hk
    split at hk
    · rename_i z x e
      obtain ⟨rfl, hx, hj, hM, hk⟩ := hk
      have hz := hj.hz
      have e : ((z.toNat : Nat) : Int) = z := by omega
      have key : led1 b M (mOf x) z.toNat := by
        cases b with
        | true => exact led1T_true hj.hm hj.hn (by omega) hM
        | false => exact led1F_true hj.hm hj.hn (by omega) hM
      unfold led1 at key
      rw [e] at key
      have := itH_ok (ledF_sound b) (fun Γ γ _ => noX_sound) hic mixed key
      rw [← hx] at this
      exact ⟨_, 1, _, this, fun j hj => rfl, hk⟩
    · exact hk.elim⟩
end Go.Proofs.Ytpannbkmpbioiaa

namespace Go.Proofs.Ytpannbkmpbioiaa
open Go Go.Lg
noncomputable def csL (b : Bool) : CSpec := ctrsF [ledC b] (ctrs [loC, hiC])
noncomputable def flw (b : Bool) (w : Nw) (z : Int) : Prop := funH Try.prog (csL b) noX (ictrs [ledI b 2000]) noL
  (oneL 0 (itS 3 (fun j => True) (mkF 27 [(3, .ptr 0 0 0), (4, .ptr 1 0 0), (7, .ptr 2 0 0)]) (fun i => mkX [vr 3 (endV b), vr 4 w.sv, vr 1 (i6 (sumL (fun i => needE b (w.j.nl i) (w.j.nh i)) ((led w.m b z.toNat).take i)))]) (fun _ => none)))
  85 [endV b, w.sv, i6 z] (i6 (flowS b w z.toNat))
noncomputable def flwTG (w : Nw) (z : Int) : Prop := flw true w z
noncomputable def flwFG (w : Nw) (z : Int) : Prop := flw false w z
noncomputable def csP (b : Bool) (M : Nat) : CSpec := ctrsQ [atC b M] (ctrs [loC, hiC, flowC b, govC])
noncomputable def atG (b : Bool) (M : Nat) (w : Nw) (z : Int) : Prop := stH Try.prog (csP b M) noX (ictrs []) noL noL 84 (atX b w) [i6 z, .ptr 0 0 0, .ptr 1 0 0, .ptr 2 0 0] (i6 (prS b w z.toNat))
noncomputable def atTG (M : Nat) (w : Nw) (z : Int) : Prop := atG true M w z
noncomputable def atFG (M : Nat) (w : Nw) (z : Int) : Prop := atG false M w z
noncomputable def prG (b : Bool) (w : Nw) (z : Int) : Prop := funH Try.prog (csP b 100) noX (ictrs []) noL noL 59 [endV b, w.sv, i6 z] (i6 (prS b w z.toNat))
noncomputable def prTG (w : Nw) (z : Int) : Prop := prG true w z
noncomputable def prFG (w : Nw) (z : Int) : Prop := prG false w z
def bOf : SV → Bool
  | .agg (.val (.func (.func g) _ _) :: _) => Nat.beq g 81
  | _ => false
def prC : Ctr := ⟨59, fun args k => match args with
  | [e, x, .int .i64 z] => (match bOf e with
    | true => e = endV true ∧ x = (wOf x).sv ∧ (okNet (wOf x) ∧ 0 ≤ z ∧ z < (wOf x).j.n) ∧ k (i6 (prS true (wOf x) z.toNat))
    | false => e = endV false ∧ x = (wOf x).sv ∧ (okNet (wOf x) ∧ 0 ≤ z ∧ z < (wOf x).j.n) ∧ k (i6 (prS false (wOf x) z.toNat)))
  | _ => False⟩
noncomputable def prsG (w : Nw) (z : Int) : Prop := funH Try.prog (ctrsF [openC] (ctrs [endC true 58, endC false 60, prC])) noX (ictrs []) noL noL 38 [w.sv, i6 z] (.agg [i6 (prLo w z.toNat), i6 (prHi w z.toNat)])
def prsC : Ctr := netC 38 fun w r k => match r with
  | [.int .i64 z] => (okNet w ∧ 0 ≤ z ∧ z < w.j.n) ∧ k (.agg [i6 (prLo w z.toNat), i6 (prHi w z.toNat)])
  | _ => False
open Classical in
noncomputable def FedV (w : Nw) (z : Int) : Int := if chkN w z = 0 then fedS w.m z.toNat else 0
open Classical in
noncomputable def PrE (w : Nw) (z : Int) : Int := if chkN w z = 0 then (if fedS w.m z.toNat = 0 then 4 else 0) else chkN w z
open Classical in
noncomputable def PrL (w : Nw) (z : Int) : Int := if PrE w z = 0 then prLo w z.toNat else 0
open Classical in
noncomputable def PrH (w : Nw) (z : Int) : Int := if PrE w z = 0 then prHi w z.toNat else 0
noncomputable def csT : CSpec := ctrs [chkC, fedC, prsC, vnetC 40]
noncomputable def FedG (w : Nw) (z : Int) : Prop := funH Try.prog csT noX (ictrs []) noL noL 12 [w.sv, i6 z] (.tup [i6 (FedV w z), i6 (chkN w z)])
noncomputable def PreG (w : Nw) (z : Int) : Prop := funH Try.prog csT noX (ictrs []) noL noL 14 [w.sv, i6 z] (.tup [.agg [i6 (PrL w z), i6 (PrH w z)], i6 (PrE w z)])
structure ftI (w : Nw) : Prop where
  h : fstB w w.j.n < w.j.n
open Classical in
noncomputable def ftJ (w : Nw) : Int := if ftI w then fstB w w.j.n else 0
structure ftL (w : Nw) : Prop where
  i : ftI w
  h : prLo w (fstB w w.j.n) < w.j.le (fstB w w.j.n)
noncomputable def fltG (w : Nw) : Prop := funH Try.prog csT noX (ictrs [])
  (oneL 0 (natH (fun i => i ≤ w.j.n ∧ ∀ k, k < i → ¬ badJ w k) (fun i => w.j.n - i) 1 (fun i => mkF 43 [(1, .ptr 0 0 0), (2, i6 0), (3, .bool false), (4, .bool false), (9, w.j.sv), (10, i6 w.j.n), (11, i6 i)]) (fun _ => mkX [vr 4 w.sv]) fun _ => none)) noL
  41 [w.sv] (.tup [i6 (ftJ w), .dec (ftL w) (Classical.propDecidable _), .dec (ftI w) (Classical.propDecidable _)])
def fltC : Ctr := netC 41 fun w r k => match r with
  | [] => okNet w ∧ k (.tup [i6 (ftJ w), .dec (ftL w) (Classical.propDecidable _), .dec (ftI w) (Classical.propDecidable _)])
  | _ => False
open Classical in
noncomputable def FtE (w : Nw) : Int := if okNet w then (if ftI w then 0 else 4) else 1
open Classical in
noncomputable def FtJ (w : Nw) : Int := if FtE w = 0 then ftJ w else 0
structure FtL (w : Nw) : Prop where
  e : FtE w = 0
  l : ftL w
noncomputable def FltG (w : Nw) : Prop := funH Try.prog (ctrs [vnetC 40, fltC]) noX (ictrs []) noL noL 16 [w.sv] (.tup [i6 (FtJ w), .dec (FtL w) (Classical.propDecidable _), i6 (FtE w)])
end Go.Proofs.Ytpannbkmpbioiaa

set_option maxRecDepth 100000
namespace Go.Proofs.Ytpannbkmpbioiaa
open Go Go.Lg
theorem flwTG_vc (w : Nw) (z : Int) : flwTG w z = ((0 : Nat) < (1 : Nat) ∧ (0 : Nat) < (1 : Nat) ∧ (∀ (i : Nat), i < w.m.1 → True ∧ True ∧ True ∧ True ∧ True) ∧ SV.agg [SV.val (Value.func (Fn.func (81 : FuncId)) #[] #[]), SV.val (Value.func (Fn.func (82 : FuncId)) #[] #[]), SV.val (Value.func (Fn.func (83 : FuncId)) #[] #[])] = endV true ∧ w.m.sv = w.m.sv ∧ (∀ (i : Nat), i < w.m.1 → True ∧ True ∧ True ∧ True ∧ True) ∧ SV.ipt [SV.val (Value.func (Fn.func (81 : FuncId)) #[] #[]), SV.val (Value.func (Fn.func (82 : FuncId)) #[] #[]), SV.val (Value.func (Fn.func (83 : FuncId)) #[] #[])] = endP true ∧ w.m.sv = w.m.sv ∧ okJ w.m z ∧ w.m.1 + (1 : Nat) - z.toNat < (2000 : Nat) ∧ ((True ∧ True) ∧ ((∀ (i : Nat), i < w.m.1 → True ∧ True ∧ True ∧ True ∧ True) ∧ True) ∧ (True ∧ True ∧ True ∧ True) ∧ ∃ z_1, (z_1 = (0 : Nat) ∧ True) ∧ (0 : Nat) = (0 : Nat) ∧ (0 : Nat) = (0 : Nat) ∧ (0 : Nat) = (0 : Nat) ∧ (0 : Nat) = (0 : Nat) ∧ (0 : Nat) = (0 : Nat) ∧ (0 : Nat) = (0 : Nat) ∧ Fn.func (98 : FuncId) = Fn.func (98 : FuncId) ∧ SV.denL [i6 z] = SV.denL [SV.int IntKind.i64 z] ∧ (True ∧ True) ∧ SV.denL [w.m.sv] = SV.denL [w.m.sv] ∧ ((∀ (i : Nat), i < w.m.1 → True ∧ True ∧ True ∧ True ∧ True) ∧ True) ∧ SV.denL [fnV (81 : FuncId), fnV (82 : FuncId), fnV (83 : FuncId)] = SV.denL [SV.val (Value.func (Fn.func (81 : FuncId)) #[] #[]), SV.val (Value.func (Fn.func (82 : FuncId)) #[] #[]), SV.val (Value.func (Fn.func (83 : FuncId)) #[] #[])] ∧ (True ∧ True ∧ True ∧ True) ∧ Value.func (Fn.func (81 : FuncId)) #[] #[] = Value.func (Fn.func (81 : FuncId)) #[] #[] ∧ Value.func (Fn.func (82 : FuncId)) #[] #[] = Value.func (Fn.func (82 : FuncId)) #[] #[] ∧ Value.func (Fn.func (83 : FuncId)) #[] #[] = Value.func (Fn.func (83 : FuncId)) #[] #[] ∧ w.1 = w.1 ∧ w.2 = w.2 ∧ w.j.1 = w.j.1 ∧ (∀ (i : Nat),
 i < w.j.1 → (SV.agg [i6 (w.j.nl i), i6 (w.j.nh i), i6 (w.j.le i), i6 (w.j.mo i), i6 (w.j.go i)]).den = (SV.agg [i6 (w.j.nl i), i6 (w.j.nh i), i6 (w.j.le i), i6 (w.j.mo i), i6 (w.j.go i)]).den ∧ True ∧ True ∧ True ∧ True ∧ True ∧ True) ∧ w.m.1 = w.m.1 ∧ (∀ (i : Nat), i < w.m.1 → (SV.agg [i6 (w.m.fr i), i6 (w.m.dr i), i6 (w.m.va i), i6 (w.m.co i)]).den = (SV.agg [i6 (w.m.fr i), i6 (w.m.dr i), i6 (w.m.va i), i6 (w.m.co i)]).den ∧ True ∧ True ∧ True ∧ True ∧ True) ∧ (0 : Int) = sumL (fun i => needE true (w.j.nl i) (w.j.nh i)) (List.take z_1 (led w.m true z.toNat)) ∧ True) ∧ (∀ (j : Nat), j < (led w.m true z.toNat).length → ∀ (z_1 : Nat), z_1 = j ∧ True → (0 : Nat) < (1 : Nat) ∧ (0 : Nat) < (1 : Nat) ∧ (0 : Nat) < (1 : Nat) ∧ (0 : Int) ≤ (↑((led w.m true z.toNat).getD j (0 : Nat)) : Int) ∧ (↑((led w.m true z.toNat).getD j (0 : Nat)) : Int) < (↑w.j.1 : Int) ∧ ((-9223372036854775808 : Int) ≤ sumL (fun i => needE true (w.j.nl i) (w.j.nh i)) (List.take z_1 (led w.m true z.toNat)) + w.j.3 (↑((led w.m true z.toNat).getD j (0 : Nat)) : Int).toNat ∧ sumL (fun i => needE true (w.j.nl i) (w.j.nh i)) (List.take z_1 (led w.m true z.toNat)) + w.j.3 (↑((led w.m true z.toNat).getD j (0 : Nat)) : Int).toNat ≤ (9223372036854775807 : Int)) ∧ ∃ z_2, (z_2 = j.succ ∧ True) ∧ Value.func (Fn.func (81 : FuncId)) #[] #[] = Value.func (Fn.func (81 : FuncId)) #[] #[] ∧ Value.func (Fn.func (82 : FuncId)) #[] #[] = Value.func (Fn.func (82 : FuncId)) #[] #[] ∧ Value.func (Fn.func (83 : FuncId)) #[] #[] = Value.func (Fn.func (83 : FuncId)) #[] #[] ∧ w.1 = w.1 ∧ w.2 = w.2 ∧ w.j.1 = w.j.1 ∧ (∀ (i : Nat), i < w.j.1 → (SV.agg [i6 (w.j.nl i), i6 (w.j.nh i), i6 (w.j.le i), i6 (w.j.mo i), i6 (w.j.go i)]).den = (SV.agg [i6 (w.j.nl i), i6 (w.j.nh i), i6 (w.j.le i), i6 (w.j.mo i), i6 (w.j.go i)]).den ∧
 True ∧ True ∧ True ∧ True ∧ True ∧ True) ∧ w.m.1 = w.m.1 ∧ (∀ (i : Nat), i < w.m.1 → (SV.agg [i6 (w.m.fr i), i6 (w.m.dr i), i6 (w.m.va i), i6 (w.m.co i)]).den = (SV.agg [i6 (w.m.fr i), i6 (w.m.dr i), i6 (w.m.va i), i6 (w.m.co i)]).den ∧ True ∧ True ∧ True ∧ True ∧ True) ∧ sumL (fun i => needE true (w.j.nl i) (w.j.nh i)) (List.take z_1 (led w.m true z.toNat)) + w.j.3 (↑((led w.m true z.toNat).getD j (0 : Nat)) : Int).toNat = sumL (fun i => needE true (w.j.nl i) (w.j.nh i)) (List.take z_2 (led w.m true z.toNat)) ∧ True) ∧ ∀ (z_1 : Nat), z_1 = (led w.m true z.toNat).length ∧ True → (0 : Nat) < (1 : Nat) ∧ sumL (fun i => needE true (w.j.nl i) (w.j.nh i)) (List.take z_1 (led w.m true z.toNat)) = flowS true w z.toNat ∧ True) := by kernel_rfl
theorem flwFG_vc (w : Nw) (z : Int) : flwFG w z = ((0 : Nat) < (1 : Nat) ∧ (0 : Nat) < (1 : Nat) ∧ (∀ (i : Nat), i < w.m.1 → True ∧ True ∧ True ∧ True ∧ True) ∧ SV.agg [SV.val (Value.func (Fn.func (82 : FuncId)) #[] #[]), SV.val (Value.func (Fn.func (81 : FuncId)) #[] #[]), SV.val (Value.func (Fn.func (87 : FuncId)) #[] #[])] = endV false ∧ w.m.sv = w.m.sv ∧ (∀ (i : Nat), i < w.m.1 → True ∧ True ∧ True ∧ True ∧ True) ∧ SV.ipt [SV.val (Value.func (Fn.func (82 : FuncId)) #[] #[]), SV.val (Value.func (Fn.func (81 : FuncId)) #[] #[]), SV.val (Value.func (Fn.func (87 : FuncId)) #[] #[])] = endP false ∧ w.m.sv = w.m.sv ∧ okJ w.m z ∧ w.m.1 + (1 : Nat) - z.toNat < (2000 : Nat) ∧ ((True ∧ True) ∧ ((∀ (i : Nat), i < w.m.1 → True ∧ True ∧ True ∧ True ∧ True) ∧ True) ∧ (True ∧ True ∧ True ∧ True) ∧ ∃ z_1, (z_1 = (0 : Nat) ∧ True) ∧ (0 : Nat) = (0 : Nat) ∧ (0 : Nat) = (0 : Nat) ∧ (0 : Nat) = (0 : Nat) ∧ (0 : Nat) = (0 : Nat) ∧ (0 : Nat) = (0 : Nat) ∧ (0 : Nat) = (0 : Nat) ∧ Fn.func (98 : FuncId) = Fn.func (98 : FuncId) ∧ SV.denL [i6 z] = SV.denL [SV.int IntKind.i64 z] ∧ (True ∧ True) ∧ SV.denL [w.m.sv] = SV.denL [w.m.sv] ∧ ((∀ (i : Nat), i < w.m.1 → True ∧ True ∧ True ∧ True ∧ True) ∧ True) ∧ SV.denL [fnV (82 : FuncId), fnV (81 : FuncId), fnV (87 : FuncId)] = SV.denL [SV.val (Value.func (Fn.func (82 : FuncId)) #[] #[]), SV.val (Value.func (Fn.func (81 : FuncId)) #[] #[]), SV.val (Value.func (Fn.func (87 : FuncId)) #[] #[])] ∧ (True ∧ True ∧ True ∧ True) ∧ Value.func (Fn.func (82 : FuncId)) #[] #[] = Value.func (Fn.func (82 : FuncId)) #[] #[] ∧ Value.func (Fn.func (81 : FuncId)) #[] #[] = Value.func (Fn.func (81 : FuncId)) #[] #[] ∧ Value.func (Fn.func (87 : FuncId)) #[] #[] = Value.func (Fn.func (87 : FuncId)) #[] #[] ∧ w.1 = w.1 ∧ w.2 = w.2 ∧ w.j.1 = w.j.1 ∧ (∀ (i : Nat),
 i < w.j.1 → (SV.agg [i6 (w.j.nl i), i6 (w.j.nh i), i6 (w.j.le i), i6 (w.j.mo i), i6 (w.j.go i)]).den = (SV.agg [i6 (w.j.nl i), i6 (w.j.nh i), i6 (w.j.le i), i6 (w.j.mo i), i6 (w.j.go i)]).den ∧ True ∧ True ∧ True ∧ True ∧ True ∧ True) ∧ w.m.1 = w.m.1 ∧ (∀ (i : Nat), i < w.m.1 → (SV.agg [i6 (w.m.fr i), i6 (w.m.dr i), i6 (w.m.va i), i6 (w.m.co i)]).den = (SV.agg [i6 (w.m.fr i), i6 (w.m.dr i), i6 (w.m.va i), i6 (w.m.co i)]).den ∧ True ∧ True ∧ True ∧ True ∧ True) ∧ (0 : Int) = sumL (fun i => needE false (w.j.nl i) (w.j.nh i)) (List.take z_1 (led w.m false z.toNat)) ∧ True) ∧ (∀ (j : Nat), j < (led w.m false z.toNat).length → ∀ (z_1 : Nat), z_1 = j ∧ True → (0 : Nat) < (1 : Nat) ∧ (0 : Nat) < (1 : Nat) ∧ (0 : Nat) < (1 : Nat) ∧ (0 : Int) ≤ (↑((led w.m false z.toNat).getD j (0 : Nat)) : Int) ∧ (↑((led w.m false z.toNat).getD j (0 : Nat)) : Int) < (↑w.j.1 : Int) ∧ ((-9223372036854775808 : Int) ≤ sumL (fun i => needE false (w.j.nl i) (w.j.nh i)) (List.take z_1 (led w.m false z.toNat)) + w.j.2 (↑((led w.m false z.toNat).getD j (0 : Nat)) : Int).toNat ∧ sumL (fun i => needE false (w.j.nl i) (w.j.nh i)) (List.take z_1 (led w.m false z.toNat)) + w.j.2 (↑((led w.m false z.toNat).getD j (0 : Nat)) : Int).toNat ≤ (9223372036854775807 : Int)) ∧ ∃ z_2, (z_2 = j.succ ∧ True) ∧ Value.func (Fn.func (82 : FuncId)) #[] #[] = Value.func (Fn.func (82 : FuncId)) #[] #[] ∧ Value.func (Fn.func (81 : FuncId)) #[] #[] = Value.func (Fn.func (81 : FuncId)) #[] #[] ∧ Value.func (Fn.func (87 : FuncId)) #[] #[] = Value.func (Fn.func (87 : FuncId)) #[] #[] ∧ w.1 = w.1 ∧ w.2 = w.2 ∧ w.j.1 = w.j.1 ∧ (∀ (i : Nat), i < w.j.1 → (SV.agg [i6 (w.j.nl i), i6 (w.j.nh i), i6 (w.j.le i), i6 (w.j.mo i), i6 (w.j.go i)]).den = (SV.agg [i6 (w.j.nl i), i6 (w.j.nh i), i6 (w.j.le i), i6 (w.j.mo i), i6 (w.j.go i)]).den ∧
 True ∧ True ∧ True ∧ True ∧ True ∧ True) ∧ w.m.1 = w.m.1 ∧ (∀ (i : Nat), i < w.m.1 → (SV.agg [i6 (w.m.fr i), i6 (w.m.dr i), i6 (w.m.va i), i6 (w.m.co i)]).den = (SV.agg [i6 (w.m.fr i), i6 (w.m.dr i), i6 (w.m.va i), i6 (w.m.co i)]).den ∧ True ∧ True ∧ True ∧ True ∧ True) ∧ sumL (fun i => needE false (w.j.nl i) (w.j.nh i)) (List.take z_1 (led w.m false z.toNat)) + w.j.2 (↑((led w.m false z.toNat).getD j (0 : Nat)) : Int).toNat = sumL (fun i => needE false (w.j.nl i) (w.j.nh i)) (List.take z_2 (led w.m false z.toNat)) ∧ True) ∧ ∀ (z_1 : Nat), z_1 = (led w.m false z.toNat).length ∧ True → (0 : Nat) < (1 : Nat) ∧ sumL (fun i => needE false (w.j.nl i) (w.j.nh i)) (List.take z_1 (led w.m false z.toNat)) = flowS false w z.toNat ∧ True) := by kernel_rfl
theorem atTG_vc (M : Nat) (w : Nw) (z : Int) : atTG M w z = ((∀ (i : Nat), i < w.j.1 → True ∧ True ∧ True ∧ True ∧ True ∧ True) ∧ (∀ (i : Nat), i < w.m.1 → True ∧ True ∧ True ∧ True ∧ True) ∧ (0 : Nat) < (1 : Nat) ∧ (0 : Nat) < (1 : Nat) ∧ ((0 : Int) < z → (0 : Nat) < (1 : Nat) ∧ ((-9223372036854775808 : Int) ≤ z - (1 : Int) ∧ z - (1 : Int) ≤ (9223372036854775807 : Int)) ∧ (0 : Int) ≤ z - (1 : Int) ∧ z - (1 : Int) < (↑w.m.1 : Int) ∧ (0 : Nat) < (1 : Nat) ∧ (0 : Nat) < (1 : Nat) ∧ (okNet (w, w.m.fr (z - (1 : Int)).toNat).fst ∧ ((0 : Int) ≤ w.m.2 (z - (1 : Int)).toNat ∧ w.m.2 (z - (1 : Int)).toNat < (↑w.j.1 : Int)) ∧ (w.m.2 (z - (1 : Int)).toNat).toNat < M) ∧ w.m.2 (z - (1 : Int)).toNat = w.m.2 (z - (1 : Int)).toNat ∧ (0 : Nat) = (0 : Nat) ∧ (0 : Nat) = (0 : Nat) ∧ (0 : Nat) = (0 : Nat) ∧ (0 : Nat) = (0 : Nat) ∧ (0 : Nat) = (0 : Nat) ∧ (0 : Nat) = (0 : Nat) ∧ Value.func (Fn.func (81 : FuncId)) #[] #[] = Value.func (Fn.func (81 : FuncId)) #[] #[] ∧ Value.func (Fn.func (82 : FuncId)) #[] #[] = Value.func (Fn.func (82 : FuncId)) #[] #[] ∧ Value.func (Fn.func (83 : FuncId)) #[] #[] = Value.func (Fn.func (83 : FuncId)) #[] #[] ∧ w.1 = w.1 ∧ w.2 = w.2 ∧ w.j.1 = w.j.1 ∧ (∀ (i : Nat), i < w.j.1 → (SV.agg [i6 (w.j.nl i), i6 (w.j.nh i), i6 (w.j.le i), i6 (w.j.mo i), i6 (w.j.go i)]).den = (SV.agg [i6 ((w, w.m.fr (z - (1 : Int)).toNat).fst.j.nl i), i6 ((w, w.m.fr (z - (1 : Int)).toNat).fst.j.nh i), i6 ((w, w.m.fr (z - (1 : Int)).toNat).fst.j.le i), i6 ((w, w.m.fr (z - (1 : Int)).toNat).fst.j.mo i), i6 ((w, w.m.fr (z - (1 : Int)).toNat).fst.j.go i)]).den) ∧ w.m.1 = w.m.1 ∧ (∀ (i : Nat), i < w.m.1 → (SV.agg [i6 (w.m.fr i), i6 (w.m.dr i), i6 (w.m.va i), i6 (w.m.co i)]).den = (SV.agg [i6 ((w, w.m.fr (z - (1 : Int)).toNat).fst.m.fr i), i6 ((w, w.m.fr (z - (1 : Int)).toNat).fst.m.dr i),
 i6 ((w, w.m.fr (z - (1 : Int)).toNat).fst.m.va i), i6 ((w, w.m.fr (z - (1 : Int)).toNat).fst.m.co i)]).den) ∧ (0 : Nat) = (0 : Nat) ∧ (0 : Nat) = (0 : Nat) ∧ (0 : Nat) = (0 : Nat) ∧ (0 : Nat) = (0 : Nat) ∧ (0 : Nat) = (0 : Nat) ∧ (0 : Nat) = (0 : Nat) ∧ (0 : Nat) < (1 : Nat) ∧ (0 : Nat) < (1 : Nat) ∧ (0 : Nat) < (1 : Nat) ∧ (∀ (i : Nat), i < w.j.1 → True ∧ True ∧ True ∧ True ∧ True ∧ True) ∧ (∀ (i : Nat), i < w.m.1 → True ∧ True ∧ True ∧ True ∧ True) ∧ SV.agg [SV.val (Value.func (Fn.func (81 : FuncId)) #[] #[]), SV.val (Value.func (Fn.func (82 : FuncId)) #[] #[]), SV.val (Value.func (Fn.func (83 : FuncId)) #[] #[])] = endV true ∧ w.sv = w.sv ∧ (okNet w ∧ (0 : Int) ≤ z ∧ z < (↑w.j.1 : Int)) ∧ ((-9223372036854775808 : Int) ≤ w.m.3 (z - (1 : Int)).toNat * flowS true w z.toNat ∧ w.m.3 (z - (1 : Int)).toNat * flowS true w z.toNat ≤ (9223372036854775807 : Int)) ∧ ((-9223372036854775808 : Int) ≤ prS true (w, w.m.fr (z - (1 : Int)).toNat).fst (w.m.2 (z - (1 : Int)).toNat).toNat - w.m.3 (z - (1 : Int)).toNat * flowS true w z.toNat ∧ prS true (w, w.m.fr (z - (1 : Int)).toNat).fst (w.m.2 (z - (1 : Int)).toNat).toNat - w.m.3 (z - (1 : Int)).toNat * flowS true w z.toNat ≤ (9223372036854775807 : Int)) ∧ (0 : Nat) < (1 : Nat) ∧ (0 : Int) ≤ z ∧ z < (↑w.j.1 : Int) ∧ govd (w.j.6 z.toNat) (prS true (w, w.m.fr (z - (1 : Int)).toNat).fst (w.m.2 (z - (1 : Int)).toNat).toNat - w.m.3 (z - (1 : Int)).toNat * flowS true w z.toNat) = prS true w z.toNat ∧ Value.func (Fn.func (81 : FuncId)) #[] #[] = Value.func (Fn.func (81 : FuncId)) #[] #[] ∧ Value.func (Fn.func (82 : FuncId)) #[] #[] = Value.func (Fn.func (82 : FuncId)) #[] #[] ∧ Value.func (Fn.func (83 : FuncId)) #[] #[] = Value.func (Fn.func (83 : FuncId)) #[] #[] ∧ w.1 = w.1 ∧ w.2 = w.2 ∧ w.j.1 = w.j.1 ∧ (∀ (i : Nat), i < w.j.1 → (SV.agg
 [i6 (w.j.nl i), i6 (w.j.nh i), i6 (w.j.le i), i6 (w.j.mo i), i6 (w.j.go i)]).den = (SV.agg [i6 (w.j.nl i), i6 (w.j.nh i), i6 (w.j.le i), i6 (w.j.mo i), i6 (w.j.go i)]).den ∧ True ∧ True ∧ True ∧ True ∧ True ∧ True) ∧ w.m.1 = w.m.1 ∧ (∀ (i : Nat), i < w.m.1 → (SV.agg [i6 (w.m.fr i), i6 (w.m.dr i), i6 (w.m.va i), i6 (w.m.co i)]).den = (SV.agg [i6 (w.m.fr i), i6 (w.m.dr i), i6 (w.m.va i), i6 (w.m.co i)]).den ∧ True ∧ True ∧ True ∧ True ∧ True) ∧ Fn.func (84 : FuncId) = Fn.func (84 : FuncId) ∧ (0 : Nat) = (0 : Nat) ∧ (0 : Nat) = (0 : Nat) ∧ (0 : Nat) = (0 : Nat) ∧ (0 : Nat) = (0 : Nat) ∧ (0 : Nat) = (0 : Nat) ∧ (0 : Nat) = (0 : Nat) ∧ True) ∧ (¬(0 : Int) < z → (0 : Nat) < (1 : Nat) ∧ (0 : Int) ≤ z ∧ z < (↑w.j.1 : Int) ∧ govd (w.j.6 z.toNat) w.1 = prS true w z.toNat ∧ Value.func (Fn.func (81 : FuncId)) #[] #[] = Value.func (Fn.func (81 : FuncId)) #[] #[] ∧ Value.func (Fn.func (82 : FuncId)) #[] #[] = Value.func (Fn.func (82 : FuncId)) #[] #[] ∧ Value.func (Fn.func (83 : FuncId)) #[] #[] = Value.func (Fn.func (83 : FuncId)) #[] #[] ∧ w.1 = w.1 ∧ w.2 = w.2 ∧ w.j.1 = w.j.1 ∧ (∀ (i : Nat), i < w.j.1 → (SV.agg [i6 (w.j.nl i), i6 (w.j.nh i), i6 (w.j.le i), i6 (w.j.mo i), i6 (w.j.go i)]).den = (SV.agg [i6 (w.j.nl i), i6 (w.j.nh i), i6 (w.j.le i), i6 (w.j.mo i), i6 (w.j.go i)]).den ∧ True ∧ True ∧ True ∧ True ∧ True ∧ True) ∧ w.m.1 = w.m.1 ∧ (∀ (i : Nat), i < w.m.1 → (SV.agg [i6 (w.m.fr i), i6 (w.m.dr i), i6 (w.m.va i), i6 (w.m.co i)]).den = (SV.agg [i6 (w.m.fr i), i6 (w.m.dr i), i6 (w.m.va i), i6 (w.m.co i)]).den ∧ True ∧ True ∧ True ∧ True ∧ True) ∧ Fn.func (84 : FuncId) = Fn.func (84 : FuncId) ∧ (0 : Nat) = (0 : Nat) ∧ (0 : Nat) = (0 : Nat) ∧ (0 : Nat) = (0 : Nat) ∧ (0 : Nat) = (0 : Nat) ∧ (0 : Nat) = (0 : Nat) ∧ (0 : Nat) = (0 : Nat) ∧ True)) := by kernel_rfl
theorem atFG_vc (M : Nat) (w : Nw) (z : Int) : atFG M w z = ((∀ (i : Nat), i < w.j.1 → True ∧ True ∧ True ∧ True ∧ True ∧ True) ∧ (∀ (i : Nat), i < w.m.1 → True ∧ True ∧ True ∧ True ∧ True) ∧ (0 : Nat) < (1 : Nat) ∧ (0 : Nat) < (1 : Nat) ∧ ((0 : Int) < z → (0 : Nat) < (1 : Nat) ∧ ((-9223372036854775808 : Int) ≤ z - (1 : Int) ∧ z - (1 : Int) ≤ (9223372036854775807 : Int)) ∧ (0 : Int) ≤ z - (1 : Int) ∧ z - (1 : Int) < (↑w.m.1 : Int) ∧ (0 : Nat) < (1 : Nat) ∧ (0 : Nat) < (1 : Nat) ∧ (okNet (w, w.m.fr (z - (1 : Int)).toNat).fst ∧ ((0 : Int) ≤ w.m.2 (z - (1 : Int)).toNat ∧ w.m.2 (z - (1 : Int)).toNat < (↑w.j.1 : Int)) ∧ (w.m.2 (z - (1 : Int)).toNat).toNat < M) ∧ w.m.2 (z - (1 : Int)).toNat = w.m.2 (z - (1 : Int)).toNat ∧ (0 : Nat) = (0 : Nat) ∧ (0 : Nat) = (0 : Nat) ∧ (0 : Nat) = (0 : Nat) ∧ (0 : Nat) = (0 : Nat) ∧ (0 : Nat) = (0 : Nat) ∧ (0 : Nat) = (0 : Nat) ∧ Value.func (Fn.func (82 : FuncId)) #[] #[] = Value.func (Fn.func (82 : FuncId)) #[] #[] ∧ Value.func (Fn.func (81 : FuncId)) #[] #[] = Value.func (Fn.func (81 : FuncId)) #[] #[] ∧ Value.func (Fn.func (87 : FuncId)) #[] #[] = Value.func (Fn.func (87 : FuncId)) #[] #[] ∧ w.1 = w.1 ∧ w.2 = w.2 ∧ w.j.1 = w.j.1 ∧ (∀ (i : Nat), i < w.j.1 → (SV.agg [i6 (w.j.nl i), i6 (w.j.nh i), i6 (w.j.le i), i6 (w.j.mo i), i6 (w.j.go i)]).den = (SV.agg [i6 ((w, w.m.fr (z - (1 : Int)).toNat).fst.j.nl i), i6 ((w, w.m.fr (z - (1 : Int)).toNat).fst.j.nh i), i6 ((w, w.m.fr (z - (1 : Int)).toNat).fst.j.le i), i6 ((w, w.m.fr (z - (1 : Int)).toNat).fst.j.mo i), i6 ((w, w.m.fr (z - (1 : Int)).toNat).fst.j.go i)]).den) ∧ w.m.1 = w.m.1 ∧ (∀ (i : Nat), i < w.m.1 → (SV.agg [i6 (w.m.fr i), i6 (w.m.dr i), i6 (w.m.va i), i6 (w.m.co i)]).den = (SV.agg [i6 ((w, w.m.fr (z - (1 : Int)).toNat).fst.m.fr i), i6 ((w, w.m.fr (z - (1 : Int)).toNat).fst.m.dr i),
 i6 ((w, w.m.fr (z - (1 : Int)).toNat).fst.m.va i), i6 ((w, w.m.fr (z - (1 : Int)).toNat).fst.m.co i)]).den) ∧ (0 : Nat) = (0 : Nat) ∧ (0 : Nat) = (0 : Nat) ∧ (0 : Nat) = (0 : Nat) ∧ (0 : Nat) = (0 : Nat) ∧ (0 : Nat) = (0 : Nat) ∧ (0 : Nat) = (0 : Nat) ∧ (0 : Nat) < (1 : Nat) ∧ (0 : Nat) < (1 : Nat) ∧ (0 : Nat) < (1 : Nat) ∧ (∀ (i : Nat), i < w.j.1 → True ∧ True ∧ True ∧ True ∧ True ∧ True) ∧ (∀ (i : Nat), i < w.m.1 → True ∧ True ∧ True ∧ True ∧ True) ∧ SV.agg [SV.val (Value.func (Fn.func (82 : FuncId)) #[] #[]), SV.val (Value.func (Fn.func (81 : FuncId)) #[] #[]), SV.val (Value.func (Fn.func (87 : FuncId)) #[] #[])] = endV false ∧ w.sv = w.sv ∧ (okNet w ∧ (0 : Int) ≤ z ∧ z < (↑w.j.1 : Int)) ∧ ((-9223372036854775808 : Int) ≤ w.m.3 (z - (1 : Int)).toNat * flowS false w z.toNat ∧ w.m.3 (z - (1 : Int)).toNat * flowS false w z.toNat ≤ (9223372036854775807 : Int)) ∧ ((-9223372036854775808 : Int) ≤ prS false (w, w.m.fr (z - (1 : Int)).toNat).fst (w.m.2 (z - (1 : Int)).toNat).toNat - w.m.3 (z - (1 : Int)).toNat * flowS false w z.toNat ∧ prS false (w, w.m.fr (z - (1 : Int)).toNat).fst (w.m.2 (z - (1 : Int)).toNat).toNat - w.m.3 (z - (1 : Int)).toNat * flowS false w z.toNat ≤ (9223372036854775807 : Int)) ∧ (0 : Nat) < (1 : Nat) ∧ (0 : Int) ≤ z ∧ z < (↑w.j.1 : Int) ∧ govd (w.j.6 z.toNat) (prS false (w, w.m.fr (z - (1 : Int)).toNat).fst (w.m.2 (z - (1 : Int)).toNat).toNat - w.m.3 (z - (1 : Int)).toNat * flowS false w z.toNat) = prS false w z.toNat ∧ Value.func (Fn.func (82 : FuncId)) #[] #[] = Value.func (Fn.func (82 : FuncId)) #[] #[] ∧ Value.func (Fn.func (81 : FuncId)) #[] #[] = Value.func (Fn.func (81 : FuncId)) #[] #[] ∧ Value.func (Fn.func (87 : FuncId)) #[] #[] = Value.func (Fn.func (87 : FuncId)) #[] #[] ∧ w.1 = w.1 ∧ w.2 = w.2 ∧ w.j.1 = w.j.1 ∧ (∀ (i : Nat), i < w.j.1 →
 (SV.agg [i6 (w.j.nl i), i6 (w.j.nh i), i6 (w.j.le i), i6 (w.j.mo i), i6 (w.j.go i)]).den = (SV.agg [i6 (w.j.nl i), i6 (w.j.nh i), i6 (w.j.le i), i6 (w.j.mo i), i6 (w.j.go i)]).den ∧ True ∧ True ∧ True ∧ True ∧ True ∧ True) ∧ w.m.1 = w.m.1 ∧ (∀ (i : Nat), i < w.m.1 → (SV.agg [i6 (w.m.fr i), i6 (w.m.dr i), i6 (w.m.va i), i6 (w.m.co i)]).den = (SV.agg [i6 (w.m.fr i), i6 (w.m.dr i), i6 (w.m.va i), i6 (w.m.co i)]).den ∧ True ∧ True ∧ True ∧ True ∧ True) ∧ Fn.func (84 : FuncId) = Fn.func (84 : FuncId) ∧ (0 : Nat) = (0 : Nat) ∧ (0 : Nat) = (0 : Nat) ∧ (0 : Nat) = (0 : Nat) ∧ (0 : Nat) = (0 : Nat) ∧ (0 : Nat) = (0 : Nat) ∧ (0 : Nat) = (0 : Nat) ∧ True) ∧ (¬(0 : Int) < z → (0 : Nat) < (1 : Nat) ∧ (0 : Int) ≤ z ∧ z < (↑w.j.1 : Int) ∧ govd (w.j.6 z.toNat) w.2 = prS false w z.toNat ∧ Value.func (Fn.func (82 : FuncId)) #[] #[] = Value.func (Fn.func (82 : FuncId)) #[] #[] ∧ Value.func (Fn.func (81 : FuncId)) #[] #[] = Value.func (Fn.func (81 : FuncId)) #[] #[] ∧ Value.func (Fn.func (87 : FuncId)) #[] #[] = Value.func (Fn.func (87 : FuncId)) #[] #[] ∧ w.1 = w.1 ∧ w.2 = w.2 ∧ w.j.1 = w.j.1 ∧ (∀ (i : Nat), i < w.j.1 → (SV.agg [i6 (w.j.nl i), i6 (w.j.nh i), i6 (w.j.le i), i6 (w.j.mo i), i6 (w.j.go i)]).den = (SV.agg [i6 (w.j.nl i), i6 (w.j.nh i), i6 (w.j.le i), i6 (w.j.mo i), i6 (w.j.go i)]).den ∧ True ∧ True ∧ True ∧ True ∧ True ∧ True) ∧ w.m.1 = w.m.1 ∧ (∀ (i : Nat), i < w.m.1 → (SV.agg [i6 (w.m.fr i), i6 (w.m.dr i), i6 (w.m.va i), i6 (w.m.co i)]).den = (SV.agg [i6 (w.m.fr i), i6 (w.m.dr i), i6 (w.m.va i), i6 (w.m.co i)]).den ∧ True ∧ True ∧ True ∧ True ∧ True) ∧ Fn.func (84 : FuncId) = Fn.func (84 : FuncId) ∧ (0 : Nat) = (0 : Nat) ∧ (0 : Nat) = (0 : Nat) ∧ (0 : Nat) = (0 : Nat) ∧ (0 : Nat) = (0 : Nat) ∧ (0 : Nat) = (0 : Nat) ∧ (0 : Nat) = (0 : Nat) ∧ True)) := by kernel_rfl
theorem prTG_vc (w : Nw) (z : Int) : prTG w z = ((0 : Nat) < (1 : Nat) ∧ (okNet (w, z).fst ∧ ((0 : Int) ≤ z ∧ z < (↑w.j.1 : Int)) ∧ z.toNat < (100 : Nat)) ∧ z = z ∧ (0 : Nat) = (0 : Nat) ∧ (0 : Nat) = (0 : Nat) ∧ (0 : Nat) = (0 : Nat) ∧ (0 : Nat) = (0 : Nat) ∧ (0 : Nat) = (0 : Nat) ∧ (0 : Nat) = (0 : Nat) ∧ Value.func (Fn.func (81 : FuncId)) #[] #[] = Value.func (Fn.func (81 : FuncId)) #[] #[] ∧ Value.func (Fn.func (82 : FuncId)) #[] #[] = Value.func (Fn.func (82 : FuncId)) #[] #[] ∧ Value.func (Fn.func (83 : FuncId)) #[] #[] = Value.func (Fn.func (83 : FuncId)) #[] #[] ∧ w.1 = w.1 ∧ w.2 = w.2 ∧ w.j.1 = w.j.1 ∧ (∀ (i : Nat), i < w.j.1 → (SV.agg [i6 (w.j.nl i), i6 (w.j.nh i), i6 (w.j.le i), i6 (w.j.mo i), i6 (w.j.go i)]).den = (SV.agg [i6 ((w, z).fst.j.nl i), i6 ((w, z).fst.j.nh i), i6 ((w, z).fst.j.le i), i6 ((w, z).fst.j.mo i), i6 ((w, z).fst.j.go i)]).den) ∧ w.m.1 = w.m.1 ∧ (∀ (i : Nat), i < w.m.1 → (SV.agg [i6 (w.m.fr i), i6 (w.m.dr i), i6 (w.m.va i), i6 (w.m.co i)]).den = (SV.agg [i6 ((w, z).fst.m.fr i), i6 ((w, z).fst.m.dr i), i6 ((w, z).fst.m.va i), i6 ((w, z).fst.m.co i)]).den) ∧ (0 : Nat) = (0 : Nat) ∧ (0 : Nat) = (0 : Nat) ∧ (0 : Nat) = (0 : Nat) ∧ (0 : Nat) = (0 : Nat) ∧ (0 : Nat) = (0 : Nat) ∧ (0 : Nat) = (0 : Nat) ∧ prS true (w, z).fst z.toNat = prS true w z.toNat ∧ True) := by kernel_rfl
theorem prFG_vc (w : Nw) (z : Int) : prFG w z = ((0 : Nat) < (1 : Nat) ∧ (okNet (w, z).fst ∧ ((0 : Int) ≤ z ∧ z < (↑w.j.1 : Int)) ∧ z.toNat < (100 : Nat)) ∧ z = z ∧ (0 : Nat) = (0 : Nat) ∧ (0 : Nat) = (0 : Nat) ∧ (0 : Nat) = (0 : Nat) ∧ (0 : Nat) = (0 : Nat) ∧ (0 : Nat) = (0 : Nat) ∧ (0 : Nat) = (0 : Nat) ∧ Value.func (Fn.func (82 : FuncId)) #[] #[] = Value.func (Fn.func (82 : FuncId)) #[] #[] ∧ Value.func (Fn.func (81 : FuncId)) #[] #[] = Value.func (Fn.func (81 : FuncId)) #[] #[] ∧ Value.func (Fn.func (87 : FuncId)) #[] #[] = Value.func (Fn.func (87 : FuncId)) #[] #[] ∧ w.1 = w.1 ∧ w.2 = w.2 ∧ w.j.1 = w.j.1 ∧ (∀ (i : Nat), i < w.j.1 → (SV.agg [i6 (w.j.nl i), i6 (w.j.nh i), i6 (w.j.le i), i6 (w.j.mo i), i6 (w.j.go i)]).den = (SV.agg [i6 ((w, z).fst.j.nl i), i6 ((w, z).fst.j.nh i), i6 ((w, z).fst.j.le i), i6 ((w, z).fst.j.mo i), i6 ((w, z).fst.j.go i)]).den) ∧ w.m.1 = w.m.1 ∧ (∀ (i : Nat), i < w.m.1 → (SV.agg [i6 (w.m.fr i), i6 (w.m.dr i), i6 (w.m.va i), i6 (w.m.co i)]).den = (SV.agg [i6 ((w, z).fst.m.fr i), i6 ((w, z).fst.m.dr i), i6 ((w, z).fst.m.va i), i6 ((w, z).fst.m.co i)]).den) ∧ (0 : Nat) = (0 : Nat) ∧ (0 : Nat) = (0 : Nat) ∧ (0 : Nat) = (0 : Nat) ∧ (0 : Nat) = (0 : Nat) ∧ (0 : Nat) = (0 : Nat) ∧ (0 : Nat) = (0 : Nat) ∧ prS false (w, z).fst z.toNat = prS false w z.toNat ∧ True) := by kernel_rfl
theorem prsG_vc (w : Nw) (z : Int) : prsG w z = ((0 : Nat) < (1 : Nat) ∧ (∀ (i : Nat), i < w.m.1 → True ∧ True ∧ True ∧ True ∧ True) ∧ w.m.sv = w.m.sv ∧ okJ w.m z ∧ (0 : Nat) < (1 : Nat) ∧ (∀ (i : Nat), i < w.j.1 → True ∧ True ∧ True ∧ True ∧ True ∧ True) ∧ (∀ (i : Nat), i < w.m.1 → True ∧ True ∧ True ∧ True ∧ True) ∧ SV.agg [SV.val (Value.func (Fn.func (81 : FuncId)) #[] #[]), SV.val (Value.func (Fn.func (82 : FuncId)) #[] #[]), SV.val (Value.func (Fn.func (83 : FuncId)) #[] #[])] = endV true ∧ (opW w z.toNat).sv = (opW w z.toNat).sv ∧ (okNet (opW w z.toNat) ∧ (0 : Int) ≤ z ∧ z < (↑w.j.1 : Int)) ∧ (0 : Nat) < (1 : Nat) ∧ (∀ (i : Nat), i < w.j.1 → True ∧ True ∧ True ∧ True ∧ True ∧ True) ∧ (∀ (i : Nat), i < w.m.1 → True ∧ True ∧ True ∧ True ∧ True) ∧ SV.agg [SV.val (Value.func (Fn.func (82 : FuncId)) #[] #[]), SV.val (Value.func (Fn.func (81 : FuncId)) #[] #[]), SV.val (Value.func (Fn.func (87 : FuncId)) #[] #[])] = endV false ∧ (opW w z.toNat).sv = (opW w z.toNat).sv ∧ (okNet (opW w z.toNat) ∧ (0 : Int) ≤ z ∧ z < (↑w.j.1 : Int)) ∧ (0 : Nat) < (1 : Nat) ∧ prS true (opW w z.toNat) z.toNat = prLo w z.toNat ∧ prS false (opW w z.toNat) z.toNat = prHi w z.toNat ∧ True) := by kernel_rfl
theorem FedG_vc (w : Nw) (z : Int) : FedG w z = ((0 : Nat) < (1 : Nat) ∧ (∀ (i : Nat), i < w.j.1 → True ∧ True ∧ True ∧ True ∧ True ∧ True) ∧ (∀ (i : Nat), i < w.m.1 → True ∧ True ∧ True ∧ True ∧ True) ∧ w.sv = w.sv ∧ (¬chkN w z = (0 : Int) → (0 : Int) = FedV w z ∧ chkN w z = chkN w z ∧ True) ∧ (¬¬chkN w z = (0 : Int) → (0 : Nat) < (1 : Nat) ∧ (∀ (i : Nat), i < w.m.1 → True ∧ True ∧ True ∧ True ∧ True) ∧ w.m.sv = w.m.sv ∧ okJ w.m z ∧ fedS w.m z.toNat = FedV w z ∧ (0 : Int) = chkN w z ∧ True)) := by kernel_rfl
theorem PreG_vc (w : Nw) (z : Int) : PreG w z = ((0 : Nat) < (1 : Nat) ∧ (∀ (i : Nat), i < w.j.1 → True ∧ True ∧ True ∧ True ∧ True ∧ True) ∧ (∀ (i : Nat), i < w.m.1 → True ∧ True ∧ True ∧ True ∧ True) ∧ w.sv = w.sv ∧ (¬chkN w z = (0 : Int) → (0 : Nat) < (1 : Nat) ∧ (0 : Int) = PrL w z ∧ (0 : Int) = PrH w z ∧ chkN w z = PrE w z ∧ True) ∧ (¬¬chkN w z = (0 : Int) → (0 : Nat) < (1 : Nat) ∧ (∀ (i : Nat), i < w.m.1 → True ∧ True ∧ True ∧ True ∧ True) ∧ w.m.sv = w.m.sv ∧ okJ w.m z ∧ (fedS w.m z.toNat = (0 : Int) → (0 : Nat) < (1 : Nat) ∧ (0 : Int) = PrL w z ∧ (0 : Int) = PrH w z ∧ (4 : Int) = PrE w z ∧ True) ∧ (¬fedS w.m z.toNat = (0 : Int) → (0 : Nat) < (1 : Nat) ∧ (∀ (i : Nat), i < w.j.1 → True ∧ True ∧ True ∧ True ∧ True ∧ True) ∧ (∀ (i : Nat), i < w.m.1 → True ∧ True ∧ True ∧ True ∧ True) ∧ w.sv = w.sv ∧ (okNet w ∧ (0 : Int) ≤ z ∧ z < (↑w.j.1 : Int)) ∧ (0 : Nat) < (1 : Nat) ∧ prLo w z.toNat = PrL w z ∧ prHi w z.toNat = PrH w z ∧ (0 : Int) = PrE w z ∧ True))) := by kernel_rfl
theorem fltG_vc (w : Nw) : fltG w = ((0 : Nat) < (1 : Nat) ∧ (∃ z, (z ≤ w.j.1 ∧ ∀ (k : Nat), k < z → ¬badJ w k) ∧ (0 : Nat) = (0 : Nat) ∧ (0 : Nat) = (0 : Nat) ∧ (0 : Int) = (0 : Int) ∧ false = false ∧ false = false ∧ w.j.1 = w.j.1 ∧ (∀ (i : Nat), i < w.j.1 → (SV.agg [i6 (w.j.nl i), i6 (w.j.nh i), i6 (w.j.le i), i6 (w.j.mo i), i6 (w.j.go i)]).den = (SV.agg [i6 (w.j.nl i), i6 (w.j.nh i), i6 (w.j.le i), i6 (w.j.mo i), i6 (w.j.go i)]).den ∧ True ∧ True ∧ True ∧ True ∧ True ∧ True) ∧ (↑w.j.1 : Int) = (↑w.j.1 : Int) ∧ (0 : Int) = (↑z : Int) ∧ w.1 = w.1 ∧ w.2 = w.2 ∧ w.j.1 = w.j.1 ∧ (∀ (i : Nat), i < w.j.1 → (SV.agg [i6 (w.j.nl i), i6 (w.j.nh i), i6 (w.j.le i), i6 (w.j.mo i), i6 (w.j.go i)]).den = (SV.agg [i6 (w.j.nl i), i6 (w.j.nh i), i6 (w.j.le i), i6 (w.j.mo i), i6 (w.j.go i)]).den ∧ True ∧ True ∧ True ∧ True ∧ True ∧ True) ∧ w.m.1 = w.m.1 ∧ (∀ (i : Nat), i < w.m.1 → (SV.agg [i6 (w.m.fr i), i6 (w.m.dr i), i6 (w.m.va i), i6 (w.m.co i)]).den = (SV.agg [i6 (w.m.fr i), i6 (w.m.dr i), i6 (w.m.va i), i6 (w.m.co i)]).den ∧ True ∧ True ∧ True ∧ True ∧ True) ∧ True) ∧ ∀ (z : Nat), (z ≤ w.j.1 ∧ ∀ (k : Nat), k < z → ¬badJ w k) → ((↑z : Int) < (↑w.j.1 : Int) → (0 : Int) ≤ (↑z : Int) ∧ (↑z : Int) < (↑w.j.1 : Int) ∧ (0 : Nat) < (1 : Nat) ∧ (∀ (i : Nat), i < w.m.1 → True ∧ True ∧ True ∧ True ∧ True) ∧ w.m.sv = w.m.sv ∧ okJ w.m (↑z : Int) ∧ (fedS w.m (↑z : Int).toNat = (0 : Int) → ((-9223372036854775808 : Int) ≤ (↑z : Int) + (1 : Int) ∧ (↑z : Int) + (1 : Int) ≤ (9223372036854775807 : Int)) ∧ ∃ z_1, (z_1 ≤ w.j.1 ∧ ∀ (k : Nat), k < z_1 → ¬badJ w k) ∧ w.j.1 - z_1 < w.j.1 - z ∧ (0 : Nat) = (0 : Nat) ∧ (0 : Nat) = (0 : Nat) ∧ (0 : Int) = (0 : Int) ∧ false = false ∧ false = false ∧ w.j.1 = w.j.1 ∧ (∀ (i : Nat), i < w.j.1 → (SV.agg [i6 (w.j.nl i), i6 (w.j.nh i), i6 (w.j.le i),
 i6 (w.j.mo i), i6 (w.j.go i)]).den = (SV.agg [i6 (w.j.nl i), i6 (w.j.nh i), i6 (w.j.le i), i6 (w.j.mo i), i6 (w.j.go i)]).den ∧ True ∧ True ∧ True ∧ True ∧ True ∧ True) ∧ (↑w.j.1 : Int) = (↑w.j.1 : Int) ∧ (↑z : Int) + (1 : Int) = (↑z_1 : Int) ∧ w.1 = w.1 ∧ w.2 = w.2 ∧ w.j.1 = w.j.1 ∧ (∀ (i : Nat), i < w.j.1 → (SV.agg [i6 (w.j.nl i), i6 (w.j.nh i), i6 (w.j.le i), i6 (w.j.mo i), i6 (w.j.go i)]).den = (SV.agg [i6 (w.j.nl i), i6 (w.j.nh i), i6 (w.j.le i), i6 (w.j.mo i), i6 (w.j.go i)]).den ∧ True ∧ True ∧ True ∧ True ∧ True ∧ True) ∧ w.m.1 = w.m.1 ∧ (∀ (i : Nat), i < w.m.1 → (SV.agg [i6 (w.m.fr i), i6 (w.m.dr i), i6 (w.m.va i), i6 (w.m.co i)]).den = (SV.agg [i6 (w.m.fr i), i6 (w.m.dr i), i6 (w.m.va i), i6 (w.m.co i)]).den ∧ True ∧ True ∧ True ∧ True ∧ True) ∧ True) ∧ (¬fedS w.m (↑z : Int).toNat = (0 : Int) → (0 : Nat) < (1 : Nat) ∧ (∀ (i : Nat), i < w.j.1 → True ∧ True ∧ True ∧ True ∧ True ∧ True) ∧ (∀ (i : Nat), i < w.m.1 → True ∧ True ∧ True ∧ True ∧ True) ∧ w.sv = w.sv ∧ (okNet w ∧ (0 : Int) ≤ (↑z : Int) ∧ (↑z : Int) < (↑w.j.1 : Int)) ∧ (0 : Nat) < (1 : Nat) ∧ (0 : Nat) < (1 : Nat) ∧ (prLo w (↑z : Int).toNat < w.j.4 (↑z : Int).toNat → (0 : Nat) < (1 : Nat) ∧ (0 : Nat) < (1 : Nat) ∧ (↑z : Int) = ftJ w ∧ (prLo w (↑z : Int).toNat < w.j.4 (↑z : Int).toNat ↔ ftL w) ∧ (true = true ↔ ftI w) ∧ True) ∧ (¬prLo w (↑z : Int).toNat < w.j.4 (↑z : Int).toNat → (0 : Nat) < (1 : Nat) ∧ (0 : Nat) < (1 : Nat) ∧ (w.j.5 (↑z : Int).toNat < prHi w (↑z : Int).toNat → (0 : Nat) < (1 : Nat) ∧ (0 : Nat) < (1 : Nat) ∧ (↑z : Int) = ftJ w ∧ (prLo w (↑z : Int).toNat < w.j.4 (↑z : Int).toNat ↔ ftL w) ∧ (true = true ↔ ftI w) ∧ True) ∧ (¬w.j.5 (↑z : Int).toNat < prHi w (↑z : Int).toNat → ((-9223372036854775808 : Int) ≤ (↑z : Int) + (1 : Int) ∧ (↑z : Int) + (1 : Int) ≤ (9223372036854775807 : Int)) ∧
 ∃ z_1, (z_1 ≤ w.j.1 ∧ ∀ (k : Nat), k < z_1 → ¬badJ w k) ∧ w.j.1 - z_1 < w.j.1 - z ∧ (0 : Nat) = (0 : Nat) ∧ (0 : Nat) = (0 : Nat) ∧ (0 : Int) = (0 : Int) ∧ false = false ∧ false = false ∧ w.j.1 = w.j.1 ∧ (∀ (i : Nat), i < w.j.1 → (SV.agg [i6 (w.j.nl i), i6 (w.j.nh i), i6 (w.j.le i), i6 (w.j.mo i), i6 (w.j.go i)]).den = (SV.agg [i6 (w.j.nl i), i6 (w.j.nh i), i6 (w.j.le i), i6 (w.j.mo i), i6 (w.j.go i)]).den ∧ True ∧ True ∧ True ∧ True ∧ True ∧ True) ∧ (↑w.j.1 : Int) = (↑w.j.1 : Int) ∧ (↑z : Int) + (1 : Int) = (↑z_1 : Int) ∧ w.1 = w.1 ∧ w.2 = w.2 ∧ w.j.1 = w.j.1 ∧ (∀ (i : Nat), i < w.j.1 → (SV.agg [i6 (w.j.nl i), i6 (w.j.nh i), i6 (w.j.le i), i6 (w.j.mo i), i6 (w.j.go i)]).den = (SV.agg [i6 (w.j.nl i), i6 (w.j.nh i), i6 (w.j.le i), i6 (w.j.mo i), i6 (w.j.go i)]).den ∧ True ∧ True ∧ True ∧ True ∧ True ∧ True) ∧ w.m.1 = w.m.1 ∧ (∀ (i : Nat), i < w.m.1 → (SV.agg [i6 (w.m.fr i), i6 (w.m.dr i), i6 (w.m.va i), i6 (w.m.co i)]).den = (SV.agg [i6 (w.m.fr i), i6 (w.m.dr i), i6 (w.m.va i), i6 (w.m.co i)]).den ∧ True ∧ True ∧ True ∧ True ∧ True) ∧ True)))) ∧ (¬(↑z : Int) < (↑w.j.1 : Int) → (0 : Int) = ftJ w ∧ (false = true ↔ ftL w) ∧ (false = true ↔ ftI w) ∧ True)) := by kernel_rfl
theorem FltG_vc (w : Nw) : FltG w = ((0 : Nat) < (1 : Nat) ∧ (∀ (i : Nat), i < w.j.1 → True ∧ True ∧ True ∧ True ∧ True ∧ True) ∧ (∀ (i : Nat), i < w.m.1 → True ∧ True ∧ True ∧ True ∧ True) ∧ w.sv = w.sv ∧ (¬okNet w → (0 : Int) = FtJ w ∧ (false = true ↔ FtL w) ∧ (1 : Int) = FtE w ∧ True) ∧ (¬¬okNet w → (0 : Nat) < (1 : Nat) ∧ (∀ (i : Nat), i < w.j.1 → True ∧ True ∧ True ∧ True ∧ True ∧ True) ∧ (∀ (i : Nat), i < w.m.1 → True ∧ True ∧ True ∧ True ∧ True) ∧ w.sv = w.sv ∧ okNet w ∧ (¬ftI w → (0 : Int) = FtJ w ∧ (false = true ↔ FtL w) ∧ (4 : Int) = FtE w ∧ True) ∧ (¬¬ftI w → ftJ w = FtJ w ∧ (ftL w ↔ FtL w) ∧ (0 : Int) = FtE w ∧ True))) := by kernel_rfl
end Go.Proofs.Ytpannbkmpbioiaa

namespace Go.Proofs.Ytpannbkmpbioiaa
open Go Go.Lg
attribute [local irreducible] bodyH
theorem okNet.okm {w : Nw} (h : okNet w) : okM w.m := fun k hk => (h.ms k hk).fr
theorem okNet.okJ {w : Nw} (h : okNet w) {z : Int} (hz : 0 ≤ z ∧ z < w.j.n) : okJ w.m z := ⟨h.okm, by have := h.n; omega, by have := h.n; omega⟩
theorem okNet.op {w : Nw} (h : okNet w) (j : Nat) : okNet (opW w j) := ⟨h.src, h.n, h.js, fun k hk => ⟨(h.ms k hk).fr, (h.ms k hk).dr, by
  show vaT w.m j _ k = 0 ∨ vaT w.m j _ k = 1 ∨ vaT w.m j _ k = 2
  unfold vaT
  split
  · exact .inl rfl
  · exact (h.ms k hk).va, (h.ms k hk).co⟩⟩
theorem led_le {m : Mn} {b : Bool} : ∀ (F j : Nat), j ≤ m.n → ∀ x, x ∈ ledL m b F j → x ≤ m.n
  | 0, j, hj, x, hx => by
    have : x = j := by simpa [ledL] using hx
    omega
  | F + 1, j, hj, x, hx => by
    simp only [ledL, List.mem_cons, List.mem_flatMap, List.mem_range] at hx
    rcases hx with rfl | ⟨k, hk, hx⟩
    · exact hj
    · split at hx
      · exact led_le F (k + 1) (by omega) x hx
      · cases hx
def lenB : Nat → Nat
  | 0 => 1
  | F + 1 => 1 + 8 * lenB F
theorem flatMap_len {α : Type} {f : Nat → List α} {B : Nat} : ∀ {n : Nat}, (∀ k, k < n → (f k).length ≤ B) → ((List.range n).flatMap f).length ≤ n * B
  | 0, _ => by simp
  | n + 1, h => by
    rw [List.range_succ, List.flatMap_append, List.length_append]
    have h1 := flatMap_len (n := n) fun k hk => h k (by omega)
    have h2 := h n (by omega)
    simp only [List.flatMap_cons, List.flatMap_nil, List.append_nil]
    rw [Nat.add_mul]; omega
theorem led_len {m : Mn} {b : Bool} (hn : m.n ≤ 8) : ∀ (F j : Nat), (ledL m b F j).length ≤ lenB F
  | 0, j => by simp [ledL, lenB]
  | F + 1, j => by
    simp only [ledL, lenB, List.length_cons]
    have := flatMap_len (B := lenB F) (n := m.n) (f := fun k => if m.fr k = j ∧ pas b (m.va k) = true then ledL m b F (k + 1) else []) fun k hk => by
      show (if _ then _ else _ : List Nat).length ≤ _
      split
      · exact led_len hn F (k + 1)
      · simp
    have h2 : m.n * lenB F ≤ 8 * lenB F := Nat.mul_le_mul_right _ hn
    omega
theorem lenB_mono : ∀ {a b : Nat}, a ≤ b → lenB a ≤ lenB b
  | 0, 0, _ => Nat.le_refl _
  | 0, b + 1, _ => by simp [lenB]
  | a + 1, 0, h => by omega
  | a + 1, b + 1, h => by have := lenB_mono (a := a) (b := b) (by omega); simp only [lenB]; omega
theorem lenB9 : lenB 9 = 153391689 := by decide
theorem sumL_le {f : Nat → Int} {B : Int} : ∀ {l : List Nat}, (∀ x, x ∈ l → 0 ≤ f x ∧ f x ≤ B) → 0 ≤ sumL f l ∧ sumL f l ≤ B * l.length
  | [], _ => by simp [sumL]
  | x :: l, h => by
    have h1 := h x (by simp)
    have h2 := sumL_le (f := f) (B := B) (l := l) fun y hy => h y (by simp [hy])
    simp only [sumL, List.length_cons, Int.natCast_add, Int.mul_add]
    have : B * ((1 : Nat) : Int) = B := by simp
    rw [this]; omega
theorem sumL_take {f : Nat → Int} : ∀ {l : List Nat} {i : Nat}, i < l.length → sumL f (l.take (i + 1)) = sumL f (l.take i) + f (l.getD i 0)
  | [], i, h => by simp at h
  | x :: l, 0, h => by simp [sumL]
  | x :: l, i + 1, h => by
    have := sumL_take (f := f) (l := l) (i := i) (by simpa using h)
    simp only [List.take_succ_cons, sumL, List.getD_cons_succ]
    omega
theorem need_le {w : Nw} (h : okNet w) (b : Bool) {i : Nat} (hi : i < w.j.n) : 0 ≤ needE b (w.j.nl i) (w.j.nh i) ∧ needE b (w.j.nl i) (w.j.nh i) ≤ 1000000 := by
  have := (h.js i hi).need
  cases b <;> simp only [needE] <;> omega
theorem led_sum {w : Nw} (h : okNet w) (b : Bool) {j : Nat} (hj : j < w.j.n) (i : Nat) : 0 ≤ sumL (fun i => needE b (w.j.nl i) (w.j.nh i)) ((led w.m b j).take i) ∧ sumL (fun i => needE b (w.j.nl i) (w.j.nh i)) ((led w.m b j).take i) ≤ 153391689000000 := by
  have hn := h.n
  have h1 := sumL_le (f := fun i => needE b (w.j.nl i) (w.j.nh i)) (B := 1000000) (l := (led w.m b j).take i) fun x hx => need_le h b (by
    have := led_le (m := w.m) (b := b) _ j (by omega) x (List.mem_of_mem_take hx)
    omega)
  have h2 : ((led w.m b j).take i).length ≤ 153391689 := by
    have h3 := led_len (m := w.m) (b := b) (by omega) (w.m.n + 1 - j) j
    have h4 := lenB_mono (a := w.m.n + 1 - j) (b := 9) (by omega)
    rw [lenB9] at h4
    rw [List.length_take]
    have h5 : (led w.m b j).length ≤ 153391689 := Nat.le_trans h3 h4
    omega
  omega
theorem flow_le {w : Nw} (h : okNet w) (b : Bool) {j : Nat} (hj : j < w.j.n) : 0 ≤ flowS b w j ∧ flowS b w j ≤ 153391689000000 := by
  have := led_sum h b hj (led w.m b j).length
  rw [List.take_length] at this
  exact this
theorem flw_true {w : Nw} {z : Int} (h : okNet w) (hz : 0 ≤ z ∧ z < w.j.n) (b : Bool) : ∀ j, j < (led w.m b z.toNat).length → ((led w.m b z.toNat).getD j 0 < w.j.n) ∧
    sumL (fun i => needE b (w.j.nl i) (w.j.nh i)) ((led w.m b z.toNat).take (j + 1)) = sumL (fun i => needE b (w.j.nl i) (w.j.nh i)) ((led w.m b z.toNat).take j) + needE b (w.j.nl ((led w.m b z.toNat).getD j 0)) (w.j.nh ((led w.m b z.toNat).getD j 0)) := by
  intro j hj
  have hn := h.n
  refine ⟨?_, sumL_take hj⟩
  have := led_le (m := w.m) (b := b) _ z.toNat (by omega) ((led w.m b z.toNat).getD j 0) (by
    show _ ∈ led w.m b z.toNat
    simp only [List.getD, List.getElem?_eq_getElem hj, Option.getD_some]
    exact List.getElem_mem hj)
  omega
theorem flwT_true {w : Nw} {z : Int} (h : okNet w) (hz : 0 ≤ z ∧ z < w.j.n) : flwTG w z := by
  rw [flwTG_vc]
  have hn := h.n
  have hs := led_sum h true (j := z.toNat) (by omega)
  simp only [and_true, true_and, Nat.zero_lt_one, implies_true]
  refine ⟨rfl, rfl, h.okJ hz, by omega, ⟨0, rfl, rfl, by simp [sumL]⟩, fun j hj z1 hz1 => ?_, fun z1 hz1 => ?_⟩
  · subst hz1
    obtain ⟨h1, h2⟩ := flw_true h hz true z1 hj
    have h3 := need_le h true h1
    simp only [needE] at h3 h2 hs
    have h4 := hs z1
    simp only [needE, Int.toNat_natCast]
    exact ⟨by omega, by omega, by omega, z1 + 1, rfl, h2.symm⟩
  · subst hz1
    rw [List.take_length]; rfl
theorem flwF_true {w : Nw} {z : Int} (h : okNet w) (hz : 0 ≤ z ∧ z < w.j.n) : flwFG w z := by
  rw [flwFG_vc]
  have hn := h.n
  have hs := led_sum h false (j := z.toNat) (by omega)
  simp only [and_true, true_and, Nat.zero_lt_one, implies_true]
  refine ⟨rfl, rfl, h.okJ hz, by omega, ⟨0, rfl, rfl, by simp [sumL]⟩, fun j hj z1 hz1 => ?_, fun z1 hz1 => ?_⟩
  · subst hz1
    obtain ⟨h1, h2⟩ := flw_true h hz false z1 hj
    have h3 := need_le h false h1
    simp only [needE] at h3 h2 hs
    have h4 := hs z1
    simp only [needE, Int.toNat_natCast]
    exact ⟨by omega, by omega, by omega, z1 + 1, rfl, h2.symm⟩
  · subst hz1
    rw [List.take_length]; rfl
theorem prL_fuel {b : Bool} {w : Nw} (h : okNet w) : ∀ (F F' j : Nat), j ≤ F → j ≤ F' → j < w.j.n → prL b w F j = prL b w F' j
  | 0, 0, j, h1, h2, hj => rfl
  | 0, F' + 1, j, h1, h2, hj => by
    have : j = 0 := by omega
    subst this; simp [prL]
  | F + 1, 0, j, h1, h2, hj => by
    have : j = 0 := by omega
    subst this; simp [prL]
  | F + 1, F' + 1, j, h1, h2, hj => by
    simp only [prL]
    by_cases h0 : j = 0
    · simp [h0]
    · have hn := h.n
      have := h.okm (j - 1) (by omega)
      rw [if_neg h0, if_neg h0, prL_fuel h F F' _ (by omega) (by omega) (by omega)]
theorem prS_succ {b : Bool} {w : Nw} (h : okNet w) {j : Nat} (h0 : 0 < j) (hj : j < w.j.n) : prS b w j = govd (w.j.go j) (prS b w (w.m.fr (j - 1)).toNat - w.m.dr (j - 1) * flowS b w j) := by
  have hn := h.n
  have hf := h.okm (j - 1) (by omega)
  obtain ⟨i, rfl⟩ : ∃ i, j = i + 1 := ⟨j - 1, by omega⟩
  show prL b w (i + 1) (i + 1) = _
  simp only [prL]
  rw [if_neg (by omega)]
  unfold prS
  rw [prL_fuel h i _ (w.m.fr (i + 1 - 1)).toNat (by omega) (Nat.le_refl _) (by omega)]
theorem prS_zero (b : Bool) (w : Nw) : prS b w 0 = govd (w.j.go 0) (srcE b w.s0 w.s1) := rfl
theorem gov_le {g p : Int} (hg : g = -1 ∨ 0 ≤ g ∧ g ≤ 1099511627776) : govd g p ≤ p ∧ (p ≤ govd g p ∨ 0 ≤ govd g p) := by
  unfold govd
  split
  · omega
  · rename_i h
    have : 0 ≤ g := by omega
    rcases Int.le_total p g with h1 | h1
    · rw [Int.min_eq_left h1]; omega
    · rw [Int.min_eq_right h1]; omega
theorem drop_le {w : Nw} (h : okNet w) (b : Bool) {j : Nat} (h0 : 0 < j) (hj : j < w.j.n) : 0 ≤ w.m.dr (j - 1) * flowS b w j ∧ w.m.dr (j - 1) * flowS b w j ≤ 153391689000000000 := by
  have hn := h.n
  have hf := flow_le h b hj
  have hd := (h.ms (j - 1) (by omega)).dr
  refine ⟨Int.mul_nonneg hd.1 hf.1, ?_⟩
  have := Int.mul_le_mul hd.2 hf.2 hf.1 (by omega : (0 : Int) ≤ 1000)
  omega
theorem prL_le {b : Bool} {w : Nw} (h : okNet w) : ∀ (F j : Nat), j < w.j.n → -(153391689000000000 * (F : Int)) ≤ prL b w F j ∧ prL b w F j ≤ 1099511627776
  | 0, j, hj => by
    have hs := h.src
    have := gov_le (p := srcE b w.s0 w.s1) (h.js j hj).gov
    simp only [prL]
    cases b <;> simp only [srcE] at this ⊢ <;> omega
  | F + 1, j, hj => by
    have hs := h.src
    have hn := h.n
    have hg := (h.js j hj).gov
    simp only [prL]
    by_cases h0 : j = 0
    · rw [if_pos h0]
      have := gov_le (p := srcE b w.s0 w.s1) hg
      cases b <;> simp only [srcE] at this ⊢ <;> omega
    · rw [if_neg h0]
      have hf := h.okm (j - 1) (by omega)
      have ih := prL_le (b := b) h F (w.m.fr (j - 1)).toNat (by omega)
      have hd := drop_le h b (j := j) (by omega) hj
      have := gov_le (p := prL b w F (w.m.fr (j - 1)).toNat - w.m.dr (j - 1) * flowS b w j) hg
      omega
theorem prS_le {b : Bool} {w : Nw} (h : okNet w) {j : Nat} (hj : j < w.j.n) : -1227133512000000000 ≤ prS b w j ∧ prS b w j ≤ 1099511627776 := by
  have := prL_le (b := b) h j j hj
  have hn := h.n
  unfold prS
  omega
theorem at_nums {w : Nw} {z : Int} (h : okNet w) (b : Bool) (hz : 0 ≤ z ∧ z < w.j.n) (h0 : 0 < z) : 0 ≤ w.m.fr (z - 1).toNat ∧ w.m.fr (z - 1).toNat < z ∧ z - 1 < w.m.n ∧ (0 ≤ w.m.dr (z - 1).toNat * flowS b w z.toNat ∧ w.m.dr (z - 1).toNat * flowS b w z.toNat ≤ 153391689000000000) ∧
    (-1227133512000000000 ≤ prS b w (w.m.fr (z - 1).toNat).toNat ∧ prS b w (w.m.fr (z - 1).toNat).toNat ≤ 1099511627776) ∧ govd (w.j.go z.toNat) (prS b w (w.m.fr (z - 1).toNat).toNat - w.m.dr (z - 1).toNat * flowS b w z.toNat) = prS b w z.toNat := by
  have hn := h.n
  have e : (z - 1).toNat = z.toNat - 1 := by omega
  rw [e]
  have hf := h.okm (z.toNat - 1) (by omega)
  exact ⟨hf.1, by omega, by omega, drop_le h b (by omega) (by omega), prS_le h (by omega), (prS_succ h (by omega) (by omega)).symm⟩
theorem atT_true {M : Nat} {w : Nw} {z : Int} (h : okNet w) (hz : 0 ≤ z ∧ z < w.j.n) (hM : z.toNat < M + 1) : atTG M w z := by
  rw [atTG_vc]
  simp only [and_true, true_and, Nat.zero_lt_one, implies_true]
  have hn := h.n
  refine ⟨fun h0 => ?_, fun h0 => ?_⟩
  · obtain ⟨h1, h2, h3, h4, h5, h6⟩ := at_nums h true hz h0
    exact ⟨by omega, by omega, h3, ⟨h, ⟨h1, by omega⟩, by omega⟩, rfl, ⟨h, hz⟩, by omega, by omega, hz.1, hz.2, h6⟩
  · have : z = 0 := by omega
    subst this
    exact ⟨hz.1, hz.2, rfl⟩
theorem atF_true {M : Nat} {w : Nw} {z : Int} (h : okNet w) (hz : 0 ≤ z ∧ z < w.j.n) (hM : z.toNat < M + 1) : atFG M w z := by
  rw [atFG_vc]
  simp only [and_true, true_and, Nat.zero_lt_one, implies_true]
  have hn := h.n
  refine ⟨fun h0 => ?_, fun h0 => ?_⟩
  · obtain ⟨h1, h2, h3, h4, h5, h6⟩ := at_nums h false hz h0
    exact ⟨by omega, by omega, h3, ⟨h, ⟨h1, by omega⟩, by omega⟩, rfl, ⟨h, hz⟩, by omega, by omega, hz.1, hz.2, h6⟩
  · have : z = 0 := by omega
    subst this
    exact ⟨hz.1, hz.2, rfl⟩
theorem prT_true {w : Nw} {z : Int} (h : okNet w) (hz : 0 ≤ z ∧ z < w.j.n) : prTG w z := by
  rw [prTG_vc]
  have hn := h.n
  simp only [and_true, true_and, Nat.zero_lt_one, implies_true]
  exact ⟨h, hz, by omega⟩
theorem prF_true {w : Nw} {z : Int} (h : okNet w) (hz : 0 ≤ z ∧ z < w.j.n) : prFG w z := by
  rw [prFG_vc]
  have hn := h.n
  simp only [and_true, true_and, Nat.zero_lt_one, implies_true]
  exact ⟨h, hz, by omega⟩
theorem prs_true {w : Nw} {z : Int} (h : okNet w) (hz : 0 ≤ z ∧ z < w.j.n) : prsG w z := by
  rw [prsG_vc]
  simp only [and_true, true_and, Nat.zero_lt_one, implies_true]
  exact ⟨h.okJ hz, rfl, ⟨h.op _, hz⟩, rfl, ⟨h.op _, hz⟩, rfl, rfl⟩
end Go.Proofs.Ytpannbkmpbioiaa
