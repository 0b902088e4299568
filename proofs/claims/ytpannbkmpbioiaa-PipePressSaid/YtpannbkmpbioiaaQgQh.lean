import Derived.Test.YtpannbkmpbioiaaQeQeVQf
set_option linter.unusedVariables false
namespace Go.Proofs.Ytpannbkmpbioiaa
open Go Go.Lg
attribute [local irreducible] bodyH
/-! what an iterator that calls itself yields -/
theorem flatMap_congr' {α β : Type} {l : List α} {f g : α → List β} (h : ∀ a, a ∈ l → f a = g a) : l.flatMap f = l.flatMap g := by
  induction l with
  | nil => rfl
  | cons x l ih => rw [List.flatMap_cons, List.flatMap_cons, h x (by simp), ih fun a ha => h a (by simp [ha])]
def subL (m : Mn) (b : Bool) (j k : Nat) : List Nat := if m.fr k = j ∧ pas b (m.va k) = true then led m b (k + 1) else []
theorem ledL_fuel {m : Mn} {b : Bool} (hm : okM m) : ∀ (F F' j : Nat), m.n + 1 - j ≤ F → m.n + 1 - j ≤ F' → j ≤ m.n → ledL m b F j = ledL m b F' j
  | 0, F', j, h, h', hj => by omega
  | F + 1, 0, j, h, h', hj => by omega
  | F + 1, F' + 1, j, h, h', hj => by
    simp only [ledL]
    congr 1
    refine flatMap_congr' fun k hk => ?_
    have hk : k < m.n := by simpa using hk
    split
    · rename_i hc
      have := hm k hk
      exact ledL_fuel hm F F' (k + 1) (by omega) (by omega) (by omega)
    · rfl
theorem led_eq {m : Mn} {b : Bool} (hm : okM m) {j : Nat} (hj : j ≤ m.n) : led m b j = j :: (List.range m.n).flatMap (subL m b j) := by
  have e : m.n + 1 - j = (m.n - j) + 1 := by omega
  unfold led
  rw [e]
  simp only [ledL]
  congr 1
  refine flatMap_congr' fun k hk => ?_
  have hk : k < m.n := by simpa using hk
  unfold subL
  split
  · rename_i hc
    have := hm k hk
    unfold led
    exact ledL_fuel hm _ _ (k + 1) (by omega) (by omega) (by omega)
  · rfl
def preL (m : Mn) (b : Bool) (j k : Nat) : List Nat := j :: (List.range k).flatMap (subL m b j)
theorem preL_succ (m : Mn) (b : Bool) (j k : Nat) : preL m b j (k + 1) = preL m b j k ++ subL m b j k := by
  simp [preL, List.range_succ, List.flatMap_append]
theorem preL_len (m : Mn) (b : Bool) (j : Nat) : ∀ k, (preL m b j k).length = cnt m b j k
  | 0 => by simp [preL, cnt]
  | k + 1 => by
    rw [preL_succ, List.length_append, preL_len m b j k, cnt]
    unfold subL
    split <;> simp
theorem preL_get {m : Mn} {b : Bool} (hm : okM m) {j : Nat} (hj : j ≤ m.n) {k i : Nat} (hk : k < m.n) (hi : i < (subL m b j k).length) : cnt m b j k + i < (led m b j).length ∧ (led m b j).getD (cnt m b j k + i) 0 = (subL m b j k).getD i 0 := by
  have e : led m b j = preL m b j m.n := led_eq hm hj
  have e2 : ∀ d, preL m b j (k + 1 + d) = preL m b j k ++ subL m b j k ++ ((List.range d).flatMap fun q => subL m b j (k + 1 + q)) := by
    intro d
    induction d with
    | zero => simp [preL_succ]
    | succ d ih =>
      rw [show k + 1 + (d + 1) = (k + 1 + d) + 1 by omega, preL_succ, ih, List.range_succ, List.flatMap_append]
      simp
  have e3 := e2 (m.n - (k + 1))
  rw [show k + 1 + (m.n - (k + 1)) = m.n by omega, ← e] at e3
  have hl := preL_len m b j k
  rw [e3]
  constructor
  · simp only [List.length_append]; omega
  · simp only [List.getD]
    rw [List.append_assoc, List.getElem?_append_right (by omega), hl, show cnt m b j k + i - cnt m b j k = i by omega, List.getElem?_append_left hi]
theorem led_true {m : Mn} {b : Bool} {j M : Nat} (hm : okM m) (hn : m.n ≤ 1000) (hj : j ≤ m.n) (hM : m.n + 1 - j < M + 1) :
    (0 < (led m b j).length ∧ (led m b j).getD 0 0 = j) ∧ cnt m b j m.n = (led m b j).length ∧ ∀ k, k < m.n → (¬ (m.fr k = j ∧ pas b (m.va k) = true) → cnt m b j (k + 1) = cnt m b j k) ∧
      ((m.fr k = j ∧ pas b (m.va k) = true) → cnt m b j (k + 1) = cnt m b j k + (led m b (k + 1)).length ∧ (okJ m ((k : Int) + 1) ∧ m.n + 1 - (k + 1) < M) ∧
        ∀ i, i < (led m b (k + 1)).length → cnt m b j k + i < (led m b j).length ∧ (led m b j).getD (cnt m b j k + i) 0 = (led m b (k + 1)).getD i 0) := by
  refine ⟨by rw [led_eq hm hj]; simp, by rw [← preL_len, led_eq hm hj]; rfl, fun k hk => ⟨fun h => by simp [cnt, h], fun h => ⟨by simp [cnt, h], ⟨⟨hm, hn, by omega, by omega⟩, ?_⟩, fun i hi => ?_⟩⟩⟩
  · have := hm k hk; omega
  · have e : subL m b j k = led m b (k + 1) := by unfold subL; rw [if_pos h]
    have := preL_get hm hj (b := b) hk (i := i) (by rw [e]; exact hi)
    rw [e] at this; exact this
theorem led1T_true {m : Mn} {j M : Nat} (hm : okM m) (hn : m.n ≤ 1000) (hj : j ≤ m.n) (hM : m.n + 1 - j < M + 1) : led1T M m j := by
  rw [led1T_vc]
  obtain ⟨⟨h1, h2⟩, h3, h4⟩ := led_true (b := true) hm hn hj hM
  simp only [and_true, true_and, Nat.zero_lt_one, implies_true, Classical.not_not, Int.toNat_natCast, Nat.add_zero]
  refine ⟨h1, by rw [h2], ⟨0, Nat.zero_le _, rfl, rfl⟩, fun z hz => ⟨fun hlt => ?_, fun hge => ?_⟩⟩
  · have hz : z < m.n := by omega
    obtain ⟨h5, h6⟩ := h4 z hz
    have e1 : ((z : Int) + 1).toNat = z + 1 := by omega
    rw [e1]
    refine ⟨by omega, hlt, fun h7 => ⟨by omega, z + 1, hz, by omega, (h5 fun h => h7 h.1).symm, by omega⟩, fun h7 => ⟨fun h8 => ⟨by omega, z + 1, hz, by omega, (h5 fun h => by simp [pas, h8] at h).symm, by omega⟩, fun h8 => ?_⟩⟩
    have hp : pas true (m.va z) = true := by simp [pas, h8]
    obtain ⟨h9, ⟨h10, h11⟩, h12⟩ := h6 ⟨h7, hp⟩
    refine ⟨by omega, rfl, rfl, h10, h11, ⟨0, ⟨rfl, hz, h7, hp⟩, rfl⟩, fun i hi z1 hz1 => ?_, fun z1 hz1 => ⟨by omega, z + 1, hz, by omega, h9.symm, by omega⟩⟩
    obtain ⟨h13, h14⟩ := h12 i hi
    exact ⟨h13, by rw [h14], i + 1, ⟨rfl, hz, h7, hp⟩, by omega⟩
  · have hz : z ≤ m.n := hz
    have : z = m.n := by omega
    rw [this]; exact h3
theorem led1F_true {m : Mn} {j M : Nat} (hm : okM m) (hn : m.n ≤ 1000) (hj : j ≤ m.n) (hM : m.n + 1 - j < M + 1) : led1F M m j := by
  rw [led1F_vc]
  obtain ⟨⟨h1, h2⟩, h3, h4⟩ := led_true (b := false) hm hn hj hM
  simp only [and_true, true_and, Nat.zero_lt_one, implies_true, Classical.not_not, Int.toNat_natCast, Nat.add_zero]
  refine ⟨h1, by rw [h2], ⟨0, Nat.zero_le _, rfl, rfl⟩, fun z hz => ⟨fun hlt => ?_, fun hge => ?_⟩⟩
  · have hz : z < m.n := by omega
    obtain ⟨h5, h6⟩ := h4 z hz
    have e1 : ((z : Int) + 1).toNat = z + 1 := by omega
    rw [e1]
    refine ⟨by omega, hlt, fun h7 => ⟨by omega, z + 1, hz, by omega, (h5 fun h => h7 h.1).symm, by omega⟩, fun h7 => ⟨fun h8 => ⟨by omega, z + 1, hz, by omega, (h5 fun h => by simp [pas, h8] at h).symm, by omega⟩, fun h8 => ?_⟩⟩
    have hp : pas false (m.va z) = true := by simp [pas, h8]
    obtain ⟨h9, ⟨h10, h11⟩, h12⟩ := h6 ⟨h7, hp⟩
    refine ⟨by omega, rfl, rfl, h10, h11, ⟨0, ⟨rfl, hz, h7, hp⟩, rfl⟩, fun i hi z1 hz1 => ?_, fun z1 hz1 => ⟨by omega, z + 1, hz, by omega, h9.symm, by omega⟩⟩
    obtain ⟨h13, h14⟩ := h12 i hi
    exact ⟨h13, by rw [h14], i + 1, ⟨rfl, hz, h7, hp⟩, by omega⟩
  · have hz : z ≤ m.n := hz
    have : z = m.n := by omega
    rw [this]; exact h3
end Go.Proofs.Ytpannbkmpbioiaa

set_option linter.unusedVariables false
namespace Go.Proofs.Ytpannbkmpbioiaa
open Go Go.Lg
attribute [local irreducible] bodyH
theorem okV {cs : CSpec} {cx : CX} {ic : IC} (hcs : SoundS Try.prog cs) (hcx : SoundXH Try.prog noGhost γ0 cx) (hic : SoundIH Try.prog ic) {sp isp g args res} (h : funH Try.prog cs cx ic sp isp g args res) (hp : plainS res) : Does Try.prog g true (SV.denL args) res.den :=
  Does.plain (funH_does hcs hcx hic mixed h) hp
theorem nil_cs : SoundS Try.prog (ctrs []) := ctrs_sound (by simp)
theorem nil_ic : SoundIH Try.prog (ictrs []) := ictrs_sound (by simp)
theorem nil_x : SoundXH Try.prog noGhost γ0 noX := noX_sound
theorem from_ok {g : FuncId} (hc : callable Try.prog g = true) (h : ∀ n a b, Does Try.prog g true (SV.denL [i6 n, i6 a, i6 b]) (SV.dec (a ≤ n ∧ n ≤ b) inferInstance).den) : (fromC g).Ok Try.prog := by
  refine ⟨hc, fun args k hk => ?_⟩
  simp only [fromC] at hk
  split at hk
  · exact ⟨_, h _ _ _, hk⟩
  · exact hk.elim
theorem from62 : (fromC 62).Ok Try.prog := from_ok (by kernel_rfl) fun n a b => by
  have hh := isFrom_true n a b
  unfold isFromG at hh
  exact okV nil_cs nil_x nil_ic hh trivial
theorem from35 : (fromC 35).Ok Try.prog := from_ok (by kernel_rfl) fun n a b => by
  have hh := in_true n a b
  unfold inG at hh
  exact okV nil_cs nil_x nil_ic hh trivial
theorem cs0_sound : SoundS Try.prog cs0 := ctrs_sound (by
  intro x hx
  simp only [List.mem_cons, List.not_mem_nil, or_false] at hx
  rcases hx with rfl | rfl
  · exact from62
  · exact from35)
theorem span_ok {g : FuncId} (hc : callable Try.prog g = true) (h : ∀ x y b, Does Try.prog g true (SV.denL [.agg [i6 x, i6 y], i6 b]) (SV.dec (0 ≤ x ∧ x ≤ y ∧ y ≤ b) inferInstance).den) : (spanC g).Ok Try.prog := by
  refine ⟨hc, fun args k hk => ?_⟩
  simp only [spanC] at hk
  split at hk
  · exact ⟨_, h _ _ _, hk⟩
  · exact hk.elim
theorem span61 : (spanC 61).Ok Try.prog := span_ok (by kernel_rfl) fun n a b => by
  have hh := vspan_true n a b
  unfold vspanG at hh
  exact okV cs0_sound nil_x nil_ic hh trivial
theorem span48 : (spanC 48).Ok Try.prog := span_ok (by kernel_rfl) fun n a b => by
  have hh := rspan_true n a b
  unfold rspanG at hh
  exact okV cs0_sound nil_x nil_ic hh trivial
theorem cs1_sound : SoundS Try.prog cs1 := ctrs_sound (by
  intro x hx
  simp only [List.mem_cons, List.not_mem_nil, or_false] at hx
  rcases hx with rfl | rfl | rfl | rfl
  · exact from62
  · exact from35
  · exact span61
  · exact span48)
theorem jun_ok : junC.Ok Try.prog := by
  refine ⟨by kernel_rfl, fun args k hk => ?_⟩
  simp only [junC] at hk
  split at hk
  · rename_i a b c d e
    have hh := vjun_true a b c d e
    unfold vjunG at hh
    exact ⟨_, okV cs1_sound nil_x nil_ic hh trivial, hk⟩
  · exact hk.elim
theorem mai_ok : maiC.Ok Try.prog := by
  refine ⟨by kernel_rfl, fun args k hk => ?_⟩
  simp only [maiC] at hk
  split at hk
  · rename_i a b c d e
    have hh := vmai_true a b c d e
    unfold vmaiG at hh
    exact ⟨_, okV cs1_sound nil_x nil_ic hh trivial, hk⟩
  · exact hk.elim
theorem cs2_sound : SoundS Try.prog cs2 := ctrs_sound (by
  intro x hx
  simp only [List.mem_cons, List.not_mem_nil, or_false] at hx
  rcases hx with rfl | rfl | rfl | rfl | rfl | rfl
  · exact from62
  · exact from35
  · exact span61
  · exact span48
  · exact jun_ok
  · exact mai_ok)
theorem netC_ok {g : FuncId} {C : Nw → List SV → (SV → Prop) → Prop} (hc : callable Try.prog g = true) (h : ∀ w r k, C w r k → ∃ res, Does Try.prog g true (SV.denL (w.sv :: r)) res.den ∧ k res) : (netC g C).Ok Try.prog := by
  refine ⟨hc, fun args k hk => ?_⟩
  simp only [netC] at hk
  split at hk
  · rename_i x r
    obtain ⟨hx, hC⟩ := hk
    obtain ⟨res, h1, h2⟩ := h _ r k hC
    rw [← hx] at h1
    exact ⟨res, h1, h2⟩
  · exact hk.elim
theorem netC_okF {g : FuncId} {C : Nw → List SV → (SV → Prop) → Prop} (hc : callable Try.prog g = true) (h : ∀ w r k, C w r k → ∃ res, Does Try.prog g false (SV.denL (w.sv :: r)) res.den ∧ k res) : (netC g C).OkF Try.prog := by
  refine ⟨hc, fun args k hk => ?_⟩
  simp only [netC] at hk
  split at hk
  · rename_i x r
    obtain ⟨hx, hC⟩ := hk
    obtain ⟨res, h1, h2⟩ := h _ r k hC
    rw [← hx] at h1
    exact ⟨res, h1, h2⟩
  · exact hk.elim
theorem maiL_ok {g : FuncId} {C : Mn → List SV → (SV → Prop) → Prop} (hc : callable Try.prog g = true) (h : ∀ w r k, C w r k → ∃ res, Does Try.prog g true (SV.denL (w.sv :: r)) res.den ∧ k res) : (maiL g C).Ok Try.prog := by
  refine ⟨hc, fun args k hk => ?_⟩
  simp only [maiL] at hk
  split at hk
  · rename_i x r
    obtain ⟨hx, hC⟩ := hk
    obtain ⟨res, h1, h2⟩ := h _ r k hC
    rw [← hx] at h1
    exact ⟨res, h1, h2⟩
  · exact hk.elim
theorem maiL_okF {g : FuncId} {C : Mn → List SV → (SV → Prop) → Prop} (hc : callable Try.prog g = true) (h : ∀ w r k, C w r k → ∃ res, Does Try.prog g false (SV.denL (w.sv :: r)) res.den ∧ k res) : (maiL g C).OkF Try.prog := by
  refine ⟨hc, fun args k hk => ?_⟩
  simp only [maiL] at hk
  split at hk
  · rename_i x r
    obtain ⟨hx, hC⟩ := hk
    obtain ⟨res, h1, h2⟩ := h _ r k hC
    rw [← hx] at h1
    exact ⟨res, h1, h2⟩
  · exact hk.elim
theorem vnet40 : (vnetC 40).Ok Try.prog := netC_ok (by kernel_rfl) fun w r k hk => by
  split at hk
  · have hh := vnet_true w
    unfold vnetG at hh
    exact ⟨_, okV cs2_sound nil_x nil_ic hh trivial, hk⟩
  · exact hk.elim
theorem vnet23 : (vnetC 23).Ok Try.prog := netC_ok (by kernel_rfl) fun w r k hk => by
  split at hk
  · have hh := rnet_true w
    unfold rnetG at hh
    exact ⟨_, okV cs2_sound nil_x nil_ic hh trivial, hk⟩
  · exact hk.elim
theorem csV_sound : SoundS Try.prog csV := ctrs_sound (by
  intro x hx
  simp only [List.mem_cons, List.not_mem_nil, or_false] at hx
  rcases hx with rfl | rfl
  · exact vnet40
  · exact vnet23)
theorem chk_ok : chkC.Ok Try.prog := netC_ok (by kernel_rfl) fun w r k hk => by
  split at hk
  · rename_i z
    have hh := chk_true w z
    unfold chkG at hh
    exact ⟨_, okV csV_sound nil_x nil_ic hh trivial, hk⟩
  · exact hk.elim
theorem way_ok : wayC.OkF Try.prog := maiL_okF (by kernel_rfl) fun m r k hk => by
  split at hk
  · rename_i z
    have hh := way_true m z
    unfold wayG at hh
    exact ⟨_, funH_does nil_cs nil_x nil_ic mixed hh, hk⟩
  · exact hk.elim
theorem wayI_ok : wayI.Ok Try.prog := by
  refine ⟨by kernel_rfl, fun fs us k hk => ?_⟩
  simp only [wayI] at hk
  split at hk
  · rename_i z x
    obtain ⟨hx, hj, hk⟩ := hk
    have hz := hj.hz
    have hh := way1_true (m := mOf x) (j := z.toNat) (N := dpt (mOf x) z.toNat z.toNat) ⟨hj.hm, by omega, rfl⟩ hj.hn
    unfold way1G at hh
    have e : ((z.toNat : Nat) : Int) = z := by omega
    rw [e] at hh
    have := itH_ok nil_cs (fun Γ γ _ => noX_sound) nil_ic mixed hh
    rw [← hx] at this
    exact ⟨_, 1, _, this, fun j hj => rfl, hk⟩
  · exact hk.elim
theorem wayI_sound : SoundIH Try.prog (ictrs [wayI]) := ictrs_sound (by
  intro x hx
  simp only [List.mem_cons, List.not_mem_nil, or_false] at hx
  subst hx
  exact wayI_ok)
theorem wayF_sound : SoundS Try.prog (ctrsF [wayC] (ctrs [])) := ctrsF_sound nil_cs (by
  intro x hx
  simp only [List.mem_cons, List.not_mem_nil, or_false] at hx
  subst hx
  exact way_ok)
theorem fed_ok : fedC.Ok Try.prog := maiL_ok (by kernel_rfl) fun m r k hk => by
  split at hk
  · rename_i z
    have hh := fed_true hk.1
    unfold fedG at hh
    exact ⟨_, okV wayF_sound nil_x wayI_sound hh trivial, hk.2⟩
  · exact hk.elim
theorem open_ok : openC.OkF Try.prog := maiL_okF (by kernel_rfl) fun m r k hk => by
  split at hk
  · rename_i z
    have hh := opn_true hk.1
    unfold opnG at hh
    exact ⟨_, funH_does wayF_sound (inl_sound (ys := none) nil_cs noX_sound trivial nil_ic mixed) wayI_sound mixed hh, hk.2⟩
  · exact hk.elim
theorem lo_ok : loC.Ok Try.prog := by
  refine ⟨by kernel_rfl, fun args k hk => ?_⟩
  simp only [loC] at hk
  split at hk
  · rename_i x y
    have hh := lo_true x y
    unfold loG at hh
    exact ⟨_, okV nil_cs nil_x nil_ic hh trivial, hk⟩
  · exact hk.elim
theorem hi_ok : hiC.Ok Try.prog := by
  refine ⟨by kernel_rfl, fun args k hk => ?_⟩
  simp only [hiC] at hk
  split at hk
  · rename_i x y
    have hh := hi_true x y
    unfold hiG at hh
    exact ⟨_, okV nil_cs nil_x nil_ic hh trivial, hk⟩
  · exact hk.elim
theorem pasT_ok : (pasC true 83).Ok Try.prog := by
  refine ⟨by kernel_rfl, fun args k hk => ?_⟩
  simp only [pasC] at hk
  split at hk
  · rename_i v
    have hh := pasT_true v
    unfold pasTG at hh
    exact ⟨_, okV nil_cs nil_x nil_ic hh trivial, hk⟩
  · exact hk.elim
theorem pasF_ok : (pasC false 87).Ok Try.prog := by
  refine ⟨by kernel_rfl, fun args k hk => ?_⟩
  simp only [pasC] at hk
  split at hk
  · rename_i v
    have hh := pasF_true v
    unfold pasFG at hh
    exact ⟨_, okV nil_cs nil_x nil_ic hh trivial, hk⟩
  · exact hk.elim
theorem endT_ok : (endC true 58).Ok Try.prog := by
  refine ⟨by kernel_rfl, fun args k hk => ?_⟩
  simp only [endC] at hk
  split at hk
  · have hh := endT_true
    unfold endTG at hh
    exact ⟨_, okV nil_cs nil_x nil_ic hh (by simp [endV, fnV, plainS, plainS.plainL]), hk⟩
  · exact hk.elim
theorem endF_ok : (endC false 60).Ok Try.prog := by
  refine ⟨by kernel_rfl, fun args k hk => ?_⟩
  simp only [endC] at hk
  split at hk
  · have hh := endF_true
    unfold endFG at hh
    exact ⟨_, okV nil_cs nil_x nil_ic hh (by simp [endV, fnV, plainS, plainS.plainL]), hk⟩
  · exact hk.elim
theorem gov_ok : govC.Ok Try.prog := by
  refine ⟨by kernel_rfl, fun args k hk => ?_⟩
  simp only [govC] at hk
  split at hk
  · rename_i a b c d g p
    have hh := gov_true a b c d g p
    unfold govG at hh
    exact ⟨_, okV nil_cs nil_x nil_ic hh trivial, hk⟩
  · exact hk.elim
theorem led_ok (b : Bool) : (ledC b).OkF Try.prog := by
  refine ⟨by kernel_rfl, fun args k hk => ?_⟩
  simp only [ledC] at hk
  split at hk
  · rename_i e x z
    obtain ⟨rfl, hx, hk⟩ := hk
    refine ⟨_, ?_, hk⟩
    rw [hx]
    cases b with
    | true =>
      have hh := ledT_true (mOf x) z
      unfold ledTG at hh
      exact funH_does nil_cs nil_x nil_ic mixed hh
    | false =>
      have hh := ledF_true (mOf x) z
      unfold ledFG at hh
      exact funH_does nil_cs nil_x nil_ic mixed hh
  · exact hk.elim
theorem pas_sound : SoundS Try.prog (ctrs [pasC true 83, pasC false 87]) := ctrs_sound (by
  intro x hx
  simp only [List.mem_cons, List.not_mem_nil, or_false] at hx
  rcases hx with rfl | rfl
  · exact pasT_ok
  · exact pasF_ok)
theorem ledF_sound (b : Bool) : SoundS Try.prog (ctrsF [ledC b] (ctrs [pasC true 83, pasC false 87])) := ctrsF_sound pas_sound (by
  intro x hx
  simp only [List.mem_cons, List.not_mem_nil, or_false] at hx
  subst hx
  exact led_ok b)
theorem ledI_ok (b : Bool) : ∀ M, (ledI b M).Ok Try.prog
  | 0 => ⟨by kernel_rfl, fun fs us k hk => by
    simp only [ledI] at hk
    split at hk
    · obtain ⟨_, _, _, h, _⟩ := hk
      omega
    · exact hk.elim⟩
  | M + 1 => ⟨by kernel_rfl, fun fs us k hk => by
    have ih := ledI_ok b M
    have hic : SoundIH Try.prog (ictrs [ledI b M]) := ictrs_sound (by
      intro x hx
      simp only [List.mem_cons, List.not_mem_nil, or_false] at hx
      subst hx
      exact ih)
    simp only [ledI] at hk
    split at hk
    · rename_i z x e
      obtain ⟨rfl, hx, hj, hM, hk⟩ := hk
      have hz := hj.hz
      have e : ((z.toNat : Nat) : Int) = z := by omega
      have key : led1 b M (mOf x) z.toNat := by
        cases b with
        | true => exact led1T_true hj.hm hj.hn (by omega) hM
        | false => exact led1F_true hj.hm hj.hn (by omega) hM
      unfold led1 at key
      rw [e] at key
      have := itH_ok (ledF_sound b) (fun Γ γ _ => noX_sound) hic mixed key
      rw [← hx] at this
      exact ⟨_, 1, _, this, fun j hj => rfl, hk⟩
    · exact hk.elim⟩
end Go.Proofs.Ytpannbkmpbioiaa
