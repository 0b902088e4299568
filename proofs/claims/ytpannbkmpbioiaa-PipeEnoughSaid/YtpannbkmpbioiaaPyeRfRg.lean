import Derived.Test.YtpannbkmpbioiaaPziPzjVPzkVPzlPzmPzmV
set_option linter.unusedVariables false
set_option linter.unusedSimpArgs false
set_option maxRecDepth 100000
namespace Go.Lg
abbrev I (n : Nat) : AV := .sc (.int .i64 (.ofNat n))
abbrev J (n : Nat) : AV := .sc (.int .i64 (.negSucc n))
end Go.Lg
namespace Go.Proofs.Ytpannbkmpbioiaa
open Go Go.Lg
attribute [local irreducible] funS bodyH
theorem ite_cl {α : Type} {P : Prop} {c : Bool} (h : c = true ↔ P) (a b : α) (i : Decidable P) : @ite α P i a b = bif c then a else b := by
  cases c with
  | true => rw [if_pos (h.1 rfl)]; rfl
  | false => rw [if_neg fun x => by have := h.2 x; cases this]; rfl
def anyB (n : Nat) (p : Nat → Bool) : Bool := (List.range n).any p
theorem anyB_iff {n : Nat} {p : Nat → Bool} {q : Nat → Prop} (h : ∀ k, p k = true ↔ q k) : anyB n p = true ↔ ∃ k, k < n ∧ q k := by
  unfold anyB
  rw [List.any_eq_true]
  exact ⟨fun ⟨k, a, b⟩ => ⟨k, List.mem_range.1 a, (h k).1 b⟩, fun ⟨k, a, b⟩ => ⟨k, List.mem_range.2 a, (h k).2 b⟩⟩
def feCo (m : Mn) (j : Nat) : Int := bif anyB (dpt m j j) (fun k => decide (m.va (up m j k - 1) = 1)) then 0 else bif anyB (dpt m j j) (fun k => decide (m.va (up m j k - 1) = 2)) then 1 else 2
theorem fedS_c (m : Mn) (j : Nat) : fedS m j = feCo m j := by
  unfold fedS stt feCo
  rw [ite_cl (anyB_iff fun k => decide_eq_true_iff) _ _ _, ite_cl (anyB_iff fun k => decide_eq_true_iff) _ _ _]
def opC (m : Mn) (j : Nat) : Mn := ⟨m.n, m.fr, m.dr, fun k => bif anyB (dpt m j j) (fun q => decide (up m j q - 1 = k)) then 0 else m.va k, m.co⟩
theorem opM_c (m : Mn) (j : Nat) : opM m j = opC m j := by
  unfold opM opC
  congr 1
  funext k
  unfold vaT
  exact ite_cl (anyB_iff fun q => decide_eq_true_iff) _ _ _
def loC' (w : Nw) (j : Nat) : Int := prS true ⟨w.s0, w.s1, w.j, opC w.m j⟩ j
def hiC' (w : Nw) (j : Nat) : Int := prS false ⟨w.s0, w.s1, w.j, opC w.m j⟩ j
theorem lo_c (w : Nw) (j : Nat) : prLo w j = loC' w j := by unfold prLo opW loC'; rw [opM_c]
theorem hi_c (w : Nw) (j : Nat) : prHi w j = hiC' w j := by unfold prHi opW hiC'; rw [opM_c]
def badC (w : Nw) (j : Nat) : Bool := !decide (feCo w.m j = 0) && (decide (loC' w j < w.j.le j) || decide (w.j.mo j < hiC' w j))
theorem bad_c (w : Nw) (j : Nat) : badC w j = true ↔ badJ w j := by
  unfold badC
  rw [Bool.and_eq_true, Bool.or_eq_true, Bool.not_eq_true', decide_eq_false_iff_not, decide_eq_true_iff, decide_eq_true_iff, ← fedS_c, ← lo_c, ← hi_c]
  exact ⟨fun h => ⟨h.1, h.2⟩, fun h => ⟨h.fed, h.out⟩⟩
def fsC (w : Nw) : Nat → Nat
  | 0 => 0
  | i + 1 => bif decide (fsC w i < i) then fsC w i else bif badC w i then i else i + 1
theorem fst_c (w : Nw) : ∀ i, fstB w i = fsC w i
  | 0 => rfl
  | i + 1 => by
    have ih := fst_c w i
    simp only [fstB, fsC, ih]
    rw [ite_cl (bad_c w i) _ _ _]
    exact ite_cl decide_eq_true_iff _ _ _
def ftC (w : Nw) : Bool := decide (fsC w w.j.n < w.j.n)
theorem ft_c (w : Nw) : ftC w = true ↔ ftI w := by
  unfold ftC
  rw [decide_eq_true_iff, ← fst_c]
  exact ⟨fun h => ⟨h⟩, fun h => h.h⟩
def wLC (w : Nw) (b : Nat) : Nw := ⟨w.s0, w.s1, w.j, ⟨w.m.n, w.m.fr, fun k => bif decide (k < 8) && b.testBit k then (w.m.dr k + 1).tdiv 2 else w.m.dr k, w.m.va, w.m.co⟩⟩
theorem wL_c (w : Nw) (b : Nat) : wL w (cut (hs b)) = wLC w b := by
  unfold wL wLC
  congr 2
  funext k
  unfold drP
  refine ite_cl ?_ _ _ _
  rw [Bool.and_eq_true, decide_eq_true_iff, ← hs_tb]
  exact Iff.rfl
def enC (w : Nw) : List Nat := (List.range (2 ^ w.m.n)).filter fun b => !ftC (wLC w b)
open Classical in
theorem en_c (w : Nw) : enL w = enC w := by
  unfold enL fiL enC
  apply List.filter_congr
  intro b _
  have := ft_c (wLC w b)
  unfold eP
  rw [wL_c]
  by_cases h : ftI (wLC w b)
  · simp [h, this.2 h]
  · have hf : ftC (wLC w b) = false := by
      cases hc : ftC (wLC w b) with
      | false => rfl
      | true => exact absurd (this.1 hc) h
    simp [h, hf]
def jS (x : Int) : Jn := ⟨4, fun k => [0, 2, 1, 3].getD k 0, fun k => [0, 5, 4, 3].getD k 0, fun k => [0, 60, x, 0].getD k 0, fun k => [200, 110, 110, 40].getD k 0, fun k => [-1, -1, -1, 30].getD k 0⟩
def mS : Mn := ⟨3, fun k => [0, 1, 0].getD k 0, fun k => [2, 4, 5].getD k 0, fun k => [0, 0, 2].getD k 0, fun k => [10, 7, 3].getD k 0⟩
def wS (x : Int) : Nw := ⟨100, 110, jS x, mS⟩
def n50 : AV := .agg [I 100, I 110, .isl 5 [.agg [I 0, I 0, I 0, I 200, J 0], .agg [I 2, I 5, I 60, I 110, J 0], .agg [I 1, I 4, I 50, I 110, J 0], .agg [I 3, I 3, I 0, I 40, I 30]], .isl 4 [.agg [I 0, I 2, I 0, I 10], .agg [I 1, I 4, I 0, I 7], .agg [I 0, I 5, I 2, I 3]]]
def n80 : AV := .agg [I 100, I 110, .isl 5 [.agg [I 0, I 0, I 0, I 200, J 0], .agg [I 2, I 5, I 60, I 110, J 0], .agg [I 1, I 4, I 80, I 110, J 0], .agg [I 3, I 3, I 0, I 40, I 30]], .isl 4 [.agg [I 0, I 2, I 0, I 10], .agg [I 1, I 4, I 0, I 7], .agg [I 0, I 5, I 2, I 3]]]
theorem w50_den : (wS 50).sv.den = n50 := by kernel_rfl
theorem w80_den : (wS 80).sv.den = n80 := by kernel_rfl
theorem okS {x : Int} (hx : 0 ≤ x ∧ x ≤ 110) : okNet (wS x) := by
  refine ⟨by show 0 ≤ (100 : Int) ∧ (100 : Int) ≤ 110 ∧ (110 : Int) ≤ 1099511627776; omega, by show 1 ≤ 4 ∧ 4 ≤ 9 ∧ 3 + 1 = 4; omega, fun i hi => ?_, fun k hk => ?_⟩
  · have hi : i < 4 := hi
    have : i = 0 ∨ i = 1 ∨ i = 2 ∨ i = 3 := by omega
    rcases this with rfl | rfl | rfl | rfl
    · exact ⟨by simp [wS, jS], by simp [wS, jS], by simp [wS, jS]⟩
    · exact ⟨by simp [wS, jS], by simp [wS, jS], by simp [wS, jS]⟩
    · refine ⟨by simp [wS, jS], ?_, by simp [wS, jS]⟩
      show -1099511627776 ≤ x ∧ x ≤ 110 ∧ (110 : Int) ≤ 1099511627776
      omega
    · exact ⟨by simp [wS, jS], by simp [wS, jS], by simp [wS, jS]⟩
  · have hk : k < 3 := hk
    have : k = 0 ∨ k = 1 ∨ k = 2 := by omega
    rcases this with rfl | rfl | rfl
    · exact ⟨by simp [wS, mS], by simp [wS, mS], by simp [wS, mS], by simp [wS, mS]⟩
    · exact ⟨by simp [wS, mS], by simp [wS, mS], by simp [wS, mS], by simp [wS, mS]⟩
    · exact ⟨by simp [wS, mS], by simp [wS, mS], by simp [wS, mS], by simp [wS, mS]⟩
theorem f50 : fsC (wS 50) 4 = 4 := by kernel_rfl
theorem f80 : fsC (wS 80) 4 = 2 := by kernel_rfl
theorem e80 : enC (wS 80) = [3, 7] := by kernel_rfl
theorem chk_S {x z : Int} (hx : 0 ≤ x ∧ x ≤ 110) (hz : 0 ≤ z ∧ z < 4) : chkN (wS x) z = 0 := by
  rw [chkN, if_pos (okS hx), if_pos (show 0 ≤ z ∧ z < ((wS x).j.n : Int) from hz)]
theorem d12_does : Does Try.prog 12 true [n50, I 3] (.tup [I 1, I 0]) := by
  have hh := Fed_true (wS 50) 3
  unfold FedG at hh
  have := okV csT_sound nil_x nil_ic hh (by simp [plainS, plainS.plainL])
  have c := chk_S (x := 50) (z := 3) (by omega) (by omega)
  have e1 : FedV (wS 50) 3 = 1 := by rw [FedV, if_pos c, fedS_c]; kernel_rfl
  rw [e1, c] at this
  rw [← w50_den]
  exact this
theorem d14_does : Does Try.prog 14 true [n50, I 2] (.tup [.agg [I 66, I 100], I 0]) := by
  have hh := Pre_true (wS 50) 2
  unfold PreG at hh
  have := okV csT_sound nil_x nil_ic hh (by simp [plainS, plainS.plainL])
  have c := chk_S (x := 50) (z := 2) (by omega) (by omega)
  have e0 : PrE (wS 50) 2 = 0 := by
    have : ¬ fedS (wS 50).m (Int.toNat 2) = 0 := by rw [fedS_c]; decide
    rw [PrE, if_pos c, if_neg this]
  have e1 : PrL (wS 50) 2 = 66 := by rw [PrL, if_pos e0, lo_c]; kernel_rfl
  have e2 : PrH (wS 50) 2 = 100 := by rw [PrH, if_pos e0, hi_c]; kernel_rfl
  rw [e0, e1, e2] at this
  rw [← w50_den]
  exact this
theorem ftE50 : FtE (wS 50) = 4 := by
  have : ¬ ftI (wS 50) := fun h => by
    have := (ft_c _).2 h
    unfold ftC at this
    rw [show (wS 50).j.n = 4 from rfl, f50] at this
    simp at this
  rw [FtE, if_pos (okS (by omega)), if_neg this]
theorem ft80 : ftI (wS 80) := ⟨by rw [fst_c, show (wS 80).j.n = 4 from rfl, f80]; omega⟩
theorem ftE80 : FtE (wS 80) = 0 := by rw [FtE, if_pos (okS (by omega)), if_pos ft80]
theorem d16a_does : Does Try.prog 16 true [n50] (.tup [I 0, .sc (.bool false), I 4]) := by
  obtain ⟨res, hd, hk⟩ := Flt_ok.2 [(wS 50).sv] (fun r => r = .tup [i6 (FtJ (wS 50)), .dec (FtL (wS 50)) (Classical.propDecidable _), i6 (FtE (wS 50))]) ⟨rfl, rfl⟩
  subst hk
  have e1 : FtJ (wS 50) = 0 := by rw [FtJ, if_neg (by rw [ftE50]; decide)]
  have e2 : ¬ FtL (wS 50) := fun h => by have := h.e; rw [ftE50] at this; cases this
  simp only [SV.denL, SV.den, w50_den, e1, ftE50, @decide_eq_false _ (Classical.propDecidable _) e2] at hd
  exact hd
theorem d16b_does : Does Try.prog 16 true [n80] (.tup [I 2, .sc (.bool true), I 0]) := by
  obtain ⟨res, hd, hk⟩ := Flt_ok.2 [(wS 80).sv] (fun r => r = .tup [i6 (FtJ (wS 80)), .dec (FtL (wS 80)) (Classical.propDecidable _), i6 (FtE (wS 80))]) ⟨rfl, rfl⟩
  subst hk
  have e0 : fstB (wS 80) (wS 80).j.n = 2 := by rw [fst_c, show (wS 80).j.n = 4 from rfl, f80]
  have e1 : FtJ (wS 80) = 2 := by rw [FtJ, if_pos ftE80, ftJ, if_pos ft80, e0]; rfl
  have e2 : FtL (wS 80) := ⟨ftE80, ft80, by rw [e0, lo_c]; decide⟩
  simp only [SV.denL, SV.den, w80_den, e1, ftE80, @decide_eq_true _ (Classical.propDecidable _) e2] at hd
  exact hd
theorem d40_does : Does Try.prog 40 true [n80] (.sc (.bool true)) := by
  obtain ⟨res, hd, hk⟩ := vnet40.2 [(wS 80).sv] (fun r => r = .dec (okNet (wS 80)) (Classical.propDecidable _)) ⟨rfl, rfl⟩
  subst hk
  simp only [SV.denL, SV.den, w80_den, @decide_eq_true _ (Classical.propDecidable _) (okS (x := 80) (by omega))] at hd
  exact hd
theorem n80L : (enL (wS 80)).length = 2 ∧ (enL (wS 80)).getD 0 0 = 3 ∧ (enL (wS 80)).getD 1 0 = 7 := by rw [en_c, e80]; exact ⟨rfl, rfl, rfl⟩
theorem hs3 (k : Nat) : hs 3 k ↔ k < 2 := by
  rw [hs_tb]
  by_cases h : k < 2
  · have : k = 0 ∨ k = 1 := by omega
    rcases this with rfl | rfl <;> decide
  · have : (3 : Nat) < 2 ^ k := Nat.lt_of_lt_of_le (by decide : 3 < 2 ^ 2) (Nat.pow_le_pow_right (by omega) (by omega))
    rw [Nat.testBit_lt_two_pow this]
    simp [h]
theorem hs7 (k : Nat) : hs 7 k ↔ k < 3 := by
  rw [hs_tb]
  by_cases h : k < 3
  · have : k = 0 ∨ k = 1 ∨ k = 2 := by omega
    rcases this with rfl | rfl | rfl <;> decide
  · have : (7 : Nat) < 2 ^ k := Nat.lt_of_lt_of_le (by decide : 7 < 2 ^ 3) (Nat.pow_le_pow_right (by omega) (by omega))
    rw [Nat.testBit_lt_two_pow this]
    simp [h]
theorem cos_lt {n : Nat} : ∀ {p : Nat → Prop}, (∀ k, k < 3 → (p k ↔ k < n)) → cosN mS p 3 = (if 0 < n then 10 else 0) + (if 1 < n then 7 else 0) + (if 2 < n then 3 else 0) := by
  intro p h
  have h0 := h 0 (by omega)
  have h1 := h 1 (by omega)
  have h2 := h 2 (by omega)
  simp only [cosN, h0, h1, h2, mS]
  by_cases a : 0 < n <;> by_cases b : 1 < n <;> by_cases c : 2 < n <;> simp [a, b, c]
theorem bs80 : bsN (wS 80) 2 = 3 := by
  obtain ⟨_, n1, n2⟩ := n80L
  have c0 : cosL (wS 80) 0 = 17 := by
    unfold cosL
    rw [n1]
    exact cos_lt (n := 2) fun k hk => ⟨fun x => (hs3 k).1 x.2, fun x => ⟨by omega, (hs3 k).2 x⟩⟩
  have c1 : cosL (wS 80) 1 = 20 := by
    unfold cosL
    rw [n2]
    exact cos_lt (n := 3) fun k hk => ⟨fun x => (hs7 k).1 x.2, fun x => ⟨by omega, (hs7 k).2 x⟩⟩
  have l2 : leI (cosL (wS 80)) 2 = 0 := by
    have l1 : leI (cosL (wS 80)) 1 = 0 := by simp [leI]
    rw [leI, l1, c0, c1]
    simp
  rw [bsN, if_neg (by omega), l2, n1]
theorem st_two {p : Nat → Prop} (h : ∀ k, k < 8 → (p k ↔ k < 2)) : (stV p).den = (SV.agg [.bool true, .bool true, .bool false, .bool false, .bool false, .bool false, .bool false, .bool false]).den := by
  have D : ∀ {k : Nat} {b : Bool}, k < 8 → (k < 2 ↔ b = true) → (dP (p k)).den = (SV.bool b).den := fun {k b} hk hb => by
    show AV.sc (.bool _) = AV.sc (.bool b)
    congr 2
    have e := (h k hk).trans hb
    cases b with
    | true => exact @decide_eq_true _ (Classical.propDecidable _) (e.2 rfl)
    | false => exact @decide_eq_false _ (Classical.propDecidable _) fun x => by have := e.1 x; cases this
  show AV.agg [_, _, _, _, _, _, _, _] = AV.agg [_, _, _, _, _, _, _, _]
  rw [D (k := 0) (b := true) (by omega) (by simp), D (k := 1) (b := true) (by omega) (by simp), D (k := 2) (b := false) (by omega) (by simp), D (k := 3) (b := false) (by omega) (by simp), D (k := 4) (b := false) (by omega) (by simp), D (k := 5) (b := false) (by omega) (by simp), D (k := 6) (b := false) (by omega) (by simp), D (k := 7) (b := false) (by omega) (by simp)]
abbrev B1 : AV := .sc (.bool true)
abbrev B0 : AV := .sc (.bool false)
theorem dP_t {p : Prop} (h : p) : (dP p).den = B1 := by
  show AV.sc (.bool _) = AV.sc (.bool true)
  congr 2
  exact @decide_eq_true _ (Classical.propDecidable _) h
def sBB : AV := .agg [B1, B1, B0, B0, B0, B0, B0, B0]
theorem d42_does : Does Try.prog 42 true [n80] (.tup [sBB, B1]) := by
  obtain ⟨res, hd, hk⟩ := che_ok.2 [(wS 80).sv] (fun r => r = .tup [stV (hs (bsN (wS 80) (enL (wS 80)).length)), dP (1 ≤ (enL (wS 80)).length)]) ⟨rfl, okS (by omega), rfl⟩
  subst hk
  obtain ⟨n0, _, _⟩ := n80L
  have R : (SV.tup [stV (hs (bsN (wS 80) (enL (wS 80)).length)), dP (1 ≤ (enL (wS 80)).length)]).den = .tup [sBB, B1] := by
    rw [n0, bs80]
    show AV.tup [(stV (hs 3)).den, (dP (1 ≤ 2)).den] = _
    rw [st_two fun k _ => hs3 k, dP_t (by omega)]
    rfl
  rw [R] at hd
  rw [← w80_den]
  exact hd
theorem d47_does : Does Try.prog 47 true [n80] (.tup [sBB, B1]) := by
  obtain ⟨res, hd, hk⟩ := com_ok.2 [(wS 80).sv] (fun r => r = .tup [stV (cmP (wS 80) (enL (wS 80)).length), dP (1 ≤ (enL (wS 80)).length)]) ⟨rfl, okS (by omega), rfl⟩
  subst hk
  obtain ⟨n0, n1, n2⟩ := n80L
  have E : ∀ k, k < 8 → (cmP (wS 80) 2 k ↔ k < 2) := fun k _ => by
    constructor
    · intro h
      have := h.2 0 (by omega)
      rw [n1] at this
      exact (hs3 k).1 this
    · intro h
      refine ⟨by omega, fun q hq => ?_⟩
      have : q = 0 ∨ q = 1 := by omega
      rcases this with rfl | rfl
      · rw [n1]; exact (hs3 k).2 h
      · rw [n2]; exact (hs7 k).2 (by omega)
  have R : (SV.tup [stV (cmP (wS 80) (enL (wS 80)).length), dP (1 ≤ (enL (wS 80)).length)]).den = .tup [sBB, B1] := by
    rw [n0]
    show AV.tup [(stV _).den, (dP (1 ≤ 2)).den] = _
    rw [st_two E, dP_t (by omega)]
    rfl
  rw [R] at hd
  rw [← w80_den]
  exact hd
theorem cut2 (k : Nat) (hk : k < 8) : cut (cellD [.bool true, .bool true, .bool false, .bool false, .bool false, .bool false, .bool false, .bool false]) k ↔ k < 2 := by
  have : k = 0 ∨ k = 1 ∨ k = 2 ∨ k = 3 ∨ k = 4 ∨ k = 5 ∨ k = 6 ∨ k = 7 := by omega
  unfold cut
  rcases this with rfl | rfl | rfl | rfl | rfl | rfl | rfl | rfl <;> simp [cellD, decP]
theorem fil2 {p : Nat → Prop} (h : ∀ k, k < 8 → (p k ↔ k < 2)) : fiL p 8 = [0, 1] := by
  have e : fiL p 8 = fiL (fun k => k < 2) 8 := fil_congr h
  rw [e, fil_ext (n := 2) (fun k hk x => by omega) 8 (by omega), fil_y (p := fun k => k < 2) (z := 1) (by omega), fil_y (p := fun k => k < 2) (z := 0) (by omega)]
  rfl
theorem d43_does : Does Try.prog 43 false [sBB] (.isl 1 [I 0, I 1]) := by
  obtain ⟨res, hd, hk⟩ := num_ok.2 [SV.agg [.bool true, .bool true, .bool false, .bool false, .bool false, .bool false, .bool false, .bool false]] (fun r => r = lstI (fiL (cut (cellD [.bool true, .bool true, .bool false, .bool false, .bool false, .bool false, .bool false, .bool false])) 8)) ⟨⟨rfl, rfl⟩, rfl⟩
  subst hk
  rw [fil2 cut2] at hd
  exact hd
theorem d44_does : Does Try.prog 44 true [sBB, mS.sv.den] (I 17) := by
  obtain ⟨res, hd, hk⟩ := cos_ok.2 [SV.agg [.bool true, .bool true, .bool false, .bool false, .bool false, .bool false, .bool false, .bool false], mS.sv] (fun r => r = i6 (cosN mS (cut (cellD [.bool true, .bool true, .bool false, .bool false, .bool false, .bool false, .bool false, .bool false])) 3)) ⟨⟨rfl, rfl⟩, rfl, by show (3 : Nat) ≤ 8; omega, ok_m5 (okS (x := 80) (by omega)), rfl⟩
  subst hk
  rw [cos_lt (n := 2) fun k hk => cut2 k (by omega)] at hd
  exact hd
theorem d22_does : Does Try.prog 22 true [.isl 1 [I 0, I 1], .isl 1 [I 0, I 1]] (.sc (.bool true)) := by
  have hh := its_true (n := 2) (n' := 2) (f := fun k => (k : Int)) (f' := fun k => (k : Int)) (by omega)
  unfold itsG at hh
  have hd := okV nil_cs nil_x nil_ic hh trivial
  have e : (li 2 fun k => (k : Int)).den = .isl 1 [I 0, I 1] := rfl
  have R : (SV.dec (2 = 2 ∧ ∀ i, i < 2 → ((i : Nat) : Int) = (i : Int)) (Classical.propDecidable _)).den = .sc (.bool true) := dP_t ⟨rfl, fun _ _ => rfl⟩
  rw [R] at hd
  simp only [SV.denL, e] at hd
  exact hd
end Go.Proofs.Ytpannbkmpbioiaa

namespace Go.Proofs.Ytpannbkmpbioiaa
open Go Go.Lg
attribute [local irreducible] bodyH
def factC (g : FuncId) (a : List AV) (r : SV) : Ctr := ⟨g, fun x k => SV.denL x = a ∧ k r⟩
def lst2 (x : SV) : Int := prI (nth' (cells' (eltV (nth' (cells' x) 2) 2)) 2)
def c12 : Ctr := factC 12 [n50, I 3] (.tup [i6 1, i6 0])
def c14 : Ctr := factC 14 [n50, I 2] (.tup [.agg [i6 66, i6 100], i6 0])
def c16 : Ctr := ⟨16, fun x k => match x with
  | [y] => (match eqI' (lst2 y) 50 with
    | true => SV.denL [y] = [n50] ∧ k (.tup [i6 0, .bool false, i6 4])
    | false => SV.denL [y] = [n80] ∧ k (.tup [i6 2, .bool true, i6 0]))
  | _ => False⟩
def setV : SV := .agg [.bool true, .bool true, .bool false, .bool false, .bool false, .bool false, .bool false, .bool false]
def c40 : Ctr := factC 40 [n80] (.bool true)
def c42 : Ctr := factC 42 [n80] (.tup [setV, .bool true])
def c47 : Ctr := factC 47 [n80] (.tup [setV, .bool true])
def numV : SV := .lst 1 2 fun i => i6 i
def c43 : Ctr := factC 43 [setV.den] numV
def c44 : Ctr := factC 44 [setV.den, .isl 4 [.agg [I 0, I 2, I 0, I 10], .agg [I 1, I 4, I 0, I 7], .agg [I 0, I 5, I 2, I 3]]] (i6 17)
def c22 : Ctr := factC 22 [numV.den, .isl 1 [I 0, I 1]] (.bool true)
def spnC : Ctr := ⟨27, fun x k => match x with
  | [.int .i64 a, .int .i64 b] => k (.agg [i6 a, i6 b])
  | _ => False⟩
noncomputable def spnG (a b : Int) : Prop := funH Try.prog (ctrs []) noX (ictrs []) noL noL 27 [i6 a, i6 b] (.agg [i6 a, i6 b])
noncomputable def csA : CSpec := ctrsF [c43] (ctrs [spnC, c12, c14, c16, c40, c42, c47, c44, c22])
noncomputable def cxA : CX := inl Try.prog csA none (ictrs []) 18 noL noL (inl Try.prog csA none (ictrs []) 20 noL noL (inl Try.prog csA none (ictrs []) 32 noL noL (litX noX)))
noncomputable def awakeG : Prop := funH Try.prog csA cxA (ictrs []) noL noL 11 [] (.bool true)
end Go.Proofs.Ytpannbkmpbioiaa

set_option maxRecDepth 100000
namespace Go.Proofs.Ytpannbkmpbioiaa
open Go Go.Lg
attribute [local irreducible] bodyH
theorem spnG_vc (a b : Int) : spnG a b = ((0 : Nat) < 1 ∧ a = a ∧ b = b ∧ True) := by kernel_rfl
theorem spn_true (a b : Int) : spnG a b := by
  rw [spnG_vc]; simp
theorem awakeG_vc : awakeG = (((∀ i : Nat, (@Eq Bool (true) (true))) ∧ ((∀ i : Nat, (@Eq Bool (true) (true))) ∧ ((∀ i : Nat, (@Eq Bool (true) (true))) ∧ True))) ∧ (((∀ i : Nat, (@Eq Bool (true) (true))) ∧ ((∀ i : Nat, (@Eq Bool (true) (true))) ∧ True)) ∧ ((1 ≤ 1) ∧ ((1 ≤ 1) ∧ ((4 ≤ 4) ∧ ((∀ i : Nat, ((i + 1 ≤ 4) → (((5 : Nat) = 5) ∧ (True ∧ (True ∧ (True ∧ (True ∧ (True ∧ True)))))))) ∧ ((3 ≤ 3) ∧ ((∀ i : Nat, ((i + 1 ≤ 3) → (((4 : Nat) = 4) ∧ (True ∧ (True ∧ (True ∧ (True ∧ True))))))) ∧ ((@Eq (List AV) [n50, I 3] [n50, I 3]) ∧ ((1 ≤ 1) ∧ ((4 ≤ 4) ∧ ((∀ i : Nat, ((i + 1 ≤ 4) → (((5 : Nat) = 5) ∧ (True ∧ (True ∧ (True ∧ (True ∧ (True ∧ True)))))))) ∧ ((3 ≤ 3) ∧ ((∀ i : Nat, ((i + 1 ≤ 3) → (((4 : Nat) = 4) ∧ (True ∧ (True ∧ (True ∧ (True ∧ True))))))) ∧ ((@Eq (List AV) [n50, I 2] [n50, I 2]) ∧ ((1 ≤ 1) ∧ ((4 ≤ 4) ∧ ((∀ i : Nat, ((i + 1 ≤ 4) → (((5 : Nat) = 5) ∧ (True ∧ (True ∧ (True ∧ (True ∧ (True ∧ True)))))))) ∧ ((3 ≤ 3) ∧ ((∀ i : Nat, ((i + 1 ≤ 3) → (((4 : Nat) = 4) ∧ (True ∧ (True ∧ (True ∧ (True ∧ True))))))) ∧ ((@Eq (List AV) [n50] [n50]) ∧ ((1 ≤ 1) ∧ (((0 : Int) ≤ 2) ∧ (((0 : Int) ≤ 1) ∧ ((3 ≤ 5) ∧ ((3 ≤ 4) ∧ ((∀ i' : Nat, (@Eq Bool (true) (true))) ∧ ((1 ≤ 1) ∧ ((4 ≤ 4) ∧ ((∀ i : Nat, ((i + 1 ≤ 4) → (((5 : Nat) = 5) ∧ (True ∧ (True ∧ (True ∧ (True ∧ (True ∧ True)))))))) ∧ ((3 ≤ 3) ∧ ((∀ i : Nat, ((i + 1 ≤ 3) → (((4 : Nat) = 4) ∧ (True ∧ (True ∧ (True ∧ (True ∧ True))))))) ∧ ((@Eq (List AV) [n80] [n80]) ∧ ((1 ≤ 1) ∧ ((1 ≤ 1) ∧ ((4 ≤ 4) ∧ ((∀ i : Nat, ((i + 1 ≤ 4) → (((5 : Nat) = 5) ∧ (True ∧ (True ∧ (True ∧ (True ∧ (True ∧ True)))))))) ∧ ((3 ≤ 3) ∧ ((∀ i : Nat, ((i + 1 ≤ 3) → (((4 : Nat) = 4) ∧ (True ∧ (True ∧ (True ∧ (True ∧ True))))))) ∧ ((@Eq (List AV) [n80] [n80]) ∧ ((1 ≤ 1) ∧ ((4 ≤ 4) ∧ ((∀ i : Nat, ((i + 1 ≤ 4) → (((5 : Nat) = 5) ∧ (True ∧ (True ∧ (True ∧ (True ∧ (True ∧ True)))))))) ∧ ((3 ≤ 3) ∧ ((∀ i : Nat, ((i + 1 ≤ 3) → (((4 : Nat) = 4) ∧ (True ∧ (True ∧ (True ∧ (True ∧ True))))))) ∧ ((@Eq (List AV) [n80] [n80]) ∧ ((1 ≤ 1) ∧ ((@Eq (List AV) [setV.den] [setV.den]) ∧ ((1 ≤ 1) ∧ ((1 ≤ 1) ∧ ((3 ≤ 3) ∧ ((∀ i : Nat, ((i + 1 ≤ 3) → (((4 : Nat) = 4) ∧ (True ∧ (True ∧ (True ∧ (True ∧ True))))))) ∧ ((@Eq (List AV) [setV.den, AV.isl (4 : Nat) [AV.agg [I 0, I 2, I 0, I 10], AV.agg [I 1, I 4, I 0, I 7], AV.agg [I 0, I 5, I 2, I 3]]] [setV.den, AV.isl (4 : Nat) [AV.agg [I 0, I 2, I 0, I 10], AV.agg [I 1, I 4, I 0, I 7], AV.agg [I 0, I 5, I 2, I 3]]]) ∧ ((1 ≤ 1) ∧ ((1 ≤ 1) ∧ ((4 ≤ 4) ∧ ((∀ i : Nat, ((i + 1 ≤ 4) → (((5 : Nat) = 5) ∧ (True ∧ (True ∧ (True ∧ (True ∧ (True ∧ True)))))))) ∧ ((3 ≤ 3) ∧ ((∀ i : Nat, ((i + 1 ≤ 3) → (((4 : Nat) = 4) ∧ (True ∧ (True ∧ (True ∧ (True ∧ True))))))) ∧ ((@Eq (List AV) [n80] [n80]) ∧ ((1 ≤ 1) ∧ ((4 ≤ 4) ∧ ((∀ i : Nat, ((i + 1 ≤ 4) → (((5 : Nat) = 5) ∧ (True ∧ (True ∧ (True ∧ (True ∧ (True ∧ True)))))))) ∧ ((3 ≤ 3) ∧ ((∀ i : Nat, ((i + 1 ≤ 3) → (((4 : Nat) = 4) ∧ (True ∧ (True ∧ (True ∧ (True ∧ True))))))) ∧ ((@Eq (List AV) [n80] [n80]) ∧ ((1 ≤ 1) ∧ ((@Eq (List AV) [setV.den] [setV.den]) ∧ ((((1 : Int) = 1) → ((((0 : Int) = 0) → ((1 ≤ 1) ∧ (((((66 : Int) = 66) ∧ ((100 : Int) = 100)) → ((((0 : Int) = 0) → ((((4 : Int) = 4) → ((((2 : Int) = 2) → ((((0 : Int) = 0) → (((∀ i : Nat, (@Eq Bool (true) (true))) ∧ True) ∧ ((∀ i : Nat, ((i + 1 ≤ 2) → True)) ∧ ((∀ i : Nat, ((i + 1 ≤ 2) → True)) ∧ ((@Eq (List AV) [numV.den, AV.isl (1 : Nat) [I 0, I 1]] [numV.den, AV.isl (1 : Nat) [I 0, I 1]]) ∧ ((((17 : Int) = 17) → ((((0 : Int) = 0) → (((∀ i : Nat, (@Eq Bool (true) (true))) ∧ True) ∧ ((∀ i : Nat, ((i + 1 ≤ 2) → True)) ∧ ((∀ i : Nat, ((i + 1 ≤ 2) → True)) ∧ ((@Eq (List AV) [numV.den, AV.isl (1 : Nat) [I 0, I 1]] [numV.den, AV.isl (1 : Nat) [I 0, I 1]]) ∧ ((((0 : Int) = 0) ↔ (@Eq Bool (true) (true))) ∧ True)))))) ∧ ((¬ ((0 : Int) = 0)) → ((@Eq Bool (false) (true)) ∧ True)))) ∧ ((¬ ((17 : Int) = 17)) → ((@Eq Bool (false) (true)) ∧ True)))))))) ∧ ((¬ ((0 : Int) = 0)) → ((@Eq Bool (false) (true)) ∧ True)))) ∧ ((¬ ((2 : Int) = 2)) → ((@Eq Bool (false) (true)) ∧ True)))) ∧ ((¬ ((4 : Int) = 4)) → ((@Eq Bool (false) (true)) ∧ True)))) ∧ ((¬ ((0 : Int) = 0)) → ((@Eq Bool (false) (true)) ∧ True)))) ∧ ((¬ (((66 : Int) = 66) ∧ ((100 : Int) = 100))) → ((@Eq Bool (false) (true)) ∧ True))))) ∧ ((¬ ((0 : Int) = 0)) → ((@Eq Bool (false) (true)) ∧ True)))) ∧ ((¬ ((1 : Int) = 1)) → ((@Eq Bool (false) (true)) ∧ True))))))))))))))))))))))))))))))))))))))))))))))))))))))))))))))))))))))) := by kernel_rfl
theorem awake_true : awakeG := by
  rw [awakeG_vc]
  simp
theorem factC_ok {g : FuncId} {a : List AV} {r : SV} (hc : callable Try.prog g = true) (hd : Does Try.prog g true a r.den) (hp : plainS r) : (factC g a r).Ok Try.prog := by
  refine ⟨hc, fun x k hk => ?_⟩
  obtain ⟨h1, h2⟩ := hk
  exact ⟨r, by rw [h1]; exact hd, h2⟩
theorem c16_ok : c16.Ok Try.prog := by
  refine ⟨by kernel_rfl, fun x k hk => ?_⟩
  simp only [c16] at hk
  split at hk
  · rename_i y
    split at hk
    · exact ⟨_, by rw [hk.1]; exact (show Does Try.prog 16 true [n50] (SV.tup [i6 0, .bool false, i6 4]).den from d16a_does), hk.2⟩
    · exact ⟨_, by rw [hk.1]; exact (show Does Try.prog 16 true [n80] (SV.tup [i6 2, .bool true, i6 0]).den from d16b_does), hk.2⟩
  · exact hk.elim
theorem spn_ok : spnC.Ok Try.prog := by
  refine ⟨by kernel_rfl, fun x k hk => ?_⟩
  simp only [spnC] at hk
  split at hk
  · rename_i a b
    have hh := spn_true a b
    unfold spnG at hh
    exact ⟨_, okV nil_cs nil_x nil_ic hh (by simp [plainS, plainS.plainL]), hk⟩
  · exact hk.elim
theorem c43_ok : c43.OkF Try.prog := by
  refine ⟨by kernel_rfl, fun x k hk => ?_⟩
  obtain ⟨h1, h2⟩ := hk
  exact ⟨numV, by rw [h1]; exact d43_does, h2⟩
theorem csA_sound : SoundS Try.prog csA := ctrsF_sound (ctrs_sound (by
  intro x hx
  simp only [List.mem_cons, List.not_mem_nil, or_false] at hx
  rcases hx with rfl | rfl | rfl | rfl | rfl | rfl | rfl | rfl | rfl
  · exact spn_ok
  · exact factC_ok (by kernel_rfl) d12_does (by simp [plainS, plainS.plainL])
  · exact factC_ok (by kernel_rfl) d14_does (by simp [plainS, plainS.plainL])
  · exact c16_ok
  · exact factC_ok (by kernel_rfl) d40_does (by simp [plainS])
  · exact factC_ok (by kernel_rfl) d42_does (by simp [plainS, plainS.plainL, setV])
  · exact factC_ok (by kernel_rfl) d47_does (by simp [plainS, plainS.plainL, setV])
  · exact factC_ok (by kernel_rfl) d44_does (by simp [plainS])
  · exact factC_ok (by kernel_rfl) d22_does (by simp [plainS]))) (by
  intro x hx
  simp only [List.mem_cons, List.not_mem_nil, or_false] at hx
  subst hx
  exact c43_ok)
theorem cxA_sound : SoundXH Try.prog noGhost γ0 cxA :=
  inl_sound (ys := none) csA_sound (inl_sound (ys := none) csA_sound (inl_sound csA_sound (ys := none) (litX_sound noX_sound) trivial nil_ic mixed) trivial nil_ic mixed) trivial nil_ic mixed
theorem alive_ok : aliveC.Ok Try.prog := by
  refine ⟨by kernel_rfl, fun x k hk => ?_⟩
  simp only [aliveC] at hk
  split at hk
  · have hh := awake_true
    unfold awakeG at hh
    exact ⟨_, okV csA_sound cxA_sound nil_ic hh (by simp [plainS]), hk⟩
  · exact hk.elim
end Go.Proofs.Ytpannbkmpbioiaa
