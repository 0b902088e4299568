import Derived.Test.YtiighndfenlbdaaEmVEn
import Derived.Test.YtiighndfenlbdaaFa3Fa
set_option linter.unusedVariables false
set_option linter.unusedSimpArgs false
set_option maxRecDepth 100000
namespace Go.Proofs.Ytiighndfenlbdaa
open Go Go.Lg
attribute [local irreducible] bodyH
structure okR (T : Tn) (w : Nat → Bool) : Prop where
 t : okT T
 w : fwA T w = T.nl
noncomputable def ruC : Ctr := ⟨15, fun args k => match args with
 | [x, .lst 1 n f] => ∃ (T : Tn) (w : Nat → Bool), (x = tV T ∧ SV.lst 1 n f = twL T.nl w ∧ okR T w) ∧ k (.tup [ruV T w, b6 T.nl, b6 0])
 | _ => False⟩
noncomputable def bdC : Ctr := ⟨17, fun args k => match args with
 | [x, .lst 1 n f] => ∃ (T : Tn) (w : Nat → Bool), (x = tV T ∧ SV.lst 1 n f = twL T.nl w ∧ okR T w) ∧ k (.tup [bdV T (fsA T w (coL T)) (fsA T w (coH T 0)), b6 0])
 | _ => False⟩
noncomputable def ruD : Ctr := ⟨15, fun args k => match args with
 | [x, .lst 1 n f] => ∃ (T : Tn) (w : Nat → Bool), (x = tV T ∧ SV.lst 1 n f = twL n w ∧ chE T n w ≠ 0) ∧ k (.tup [.val (.slice none 0 0), b6 (chH T n w), b6 (chE T n w)])
 | _ => False⟩
noncomputable def bdD : Ctr := ⟨17, fun args k => match args with
 | [x, .lst 1 n f] => ∃ (T : Tn) (w : Nat → Bool), (x = tV T ∧ SV.lst 1 n f = twL n w ∧ chE T n w ≠ 0) ∧ k (.tup [.val (.slice none 0 0), b6 (chE T n w)])
 | _ => False⟩
theorem ruC_ok : ruC.Ok Try.prog := by
 refine ⟨by kernel_rfl, fun args k hk => ?_⟩
 simp only [ruC] at hk
 split at hk
 ·obtain ⟨T, w, ⟨rfl, hw, h⟩, hk⟩ := hk
  rw [hw]
  exact ⟨_, funN_does pgm_cs nil_x nil_ic mixed (ru_true h.t h.w) (by simp [flatS, flatSL, ruV, SV.cells, scS, b6]), hk⟩
 ·exact hk.elim
theorem bdC_ok : bdC.Ok Try.prog := by
 refine ⟨by kernel_rfl, fun args k hk => ?_⟩
 simp only [bdC] at hk
 split at hk
 ·obtain ⟨T, w, ⟨rfl, hw, h⟩, hk⟩ := hk
  rw [hw]
  exact ⟨_, funN_does pgm_cs nil_x nil_ic mixed (bed_true h.t h.w) (by simp [flatS, flatSL, bdV, SV.cells, scS, b6]), hk⟩
 ·exact hk.elim
theorem ruD_ok : ruD.Ok Try.prog := by
 refine ⟨by kernel_rfl, fun args k hk => ?_⟩
 simp only [ruD] at hk
 split at hk
 ·obtain ⟨T, w, ⟨rfl, hw, h⟩, hk⟩ := hk
  rw [hw]
  exact ⟨_, funN_does pgm_cs nil_x nil_ic mixed (ruB_true T _ w h) (by simp [flatS, flatSL, SV.cells, scS, b6]), hk⟩
 ·exact hk.elim
theorem bdD_ok : bdD.Ok Try.prog := by
 refine ⟨by kernel_rfl, fun args k hk => ?_⟩
 simp only [bdD] at hk
 split at hk
 ·obtain ⟨T, w, ⟨rfl, hw, h⟩, hk⟩ := hk
  rw [hw]
  exact ⟨_, funN_does pgm_cs nil_x nil_ic mixed (bedB_true T _ w h) (by simp [flatS, flatSL, SV.cells, scS, b6]), hk⟩
 ·exact hk.elim
noncomputable def grG (T : Tn) (m : Int) : Prop := funH Try.prog (ctrs []) noX (ictrs []) noL noL 13 [tV T, b6 m] (.dec ((m < T.nl ∧ T.nl ≤ 16) ∨ 24 < T.nl ∨ 9 < T.nb) inferInstance)
noncomputable def grC : Ctr := ⟨13, fun args k => match args with
 | [x, .int .i64 m] => ∃ T : Tn, x = tV T ∧ k (.dec ((m < T.nl ∧ T.nl ≤ 16) ∨ 24 < T.nl ∨ 9 < T.nb) inferInstance)
 | _ => False⟩
noncomputable def spnG (a b : Int) : Prop := funH Try.prog (ctrs []) noX (ictrs []) noL noL 31 [b6 a, b6 b] (.agg [b6 a, b6 b])
def spnC : Ctr := ⟨31, fun args k => match args with
 | [.int .i64 a, .int .i64 b] => k (.agg [b6 a, b6 b])
 | _ => False⟩
def alvC : Ctr := ⟨14, fun args k => match args with
 | [] => k (.bool true)
 | _ => False⟩
theorem alv_ok : alvC.Ok Try.prog := by
 refine ⟨by kernel_rfl, fun args k hk => ?_⟩
 simp only [alvC] at hk
 split at hk
 ·exact ⟨.bool true, Does.plain Fa_does trivial, hk⟩
 ·exact hk.elim
noncomputable def badCS : CSpec := ctrs [grC, alvC, ruD, bdD, spnC]
noncomputable def eBG (T : Tn) (n : Nat) (w : Nat → Bool) : Prop := funH Try.prog badCS noX (ictrs []) noL noL 8 [tV T, twL n w] (.bool true)
end Go.Proofs.Ytiighndfenlbdaa

set_option maxRecDepth 100000
namespace Go.Proofs.Ytiighndfenlbdaa
open Go Go.Lg
theorem grG_vc (T : Tn) (m : Int) : grG T m =
((0 : Nat) < (1 : Nat) ∧
 (m < (↑T.10 : Int) →
   (0 : Nat) < (1 : Nat) ∧
    ((↑T.10 : Int) ≤ (16 : Int) →
      (true = true ↔ m < (↑T.nl : Int) ∧ T.nl ≤ (16 : Nat) ∨ (24 : Nat) < T.nl ∨ (9 : Nat) < T.nb) ∧ True) ∧
     (¬(↑T.10 : Int) ≤ (16 : Int) →
      (0 : Nat) < (1 : Nat) ∧
       ((24 : Int) < (↑T.10 : Int) →
         (true = true ↔ m < (↑T.nl : Int) ∧ T.nl ≤ (16 : Nat) ∨ (24 : Nat) < T.nl ∨ (9 : Nat) < T.nb) ∧ True) ∧
        (¬(24 : Int) < (↑T.10 : Int) →
         (0 : Nat) < (1 : Nat) ∧
          ((9 : Int) < (↑T.1 : Int) ↔
            m < (↑T.nl : Int) ∧ T.nl ≤ (16 : Nat) ∨ (24 : Nat) < T.nl ∨ (9 : Nat) < T.nb) ∧
           True))) ∧
  (¬m < (↑T.10 : Int) →
   (0 : Nat) < (1 : Nat) ∧
    ((24 : Int) < (↑T.10 : Int) →
      (true = true ↔ m < (↑T.nl : Int) ∧ T.nl ≤ (16 : Nat) ∨ (24 : Nat) < T.nl ∨ (9 : Nat) < T.nb) ∧ True) ∧
     (¬(24 : Int) < (↑T.10 : Int) →
      (0 : Nat) < (1 : Nat) ∧
       ((9 : Int) < (↑T.1 : Int) ↔
         m < (↑T.nl : Int) ∧ T.nl ≤ (16 : Nat) ∨ (24 : Nat) < T.nl ∨ (9 : Nat) < T.nb) ∧
        True))) := by kernel_rfl
theorem spnG_vc (a : Int) (b : Int) : spnG a b =
((0 : Nat) < (1 : Nat) ∧ a = a ∧ b = b ∧ True) := by kernel_rfl
theorem eBG_vc (T : Tn) (n : Nat) (w : Nat → Bool) : eBG T n w =
((0 : Nat) < (1 : Nat) ∧ (∀ (i : Nat), i < T.1 → True ∧ True ∧ True ∧ True) ∧ (∀ (i : Nat), i < T.10 → True ∧ True ∧ True) ∧ ∃ (T_1 : Tn), SV.agg [SV.lst (3 : Nat) T.nb (bxV T), SV.int IntKind.i64 T.we, SV.int IntKind.i64 T.rv, SV.int IntKind.i64 T.re, SV.int IntKind.i64 T.wo, SV.int IntKind.i64 T.ti, SV.lst (2 : Nat) T.nl (ldV T)] = tV T_1 ∧ ((16 : Int) < (↑T_1.nl : Int) ∧ T_1.nl ≤ (16 : Nat) ∨ (24 : Nat) < T_1.nl ∨ (9 : Nat) < T_1.nb → rE true ∧ True) ∧ (¬((16 : Int) < (↑T_1.nl : Int) ∧ T_1.nl ≤ (16 : Nat) ∨ (24 : Nat) < T_1.nl ∨ (9 : Nat) < T_1.nb) → ((30 : Int) < (↑n : Int) → rE true ∧ True) ∧ (¬(30 : Int) < (↑n : Int) → (0 : Nat) < (1 : Nat) ∧ (∀ (i : Nat), i < T.1 → True ∧ True ∧ True ∧ True) ∧ (∀ (i : Nat), i < T.10 → True ∧ True ∧ True) ∧ (∀ (i : Nat), i < n → True) ∧ ∃ (T_2 : Tn) (w_1 : Nat → Bool), (SV.agg [SV.lst (3 : Nat) T.nb (bxV T), SV.int IntKind.i64 T.we, SV.int
IntKind.i64 T.rv, SV.int IntKind.i64 T.re, SV.int IntKind.i64 T.wo, SV.int IntKind.i64 T.ti, SV.lst (2 : Nat) T.nl (ldV T)] = tV T_2 ∧ (SV.lst (1 : Nat) n fun h => SV.dec (w h = true) inferInstance) = twL n w_1 ∧ (chE T_2 n w_1 = (0 : Int) → False)) ∧ (0 : Nat) < (1 : Nat) ∧ (∀ (i : Nat), i < T.1 → True ∧ True ∧ True ∧ True) ∧ (∀ (i : Nat), i < T.10 → True ∧ True ∧ True) ∧ (∀ (i : Nat), i < n → True) ∧ ∃ (T_3 : Tn) (w_2 : Nat → Bool), (SV.agg [SV.lst (3 : Nat) T.nb (bxV T), SV.int IntKind.i64 T.we, SV.int IntKind.i64 T.rv, SV.int IntKind.i64 T.re, SV.int IntKind.i64 T.wo, SV.int IntKind.i64 T.ti, SV.lst (2 : Nat) T.nl (ldV T)] = tV T_3 ∧ (SV.lst (1 : Nat) n fun h => SV.dec (w h = true) inferInstance) = twL n w_2 ∧ (chE T_3 n w_2 = (0 : Int) → False)) ∧ (¬chE T_2 n w_1 = (0 : Int) → ((↑(0 : Nat) : Int) = (0 : Int) → (chE T_3 n w_2 = chE T_2 n w_1 → rE true ∧ True) ∧ (¬chE T_3 n w_2 = chE
T_2 n w_1 → false = true ∧ True)) ∧ (¬(↑(0 : Nat) : Int) = (0 : Int) → false = true ∧ True)) ∧ (¬¬chE T_2 n w_1 = (0 : Int) → False)))) := by kernel_rfl
end Go.Proofs.Ytiighndfenlbdaa

set_option maxRecDepth 100000
namespace Go.Proofs.Ytiighndfenlbdaa
open Go Go.Lg
attribute [local irreducible] bodyH
theorem gr_true (T : Tn) (m : Int) : grG T m := by
 rw [grG_vc]
 simp only [rI, rE, tt3, tt4, tt5, tt13, tt14, and_true, true_and, implies_true, true_iff]
 refine ⟨by omega, fun h => ⟨by omega, fun h1 => by omega, fun h1 => ⟨by omega, fun h2 => by omega, fun h2 => by omega⟩⟩, fun h => ⟨by omega, fun h2 => by omega, fun h2 => by omega⟩⟩
theorem gr_ok : grC.Ok Try.prog := by
 refine ⟨by kernel_rfl, fun args k hk => ?_⟩
 simp only [grC] at hk
 split at hk
 ·obtain ⟨T, rfl, hk⟩ := hk
  exact ⟨_, Does.plain (funH_does nil_cs nil_x nil_ic mixed (gr_true T _)) trivial, hk⟩
 ·exact hk.elim
theorem spn_true (a b : Int) : spnG a b := by
 rw [spnG_vc]
 exact ⟨by omega, rfl, rfl, trivial⟩
theorem spn_ok : spnC.Ok Try.prog := by
 refine ⟨by kernel_rfl, fun args k hk => ?_⟩
 simp only [spnC] at hk
 split at hk
 ·exact ⟨_, Does.plain (funH_does nil_cs nil_x nil_ic mixed (spn_true _ _)) (by simp [plainS, plainS.plainL, b6]), hk⟩
 ·exact hk.elim
theorem bad_cs : SoundS Try.prog badCS := ctrs_sound (by
 intro x hx
 simp only [List.mem_cons, List.not_mem_nil, or_false] at hx
 rcases hx with rfl | rfl | rfl | rfl | rfl
 ·exact gr_ok
 ·exact alv_ok
 ·exact ruD_ok
 ·exact bdD_ok
 ·exact spn_ok)
theorem eB_true {T : Tn} {n : Nat} {w : Nat → Bool} (h : chE T n w ≠ 0) : eBG T n w := by
 rw [eBG_vc]
 simp only [rI, rE, tt3, tt4, tt5, tt13, tt14, and_true, true_and, implies_true]
 exact ⟨by omega, T, rfl, fun _ _ => ⟨by omega, T, w, ⟨rfl, rfl, fun e => h e⟩, by omega, T, w, ⟨rfl, rfl, fun e => h e⟩, fun _ => ⟨fun _ hn => (hn rfl).elim, fun hn => (hn rfl).elim⟩, fun hn => hn h⟩⟩
end Go.Proofs.Ytiighndfenlbdaa

set_option maxRecDepth 100000
namespace Go.Proofs.Ytiighndfenlbdaa
open Go Go.Lg
attribute [local irreducible] bodyH
def lowT (T : Tn) : Tn := ⟨T.nb, T.rm, T.rt, T.fo, T.we, T.rv, T.re, T.wo, T.ti, T.nl, T.lo, T.lo⟩
def higT (T : Tn) : Tn := ⟨T.nb, T.rm, T.rt, T.fo, T.we, T.rv, T.re, T.wo, T.ti, T.nl, T.hi, T.hi⟩
noncomputable def bdA (T : Tn) (w : Nat → Bool) : SV := bdV T (fsA T w (coL T)) (fsA T w (coH T 0))
noncomputable def goodCS : CSpec := ctrs [grC, alvC, ruC, bdC, spnC]
def slRow : Option SRow → Option Nat
  | some R => (match R.f 0 with
    | .agg l => (match l.getLastD .any with
      | .sl r _ _ => some r
      | _ => none)
    | _ => none)
  | none => none
noncomputable def lms : FS → XS → Ms := fun t X => match sget 265 t 10, sget 265 t 11 with
  | .ptr a _ _, .ptr b _ _ => [some a, some b, slRow (X.row a), slRow (X.row b)]
  | _, _ => []
noncomputable def fms : FS → XS → Ms := fun t X => match sget 265 t 10, sget 265 t 11, sget 265 t 2 with
  | .ptr a _ _, .ptr b _ _, .ptr c _ _ => [some a, some b, some c]
  | _, _, _ => []
def trS (T : Tn) (r i : Nat) : SV := .agg [bxL T, b6 T.we, b6 T.rv, b6 T.re, b6 T.wo, b6 T.ti, .sl r 0 i]
noncomputable def lmX (T : Tn) (i : Nat) : XS := mkX [vr 7 (trS T 2 i), vr 7 (trS T 3 i), rw' 2 i fun k => .agg [b6 (T.lo k), b6 (T.lo k)], rw' 2 i fun k => .agg [b6 (T.hi k), b6 (T.hi k)]]
noncomputable def lmF (T : Tn) (w : Nat → Bool) (i : Nat) : FS := mkF 265 [(1, twL T.nl w), (4, .bool false), (5, ruV T w), (8, bdA T w), (9, b6 0), (10, .ptr 0 0 0), (11, .ptr 1 0 0), (67, .lst 2 T.nl (ldV T)), (68, b6 T.nl), (69, b6 i)]
structure egI (T : Tn) (i : Nat) : Prop where
  a : i ≤ T.nl
structure egJ (T : Tn) (i : Nat) : Prop where
  a : i < T.nl
structure egK (T : Tn) (i : Nat) : Prop where
  a : i ≤ T.nb
noncomputable def egL (T : Tn) (w : Nat → Bool) : Nat → Option HSpec :=
  twoL 1007 (regH 0 fms (mkF 265 [(1, twL T.nl w), (2, .ptr 2 0 0), (4, .bool false), (5, ruV T w), (8, bdA T w), (9, b6 0), (10, .ptr 0 0 0), (11, .ptr 1 0 0)]) (mkX [vr 7 (tV T), vr 7 (tV T), vr 7 (tV T)]) [(0, 0), (1, 0), (4, 1), (5, 1)] [] (some 1)) <|
  twoL 0 { toLSpec := { σ := Nat, inv := egI T, μ := fun i => T.nl - i, nr := 0, ms := lms, t := lmF T w, X := lmX T, rd := fun _ _ k => ∃ z, k z, rdOK := fun _ _ _ h => h } } <|
  twoL 1012 { toLSpec := { σ := Nat, inv := egJ T, μ := fun i => 0, nr := 0, ms := lms, t := lmF T w, X := fun i => lmX T (i + 1), rd := fun _ _ k => ∃ z, k z, rdOK := fun _ _ _ h => h },
              D := [(1, 0), (3, 4), (5, 4), (10, 1), (12, 4), (14, 4), (19, 0), (21, 1)], E := [(8, 2), (17, 3)], par := some ⟨fun t _ k => match sget 265 t 69 with
                | .int _ z => k z.toNat
                | _ => False, fun t X k h => by
                split at h
                · exact ⟨_, h⟩
                · exact h.elim⟩, kinv := fun y z => z = y } <|
  twoL 2 (natH (egI T) (fun i => T.nl - i) 0 (fun i => mkF 265 [(4, .bool false), (8, bdA T w), (14, ruV (lowT T) w), (17, ruV (higT T) w), (20, bdA (lowT T) w), (22, bdA (higT T) w), (166, ruV T w), (167, b6 T.nl), (168, b6 i)]) (fun _ => ⟨0, .nil⟩) fun _ => none) <|
  oneL 4 (natH (egK T) (fun i => T.nb - i) 0 (fun i => mkF 265 [(4, .bool false), (20, bdA (lowT T) w), (22, bdA (higT T) w), (208, bdA T w), (209, b6 T.nb), (210, b6 i)]) (fun _ => ⟨0, .nil⟩) fun _ => none)
noncomputable def eGG (T : Tn) (w : Nat → Bool) : Prop := funH Try.prog goodCS noX (ictrs []) (egL T w) noL 8 [tV T, twL T.nl w] (.bool true)
end Go.Proofs.Ytiighndfenlbdaa
