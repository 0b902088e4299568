import Derived.Test.YtgidaaogknikoaaGaGaVGbGcGcVGd
set_option linter.unusedVariables false
set_option linter.unusedSimpArgs false
namespace Go.Proofs.Ytgidaaogknikoaa
open Go Go.Lg
attribute [local irreducible] bodyH funS
noncomputable def yl2H : HSpec := { allH with unr := 1 }
noncomputable def veG (d : De) (T : Tl) : Prop := itH Try.prog (ctrs [ouC, suC]) noX (ictrs [])
  (twoL 1003 yl2H <| oneL 0 (natH (fun i => i ≤ T.n) (fun i => T.n - i) 1 (fun i => mkF 27 [(0, .yld 0), (1, .ipt [T.sv]), (2, .ipt d.cells), (6, T.sv), (7, i6 T.n), (8, i6 i)]) (fun _ => ⟨1, .nil⟩) fun i => some i)) noL
  62 [] [.ipt [T.sv], .ipt d.cells] T.n fun j => [.agg [i6 (T.f j).h, i6 (surI (ocL d T (T.f j).h) (ocH d T (T.f j).h))]]
noncomputable def veC : ICtr := ⟨62, fun fs us k => match fs, us with
  | [], [.ipt [.lst 4 n f], .ipt [.int .i64 a, .int .i64 b, .int .i64 c, .int .i64 d]] => SV.lst 4 n f = (tlOf n f).sv ∧ n ≤ 100 ∧ okDe ⟨a, b, c, d⟩ ∧ okTl (tlOf n f) ∧ k n 1 (fun j => [.agg [i6 ((tlOf n f).f j).h, i6 (surI (ocL ⟨a, b, c, d⟩ (tlOf n f) ((tlOf n f).f j).h) (ocH ⟨a, b, c, d⟩ (tlOf n f) ((tlOf n f).f j).h))]])
  | _, _ => False⟩
def cloV (d : De) (T : Tl) : SV := .clo (.func 62) [] [.ipt [T.sv], .ipt d.cells]
noncomputable def vdsG (d : De) (T : Tl) : Prop := funH Try.prog (ctrs []) noX (ictrs []) noL noL 45 [d.sv, T.sv] (cloV d T)
def vdsC : Ctr := ⟨45, fun args k => match args with
  | [.agg [.int .i64 a, .int .i64 b, .int .i64 c, .int .i64 d], .lst 4 n f] => SV.lst 4 n f = (tlOf n f).sv ∧ k (cloV ⟨a, b, c, d⟩ (tlOf n f))
  | _ => False⟩
def nanC (g : FuncId) : Ctr := ⟨g, fun args k => match args with
  | [.int .i64 a] => k (.bool false)
  | _ => False⟩
noncomputable def nan1G (a : Int) : Prop := funH Try.prog (ctrs []) noX (ictrs []) noL noL 71 [i6 a] (.bool false)
noncomputable def nan2G (a : Int) : Prop := funH Try.prog (ctrs []) noX (ictrs []) noL noL 72 [i6 a] (.bool false)
def cmpI (x y : Int) : Int := if x < y then -1 else if y < x then 1 else 0
def cmpC (g : FuncId) : Ctr := ⟨g, fun args k => match args with
  | [.int .i64 a, .int .i64 b] => k (i6 (cmpI a b))
  | _ => False⟩
noncomputable def cmp1G (a b : Int) : Prop := funH Try.prog (ctrs [nanC 71]) noX (ictrs []) noL noL 64 [i6 a, i6 b] (i6 (cmpI a b))
noncomputable def cmp2G (a b : Int) : Prop := funH Try.prog (ctrs [nanC 72]) noX (ictrs []) noL noL 65 [i6 a, i6 b] (i6 (cmpI a b))
def orI (a b : Int) : Int := if a = 0 then b else a
def two (a b : SV) : Nat → SV
  | 0 => a
  | _ => b
def orC : Ctr := ⟨63, fun args k => match args with
  | [.lst 1 n f] => (match f 0, f 1 with
    | .int .i64 a, .int .i64 b => n = 2 ∧ k (i6 (orI a b))
    | _, _ => False)
  | _ => False⟩
noncomputable def orG (a b : Int) : Prop := funH Try.prog (ctrs []) noX (ictrs []) (oneL 0 (unrH 3)) noL 63 [.lst 1 2 (two (i6 a) (i6 b))] (i6 (orI a b))
def ltK (a b : Int × Int) : Prop := a.1 < b.1 ∨ (a.1 = b.1 ∧ a.2 < b.2)
def cmpK (a b : Int × Int) : Int := orI (cmpI a.1 b.1) (cmpI a.2 b.2)
def vcC : Ctr := ⟨46, fun args k => match args with
  | [.agg [.int .i64 a, .int .i64 b], .agg [.int .i64 c, .int .i64 d]] => k (i6 (cmpK (b, a) (d, c)))
  | _ => False⟩
noncomputable def vcG (a b c d : Int) : Prop := funH Try.prog (ctrs [cmpC 64, cmpC 65, orC]) noX (ictrs []) noL noL 46 [.agg [i6 a, i6 b], .agg [i6 c, i6 d]] (i6 (cmpK (b, a) (d, c)))
open Classical in
noncomputable def leastJ (v : Nat → Int × Int) : Nat → Int × Int
  | 0 => (0, 0)
  | j + 1 => if j = 0 ∨ cmpK (v j) (leastJ v j) < 0 then v j else leastJ v j
noncomputable def verK (d : De) (T : Tl) (j : Nat) : Int × Int := (surI (ocL d T (T.f j).h) (ocH d T (T.f j).h), (T.f j).h)
def fnV (g : FuncId) : SV := .val (.func (.func g) #[] #[])
noncomputable def lvG (d : De) (T : Tl) : Prop := funH Try.prog (ctrs [vcC]) noX (ictrs [veC]) noL
  (oneL 0 (itS 3 (fun _ => True) (mkF 21 [(3, .ptr 0 0 0), (4, .ptr 1 0 0), (5, .ptr 2 0 0)]) (fun j => mkX [vr 1 (fnV 46), vr 2 (.agg [i6 (leastJ (verK d T) j).2, i6 (leastJ (verK d T) j).1]), vr 1 (.dec (0 < j) inferInstance)]) fun _ => none))
  44 [cloV d T, fnV 46] (.tup [.agg [i6 (leastJ (verK d T) T.n).2, i6 (leastJ (verK d T) T.n).1], .dec (0 < T.n) inferInstance])
noncomputable def lvC : Ctr := ⟨44, fun args k => match args with
  | [.clo (.func 62) [] [.ipt [.lst 4 n f], .ipt [.int .i64 a, .int .i64 b, .int .i64 c, .int .i64 d]], g] => g = fnV 46 ∧ SV.lst 4 n f = (tlOf n f).sv ∧ n ≤ 100 ∧ okDe ⟨a, b, c, d⟩ ∧ okTl (tlOf n f) ∧ k (.tup [.agg [i6 (leastJ (verK ⟨a, b, c, d⟩ (tlOf n f)) n).2, i6 (leastJ (verK ⟨a, b, c, d⟩ (tlOf n f)) n).1], .dec (0 < n) inferInstance])
  | _ => False⟩
open Classical in
noncomputable def erW (d : De) (T : Tl) : Int := if erA d T = 0 then (if T.n = 0 then 4 else 0) else erA d T
open Classical in
noncomputable def woH (d : De) (T : Tl) : Int := if erW d T = 0 then (leastJ (verK d T) T.n).2 else 0
open Classical in
noncomputable def woK (d : De) (T : Tl) : Int := if erW d T = 0 then (leastJ (verK d T) T.n).1 else 0
noncomputable def woG (d : De) (T : Tl) : Prop := funH Try.prog (ctrsF [vdsC] (ctrs [caC, lvC])) noX (ictrs []) noL noL 18 [d.sv, T.sv] (.tup [i6 (woH d T), i6 (woK d T), i6 (erW d T)])
noncomputable def woC : Ctr := ⟨18, fun args k => match args with
  | [.agg [.int .i64 a, .int .i64 b, .int .i64 c, .int .i64 d], .lst 4 n f] => SV.lst 4 n f = (tlOf n f).sv ∧ n ≤ 1000 ∧ k (.tup [i6 (woH ⟨a, b, c, d⟩ (tlOf n f)), i6 (woK ⟨a, b, c, d⟩ (tlOf n f)), i6 (erW ⟨a, b, c, d⟩ (tlOf n f))])
  | _ => False⟩
def gapP (T : Tl) (st p h : Int) : Prop := ∀ i, i < T.n → (T.f i).s = st → ¬ inW (T.f i) h p
structure isFi (T : Tl) (st p a u : Int) : Prop where
  l : a ≤ u
  g : gapP T st p u
  n : ∀ x, a ≤ x → x < u → ¬ gapP T st p x
structure okMi (st p lo hi : Int) : Prop where
  s0 : 1 ≤ st
  s1 : st ≤ 16
  p0 : 1 ≤ p
  p1 : p ≤ 10000
  h : okHs lo hi
end Go.Proofs.Ytgidaaogknikoaa

set_option maxRecDepth 100000
namespace Go.Proofs.Ytgidaaogknikoaa
open Go Go.Lg
theorem veG_vc (d : De) (T : Tl) : veG d T =
 ((∃ (z : Nat), z ≤ T.1 ∧ (0 : Nat) = z ∧ rE (SV.denL [T.sv]) ∧ ((∀ (i : Nat), i < T.1 → True ∧ True ∧ True ∧ True ∧ True) ∧ True) ∧ rE (SV.denL d.cells) ∧ (tt5) ∧ T.1 = T.1 ∧ (∀ (i : Nat), i < T.1 → rE ((T.f i).sv.den) ∧ True ∧ True ∧ True ∧ True ∧ True) ∧ rE (↑T.1 : Int) ∧ (0 : Int) = (↑z : Int) ∧ True) ∧ ∀ (z : Nat), z ≤ T.1 → ((↑z : Int) < (↑T.1 : Int) → (0 : Int) ≤ (↑z : Int) ∧ (↑z : Int) < (↑T.1 : Int) ∧ (0 : Nat) < (1 : Nat) ∧ (0 : Nat) < (1 : Nat) ∧ (∀ (i : Nat), i < T.1 → True ∧ True ∧ True ∧ True ∧ True) ∧ rE T.sv ∧ T.1 ≤ (100 : Nat) ∧ okDe d ∧ okTl T ∧ ((0 : Int) ≤ (T.f (↑z : Int).toNat).1 ∧ (T.f (↑z : Int).toNat).1 ≤ (1048576 : Int)) ∧ okOc (ocL d T (T.f (↑z : Int).toNat).h) ∧ okOc (ocH d T (T.f (↑z : Int).toNat).h) ∧ z < T.1 ∧ (T.f (↑z : Int).toNat).1 = (T.f z).1 ∧ surI (ocL d T (T.f (↑z : Int).toNat).h) (ocH d T (T.f (↑z : Int).toNat).h) = surI (ocL d T (T.f z).h) (ocH d T
 (T.f z).h) ∧ (rI ((↑z : Int) + (1 : Int)) ∧ ∃ (z_1 : Nat), z_1 ≤ T.1 ∧ T.1 - z_1 < T.1 - z ∧ z.succ = z_1 ∧ rE (SV.denL [T.sv]) ∧ ((∀ (i : Nat), i < T.1 → True ∧ True ∧ True ∧ True ∧ True) ∧ True) ∧ rE (SV.denL d.cells) ∧ (tt5) ∧ T.1 = T.1 ∧ (∀ (i : Nat), i < T.1 → rE ((T.f i).sv.den) ∧ True ∧ True ∧ True ∧ True ∧ True) ∧ rE (↑T.1 : Int) ∧ (↑z : Int) + (1 : Int) = (↑z_1 : Int) ∧ True) ∧ True) ∧ (¬(↑z : Int) < (↑T.1 : Int) → z = T.1)) := by kernel_rfl
theorem vdsG_vc (d : De) (T : Tl) : vdsG d T =
 ((0 : Nat) < (1 : Nat) ∧
  T.1 = T.1 ∧
    (∀ (i : Nat), i < T.1 → (T.f i).sv.den = (T.f i).sv.den ∧ True ∧ True ∧ True ∧ True ∧ True) ∧
      (0 : Nat) < (1 : Nat) ∧ d.1 = d.1 ∧ d.2 = d.2 ∧ d.3 = d.3 ∧ d.4 = d.4 ∧ True) := by kernel_rfl
theorem nan1G_vc (a : Int) : nan1G a =
 ((¬a = a ↔ false = true) ∧ True) := by kernel_rfl
theorem nan2G_vc (a : Int) : nan2G a =
 ((¬a = a ↔ false = true) ∧ True) := by kernel_rfl
theorem cmp1G_vc (a : Int) (b : Int) : cmp1G a b =
 ((a < b → (-1 : Int) = cmpI a b ∧ True) ∧
  (¬a < b → (b < a → (1 : Int) = cmpI a b ∧ True) ∧ (¬b < a → (0 : Int) = cmpI a b ∧ True))) := by kernel_rfl
theorem cmp2G_vc (a : Int) (b : Int) : cmp2G a b =
 ((a < b → (-1 : Int) = cmpI a b ∧ True) ∧
  (¬a < b → (b < a → (1 : Int) = cmpI a b ∧ True) ∧ (¬b < a → (0 : Int) = cmpI a b ∧ True))) := by kernel_rfl
theorem orG_vc (a : Int) (b : Int) : orG a b =
 (((0 : Int) < (↑(2 : Nat) : Int) → (0 : Int) ≤ (0 : Int) ∧ (0 : Int) < (↑(2 : Nat) : Int) ∧ (¬a = (0 : Int) → a = orI a b ∧ True) ∧ (¬¬a = (0 : Int) → rI ((0 : Int) + (1 : Int)) ∧ ((0 : Int) + (1 : Int) < (↑(2 : Nat) : Int) → (0 : Int) ≤ (0 : Int) + (1 : Int) ∧ (0 : Int) + (1 : Int) < (↑(2 : Nat) : Int) ∧ (¬b = (0 : Int) → b = orI a b ∧ True) ∧ (¬¬b = (0 : Int) → rI ((0 : Int) + (1 : Int) + (1 : Int)) ∧ ((0 : Int) + (1 : Int) + (1 : Int) < (↑(2 : Nat) : Int) → (0 : Int) ≤ (0 : Int) + (1 : Int) + (1 : Int) ∧ (0 : Int) + (1 : Int) + (1 : Int) < (↑(2 : Nat) : Int) ∧ (¬b = (0 : Int) → b = orI a b ∧ True) ∧ (¬¬b = (0 : Int) → rI ((0 : Int) + (1 : Int) + (1 : Int) + (1 : Int)) ∧ False)) ∧ (¬(0 : Int) + (1 : Int) + (1 : Int) < (↑(2 : Nat) : Int) → (0 : Int) = orI a b ∧ True))) ∧ (¬(0 : Int) + (1 : Int) < (↑(2 : Nat) : Int) → (0 : Int) = orI a b ∧ True))) ∧ (¬(0 : Int) < (↑(2 : Nat) : Int) → (0
 : Int) = orI a b ∧ True)) := by kernel_rfl
theorem vcG_vc (a : Int) (b : Int) (c : Int) (d : Int) : vcG a b c d =
 ((0 : Nat) < (1 : Nat) ∧
  (0 : Nat) < (1 : Nat) ∧
    (0 : Nat) < (1 : Nat) ∧
      (0 : Nat) < (1 : Nat) ∧
        ((∀ (i : Nat), true = true) ∧ True) ∧
          (∀ (i : Nat), i < (2 : Nat) → True) ∧
            (2 : Nat) = (2 : Nat) ∧
              orI (if (0 : Nat) = (0 : Nat) then cmpI b d else cmpI a c)
                    (if (1 : Nat) = (0 : Nat) then cmpI b d else cmpI a c) =
                  cmpK (b, a) (d, c) ∧
                True) := by kernel_rfl
theorem lvG_vc (d : De) (T : Tl) : lvG d T =
 ((∀ (i : Nat), i < T.1 → True ∧ True ∧ True ∧ True ∧ True) ∧ rE T.sv ∧ T.1 ≤ (100 : Nat) ∧ okDe d ∧ okTl T ∧ (((∀ (i : Nat), i < T.1 → True ∧ True ∧ True ∧ True ∧ True) ∧ True) ∧ (tt5) ∧ ∃ (z : Nat), (z = (0 : Nat) ∧ True) ∧ rE (0 : Nat) ∧ rE (0 : Nat) ∧ rE (0 : Nat) ∧ rE (0 : Nat) ∧ rE (0 : Nat) ∧ rE (0 : Nat) ∧ rE (Fn.func (62 : FuncId)) ∧ rE (SV.denL [T.sv]) ∧ ((∀ (i : Nat), i < T.1 → True ∧ True ∧ True ∧ True ∧ True) ∧ True) ∧ SV.denL d.cells = SV.denL [SV.int IntKind.i64 d.w, SV.int IntKind.i64 d.d, SV.int IntKind.i64 d.sl, SV.int IntKind.i64 d.pay] ∧ (tt5) ∧ rE (Value.func (Fn.func (46 : FuncId)) #[] #[]) ∧ (0 : Int) = (leastJ (verK d T) z).2 ∧ (0 : Int) = (leastJ (verK d T) z).1 ∧ (false = true ↔ (0 : Nat) < z) ∧ True) ∧ (∀ (j : Nat), j < T.1 → ∀ (z : Nat), z = j ∧ True → (0 : Nat) < (1 : Nat) ∧ (¬(0 : Nat) < z → (0 : Nat) < (1 : Nat) ∧ ∃ (z : Nat), (z = j.succ ∧ True) ∧ rE
 (Value.func (Fn.func (46 : FuncId)) #[] #[]) ∧ (T.f j).1 = (leastJ (verK d T) z).2 ∧ surI (ocL d T (T.f j).h) (ocH d T (T.f j).h) = (leastJ (verK d T) z).1 ∧ (rE true ↔ (0 : Nat) < z) ∧ True) ∧ (¬¬(0 : Nat) < z → (0 : Nat) < (1 : Nat) ∧ (0 : Nat) < (1 : Nat) ∧ (0 : Nat) < (1 : Nat) ∧ (cmpK (surI (ocL d T (T.f j).h) (ocH d T (T.f j).h), (T.f j).h) ((leastJ (verK d T) z).fst, (leastJ (verK d T) z).snd) < (0 : Int) → (0 : Nat) < (1 : Nat) ∧ ∃ (z : Nat), (z = j.succ ∧ True) ∧ rE (Value.func (Fn.func (46 : FuncId)) #[] #[]) ∧ (T.f j).1 = (leastJ (verK d T) z).2 ∧ surI (ocL d T (T.f j).h) (ocH d T (T.f j).h) = (leastJ (verK d T) z).1 ∧ (rE true ↔ (0 : Nat) < z) ∧ True) ∧ (¬cmpK (surI (ocL d T (T.f j).h) (ocH d T (T.f j).h), (T.f j).h) ((leastJ (verK d T) z).fst, (leastJ (verK d T) z).snd) < (0 : Int) → ∃ (z_1 : Nat), (z_1 = j.succ ∧ True) ∧ rE (Value.func (Fn.func (46 : FuncId)) #[] #[]) ∧
 (leastJ (verK d T) z).2 = (leastJ (verK d T) z_1).2 ∧ (leastJ (verK d T) z).1 = (leastJ (verK d T) z_1).1 ∧ ((0 : Nat) < z ↔ (0 : Nat) < z_1) ∧ True))) ∧ ∀ (z : Nat), z = T.1 ∧ True → ((0 : Nat) < (1 : Nat) ∧ ((0 : Nat) < (1 : Nat) ∧ (((0 : Nat) < (1 : Nat) ∧ (0 : Nat) < (1 : Nat) ∧ (leastJ (verK d T) z).2 = (leastJ (verK d T) T.n).2 ∧ (leastJ (verK d T) z).1 = (leastJ (verK d T) T.n).1 ∧ ((0 : Nat) < z ↔ (0 : Nat) < T.1) ∧ True) ∧ True) ∧ True) ∧ (((0 : Nat) < (1 : Nat) ∧ ((0 : Nat) < (1 : Nat) ∧ (0 : Nat) < (1 : Nat) ∧ (leastJ (verK d T) z).2 = (leastJ (verK d T) T.n).2 ∧ (leastJ (verK d T) z).1 = (leastJ (verK d T) T.n).1 ∧ ((0 : Nat) < z ↔ (0 : Nat) < T.1) ∧ True) ∧ True) ∧ True) ∧ True) ∧ ((0 : Nat) < (1 : Nat) ∧ ((0 : Nat) < (1 : Nat) ∧ (((0 : Nat) < (1 : Nat) ∧ (0 : Nat) < (1 : Nat) ∧ (leastJ (verK d T) z).2 = (leastJ (verK d T) T.n).2 ∧ (leastJ (verK d T) z).1 = (leastJ (verK d
 T) T.n).1 ∧ ((0 : Nat) < z ↔ (0 : Nat) < T.1) ∧ True) ∧ True) ∧ True) ∧ True) ∧ True) := by kernel_rfl
theorem woG_vc (d : De) (T : Tl) : woG d T =
 ((0 : Nat) < (1 : Nat) ∧ (∀ (i : Nat), i < T.1 → True ∧ True ∧ True ∧ True ∧ True) ∧ rE T.sv ∧ T.1 ≤ (1000 : Nat) ∧ (¬erA d T = (0 : Int) → (0 : Int) = woH d T ∧ (0 : Int) = woK d T ∧ erA d T = erW d T ∧ True) ∧ (¬¬erA d T = (0 : Int) → (0 : Nat) < (1 : Nat) ∧ (∀ (i : Nat), i < T.1 → True ∧ True ∧ True ∧ True ∧ True) ∧ rE T.sv ∧ ((∀ (i : Nat), i < T.1 → True ∧ True ∧ True ∧ True ∧ True) ∧ True) ∧ (tt5) ∧ SV.val (Value.func (Fn.func (46 : Nat)) #[] #[]) = fnV (46 : FuncId) ∧ rE T.sv ∧ T.1 ≤ (100 : Nat) ∧ okDe d ∧ okTl T ∧ (¬(0 : Nat) < T.1 → (0 : Int) = woH d T ∧ (0 : Int) = woK d T ∧ (4 : Int) = erW d T ∧ True) ∧ (¬¬(0 : Nat) < T.1 → (0 : Nat) < (1 : Nat) ∧ (0 : Nat) < (1 : Nat) ∧ (leastJ (verK d T) T.n).2 = woH d T ∧ (leastJ (verK d T) T.n).1 = woK d T ∧ (0 : Int) = erW d T ∧ True))) := by kernel_rfl
end Go.Proofs.Ytgidaaogknikoaa

set_option maxRecDepth 100000
namespace Go.Proofs.Ytgidaaogknikoaa
open Go Go.Lg
attribute [local irreducible] funS bodyH
theorem ve_true {d : De} {T : Tl} (hn : T.n ≤ 100) (hd : okDe d) (ht : okTl T) : veG d T := by
  rw [veG_vc]
  simp only [rI, rE, tt3, tt4, tt5, tt13, tt14, and_true, true_and, Nat.zero_lt_one, implies_true, Int.toNat_natCast]
  refine ⟨⟨0, by omega, rfl, rfl⟩, fun z hz => ⟨fun hl => ?_, fun hl => by omega⟩⟩
  have t := ht z (by omega)
  exact ⟨by omega, hl, hn, hd, ht, ⟨t.h0, t.h1⟩, (ocL_ok hn hd ht).1, (ocL_ok hn hd ht).2, by omega, by omega, z + 1, by omega, by omega, rfl, by omega⟩
theorem ve_cs : SoundS Try.prog (ctrs [ouC, suC]) := ctrs_sound (by intro x hx; simp at hx; rcases hx with rfl | rfl; exact ou_ok; exact su_ok)
theorem ve_ok : veC.Ok Try.prog := by
  refine ⟨by kernel_rfl, fun fs us k hk => ?_⟩
  simp only [veC] at hk
  split at hk
  · rename_i n f a b c d
    obtain ⟨hf, h1, h2, h3, hk⟩ := hk
    have hh := ve_true (d := ⟨a, b, c, d⟩) (T := tlOf n f) h1 h2 h3
    unfold veG at hh
    rw [← hf] at hh
    exact ⟨_, _, _, itH_ok ve_cs (fun _ _ _ => noX_sound) nilS_ic mixed hh, fun j _ => rfl, hk⟩
  · exact hk.elim
theorem vds_true (d : De) (T : Tl) : vdsG d T := by
  rw [vdsG_vc]; simp
theorem vds_ok : vdsC.OkF Try.prog := by
  refine ⟨by kernel_rfl, fun x k hk => ?_⟩
  simp only [vdsC] at hk
  split at hk
  · rename_i a b c d n f
    obtain ⟨hf, hk⟩ := hk
    have hh := vds_true ⟨a, b, c, d⟩ (tlOf n f)
    unfold vdsG at hh
    rw [← hf] at hh
    exact ⟨_, funH_does nilS_cs nilS_x nilS_ic mixed hh, hk⟩
  · exact hk.elim
theorem nan1_ok : (nanC 71).Ok Try.prog := by
  refine ⟨by kernel_rfl, fun x k hk => ?_⟩
  simp only [nanC] at hk
  split at hk
  · rename_i a
    have hh : nan1G a := by rw [nan1G_vc]; simp
    unfold nan1G at hh
    exact ⟨_, Does.plain (funH_does nilS_cs nilS_x nilS_ic mixed hh) trivial, hk⟩
  · exact hk.elim
theorem nan2_ok : (nanC 72).Ok Try.prog := by
  refine ⟨by kernel_rfl, fun x k hk => ?_⟩
  simp only [nanC] at hk
  split at hk
  · rename_i a
    have hh : nan2G a := by rw [nan2G_vc]; simp
    unfold nan2G at hh
    exact ⟨_, Does.plain (funH_does nilS_cs nilS_x nilS_ic mixed hh) trivial, hk⟩
  · exact hk.elim
theorem cmp1_true (a b : Int) : cmp1G a b := by
  rw [cmp1G_vc]
  simp only [cmpI, and_true]
  exact ⟨fun h => by rw [if_pos h], fun h => ⟨fun h2 => by rw [if_neg h, if_pos h2], fun h2 => by rw [if_neg h, if_neg h2]⟩⟩
theorem cmp2_true (a b : Int) : cmp2G a b := by
  rw [cmp2G_vc]
  simp only [cmpI, and_true]
  exact ⟨fun h => by rw [if_pos h], fun h => ⟨fun h2 => by rw [if_neg h, if_pos h2], fun h2 => by rw [if_neg h, if_neg h2]⟩⟩
theorem cmp1_cs : SoundS Try.prog (ctrs [nanC 71]) := ctrs_sound (by intro x hx; simp at hx; subst hx; exact nan1_ok)
theorem cmp2_cs : SoundS Try.prog (ctrs [nanC 72]) := ctrs_sound (by intro x hx; simp at hx; subst hx; exact nan2_ok)
theorem cmp1_ok : (cmpC 64).Ok Try.prog := by
  refine ⟨by kernel_rfl, fun x k hk => ?_⟩
  simp only [cmpC] at hk
  split at hk
  · rename_i a b
    have hh := cmp1_true a b
    unfold cmp1G at hh
    exact ⟨_, Does.plain (funH_does cmp1_cs nilS_x nilS_ic mixed hh) trivial, hk⟩
  · exact hk.elim
theorem cmp2_ok : (cmpC 65).Ok Try.prog := by
  refine ⟨by kernel_rfl, fun x k hk => ?_⟩
  simp only [cmpC] at hk
  split at hk
  · rename_i a b
    have hh := cmp2_true a b
    unfold cmp2G at hh
    exact ⟨_, Does.plain (funH_does cmp2_cs nilS_x nilS_ic mixed hh) trivial, hk⟩
  · exact hk.elim
theorem or_true (a b : Int) : orG a b := by
  rw [orG_vc]
  simp only [rI, and_true, Classical.not_not, orI]
  refine ⟨fun _ => ⟨by omega, by decide, fun h => by rw [if_neg h], fun h => ⟨by omega, fun _ => ⟨by omega, by decide, fun h2 => by rw [if_pos h], fun h2 => ⟨by omega, fun h3 => absurd h3 (by decide), fun _ => by rw [if_pos h]; exact h2.symm⟩⟩, fun h2 => absurd (by decide) h2⟩⟩, fun h2 => absurd (by decide) h2⟩
theorem or_ok : orC.Ok Try.prog := by
  refine ⟨by kernel_rfl, fun x k hk => ?_⟩
  simp only [orC] at hk
  split at hk
  · rename_i n f
    split at hk
    · rename_i a b e1 e2
      obtain ⟨rfl, hk⟩ := hk
      have hh := or_true a b
      unfold orG at hh
      have e : SV.denL [SV.lst 1 2 f] = SV.denL [SV.lst 1 2 (two (i6 a) (i6 b))] := by
        simp [SV.denL, SV.den, List.range_succ, two, e1, e2, i6]
      refine ⟨_, ?_, hk⟩
      rw [e]
      exact Does.plain (funH_does nilS_cs nilS_x nilS_ic mixed hh) trivial
    · exact hk.elim
  · exact hk.elim
theorem vc_true (a b c d : Int) : vcG a b c d := by
  rw [vcG_vc]
  simp [cmpK]
theorem vc_cs : SoundS Try.prog (ctrs [cmpC 64, cmpC 65, orC]) := ctrs_sound (by intro x hx; simp at hx; rcases hx with rfl | rfl | rfl; exact cmp1_ok; exact cmp2_ok; exact or_ok)
theorem vc_ok : vcC.Ok Try.prog := by
  refine ⟨by kernel_rfl, fun x k hk => ?_⟩
  simp only [vcC] at hk
  split at hk
  · rename_i a b c d
    have hh := vc_true a b c d
    unfold vcG at hh
    exact ⟨_, Does.plain (funH_does vc_cs nilS_x nilS_ic mixed hh) trivial, hk⟩
  · exact hk.elim
theorem least_in {v : Nat → Int × Int} {j : Nat} (h : j = 0 ∨ cmpK (v j) (leastJ v j) < 0) : leastJ v (j + 1) = v j := by
  simp only [leastJ]; rw [if_pos h]
theorem least_out {v : Nat → Int × Int} {j : Nat} (h : ¬ j = 0) (h2 : ¬ cmpK (v j) (leastJ v j) < 0) : leastJ v (j + 1) = leastJ v j := by
  simp only [leastJ]; rw [if_neg (by rintro (h3 | h3); exact h h3; exact h2 h3)]
theorem lv_true {d : De} {T : Tl} (hn : T.n ≤ 100) (hd : okDe d) (ht : okTl T) : lvG d T := by
  rw [lvG_vc]
  simp only [rI, rE, tt3, tt4, tt5, tt13, tt14, and_true, true_and, Nat.zero_lt_one, implies_true, and_self, true_iff]
  refine ⟨hn, hd, ht, ⟨0, rfl, rfl, rfl, rfl, by simp⟩, fun j hj z hz => ?_, fun z hz => ?_⟩
  · subst hz
    refine ⟨fun h => ⟨z + 1, rfl, ?_⟩, fun h => ⟨fun h2 => ⟨z + 1, rfl, ?_⟩, fun h2 => ⟨z + 1, rfl, ?_⟩⟩⟩
    · rw [least_in (.inl (by omega))]
      exact ⟨rfl, rfl, by omega⟩
    · rw [least_in (.inr h2)]
      exact ⟨rfl, rfl, by omega⟩
    · rw [least_out (by omega) h2]
      exact ⟨rfl, rfl, by omega⟩
  · subst hz
    exact ⟨rfl, rfl, Iff.rfl⟩
theorem ve_ic : SoundIH Try.prog (ictrs [veC]) := ictrs_sound (by intro x hx; simp at hx; subst hx; exact ve_ok)
theorem vcs_cs : SoundS Try.prog (ctrs [vcC]) := ctrs_sound (by intro x hx; simp at hx; subst hx; exact vc_ok)
theorem lv_ok : lvC.Ok Try.prog := by
  refine ⟨by kernel_rfl, fun x k hk => ?_⟩
  simp only [lvC] at hk
  split at hk
  · rename_i n f a b c d g
    obtain ⟨rfl, hf, h1, h2, h3, hk⟩ := hk
    have hh := lv_true (d := ⟨a, b, c, d⟩) (T := tlOf n f) h1 h2 h3
    unfold lvG cloV at hh
    rw [← hf] at hh
    exact ⟨_, Does.plain (funH_does vcs_cs nilS_x ve_ic mixed hh) (by simp [plainS, plainS.plainL]), hk⟩
  · exact hk.elim
theorem wo_true {d : De} {T : Tl} (hn : T.n ≤ 1000) : woG d T := by
  rw [woG_vc]
  simp only [rI, rE, tt3, tt4, tt5, tt13, tt14, and_true, true_and, Nat.zero_lt_one, implies_true, and_self, Classical.not_not]
  refine ⟨hn, fun h => ?_, fun h => ?_⟩
  · have e : erW d T = erA d T := by rw [erW, if_neg h]
    rw [woH, woK, e, if_neg h, if_neg h]; exact ⟨rfl, rfl, rfl⟩
  · obtain ⟨k1, k2, k3⟩ := erA_ok h
    refine ⟨rfl, by omega, k3, k2, fun h2 => ?_, fun h2 => ?_⟩
    · have e : erW d T = 4 := by rw [erW, if_pos h, if_pos (by omega)]
      rw [woH, woK, e]; exact ⟨rfl, rfl, rfl⟩
    · have e : erW d T = 0 := by rw [erW, if_pos h, if_neg (by omega)]
      rw [woH, woK, e, if_pos rfl, if_pos rfl]; exact ⟨rfl, rfl, rfl⟩
theorem wo_cs : SoundS Try.prog (ctrsF [vdsC] (ctrs [caC, lvC])) := ctrsF_sound (ctrs_sound (by intro x hx; simp at hx; rcases hx with rfl | rfl; exact ca_ok; exact lv_ok)) (by intro x hx; simp at hx; subst hx; exact vds_ok)
theorem wo_ok : woC.Ok Try.prog := by
  refine ⟨by kernel_rfl, fun x k hk => ?_⟩
  simp only [woC] at hk
  split at hk
  · rename_i a b c d n f
    obtain ⟨hf, h1, hk⟩ := hk
    have hh := wo_true (d := ⟨a, b, c, d⟩) (T := tlOf n f) h1
    unfold woG at hh
    rw [← hf] at hh
    exact ⟨_, Does.plain (funH_does wo_cs nilS_x nilS_ic mixed hh) (by simp [plainS, plainS.plainL]), hk⟩
  · exact hk.elim
end Go.Proofs.Ytgidaaogknikoaa
