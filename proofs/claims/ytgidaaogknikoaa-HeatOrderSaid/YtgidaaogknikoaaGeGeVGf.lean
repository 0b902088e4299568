import Derived.Test.YtgidaaogknikoaaGaGaVGbGcGcVGd
set_option linter.unusedVariables false
set_option linter.unusedSimpArgs false
namespace Go.Proofs.Ytgidaaogknikoaa
open Go Go.Lg
attribute [local irreducible] bodyH funS
noncomputable def yl2H : HSpec := { allH with unr := 1 }
noncomputable def veG (d : De) (T : Tl) : Prop := itH Try.prog (ctrs [ouC, suC]) noX (ictrs [])
  (twoL 1003 yl2H <| oneL 0 (natH (fun i => i ≤ T.n) (fun i => T.n - i) 1 (fun i => mkF 27 [(0, .yld 0), (1, .ipt [T.sv]), (2, .ipt d.cells), (6, T.sv), (7, i6 T.n), (8, i6 i)]) (fun _ => ⟨1, .nil⟩) fun i => some i)) noL
  62 [] [.ipt [T.sv], .ipt d.cells] T.n fun j => [.agg [i6 (T.f j).h, i6 (surI (ocL d T (T.f j).h) (ocH d T (T.f j).h))]]
noncomputable def veC : ICtr := ⟨62, fun fs us k => match fs, us with
  | [], [.ipt [.lst 4 n f], .ipt [.int .i64 a, .int .i64 b, .int .i64 c, .int .i64 d]] => SV.lst 4 n f = (tlOf n f).sv ∧ n ≤ 100 ∧ okDe ⟨a, b, c, d⟩ ∧ okTl (tlOf n f) ∧ k n 1 (fun j => [.agg [i6 ((tlOf n f).f j).h, i6 (surI (ocL ⟨a, b, c, d⟩ (tlOf n f) ((tlOf n f).f j).h) (ocH ⟨a, b, c, d⟩ (tlOf n f) ((tlOf n f).f j).h))]])
  | _, _ => False⟩
def cloV (d : De) (T : Tl) : SV := .clo (.func 62) [] [.ipt [T.sv], .ipt d.cells]
noncomputable def vdsG (d : De) (T : Tl) : Prop := funH Try.prog (ctrs []) noX (ictrs []) noL noL 45 [d.sv, T.sv] (cloV d T)
def vdsC : Ctr := ⟨45, fun args k => match args with
  | [.agg [.int .i64 a, .int .i64 b, .int .i64 c, .int .i64 d], .lst 4 n f] => SV.lst 4 n f = (tlOf n f).sv ∧ k (cloV ⟨a, b, c, d⟩ (tlOf n f))
  | _ => False⟩
def nanC (g : FuncId) : Ctr := ⟨g, fun args k => match args with
  | [.int .i64 a] => k (.bool false)
  | _ => False⟩
noncomputable def nan1G (a : Int) : Prop := funH Try.prog (ctrs []) noX (ictrs []) noL noL 71 [i6 a] (.bool false)
noncomputable def nan2G (a : Int) : Prop := funH Try.prog (ctrs []) noX (ictrs []) noL noL 72 [i6 a] (.bool false)
def cmpI (x y : Int) : Int := if x < y then -1 else if y < x then 1 else 0
def cmpC (g : FuncId) : Ctr := ⟨g, fun args k => match args with
  | [.int .i64 a, .int .i64 b] => k (i6 (cmpI a b))
  | _ => False⟩
noncomputable def cmp1G (a b : Int) : Prop := funH Try.prog (ctrs [nanC 71]) noX (ictrs []) noL noL 64 [i6 a, i6 b] (i6 (cmpI a b))
noncomputable def cmp2G (a b : Int) : Prop := funH Try.prog (ctrs [nanC 72]) noX (ictrs []) noL noL 65 [i6 a, i6 b] (i6 (cmpI a b))
def orI (a b : Int) : Int := if a = 0 then b else a
def two (a b : SV) : Nat → SV
  | 0 => a
  | _ => b
def orC : Ctr := ⟨63, fun args k => match args with
  | [.lst 1 n f] => (match f 0, f 1 with
    | .int .i64 a, .int .i64 b => n = 2 ∧ k (i6 (orI a b))
    | _, _ => False)
  | _ => False⟩
noncomputable def orG (a b : Int) : Prop := funH Try.prog (ctrs []) noX (ictrs []) (oneL 0 (unrH 3)) noL 63 [.lst 1 2 (two (i6 a) (i6 b))] (i6 (orI a b))
def ltK (a b : Int × Int) : Prop := a.1 < b.1 ∨ (a.1 = b.1 ∧ a.2 < b.2)
def cmpK (a b : Int × Int) : Int := orI (cmpI a.1 b.1) (cmpI a.2 b.2)
def vcC : Ctr := ⟨46, fun args k => match args with
  | [.agg [.int .i64 a, .int .i64 b], .agg [.int .i64 c, .int .i64 d]] => k (i6 (cmpK (b, a) (d, c)))
  | _ => False⟩
noncomputable def vcG (a b c d : Int) : Prop := funH Try.prog (ctrs [cmpC 64, cmpC 65, orC]) noX (ictrs []) noL noL 46 [.agg [i6 a, i6 b], .agg [i6 c, i6 d]] (i6 (cmpK (b, a) (d, c)))
def gcC : Ctr := ⟨51, fun args k => match args with
  | [.agg [.int .i64 a, .int .i64 b], .agg [.int .i64 c, .int .i64 d]] => k (i6 (cmpK (a, b) (c, d)))
  | _ => False⟩
noncomputable def gcG (a b c d : Int) : Prop := funH Try.prog (ctrs [cmpC 65, orC]) noX (ictrs []) noL noL 51 [.agg [i6 a, i6 b], .agg [i6 c, i6 d]] (i6 (cmpK (a, b) (c, d)))
open Classical in
noncomputable def leastJ (v : Nat → Int × Int) : Nat → Int × Int
  | 0 => (0, 0)
  | j + 1 => if j = 0 ∨ cmpK (v j) (leastJ v j) < 0 then v j else leastJ v j
noncomputable def verK (d : De) (T : Tl) (j : Nat) : Int × Int := (surI (ocL d T (T.f j).h) (ocH d T (T.f j).h), (T.f j).h)
def fnV (g : FuncId) : SV := .val (.func (.func g) #[] #[])
noncomputable def lvG (d : De) (T : Tl) : Prop := funH Try.prog (ctrs [vcC]) noX (ictrs [veC]) noL
  (oneL 0 (itS 3 (fun _ => True) (mkF 21 [(3, .ptr 0 0 0), (4, .ptr 1 0 0), (5, .ptr 2 0 0)]) (fun j => mkX [vr 1 (fnV 46), vr 2 (.agg [i6 (leastJ (verK d T) j).2, i6 (leastJ (verK d T) j).1]), vr 1 (.dec (0 < j) inferInstance)]) fun _ => none))
  44 [cloV d T, fnV 46] (.tup [.agg [i6 (leastJ (verK d T) T.n).2, i6 (leastJ (verK d T) T.n).1], .dec (0 < T.n) inferInstance])
noncomputable def lvC : Ctr := ⟨44, fun args k => match args with
  | [.clo (.func 62) [] [.ipt [.lst 4 n f], .ipt [.int .i64 a, .int .i64 b, .int .i64 c, .int .i64 d]], g] => g = fnV 46 ∧ SV.lst 4 n f = (tlOf n f).sv ∧ n ≤ 100 ∧ okDe ⟨a, b, c, d⟩ ∧ okTl (tlOf n f) ∧ k (.tup [.agg [i6 (leastJ (verK ⟨a, b, c, d⟩ (tlOf n f)) n).2, i6 (leastJ (verK ⟨a, b, c, d⟩ (tlOf n f)) n).1], .dec (0 < n) inferInstance])
  | _ => False⟩
open Classical in
noncomputable def erW (d : De) (T : Tl) : Int := if erA d T = 0 then (if T.n = 0 then 4 else 0) else erA d T
open Classical in
noncomputable def woH (d : De) (T : Tl) : Int := if erW d T = 0 then (leastJ (verK d T) T.n).2 else 0
open Classical in
noncomputable def woK (d : De) (T : Tl) : Int := if erW d T = 0 then (leastJ (verK d T) T.n).1 else 0
noncomputable def woG (d : De) (T : Tl) : Prop := funH Try.prog (ctrsF [vdsC] (ctrs [caC, lvC])) noX (ictrs []) noL noL 18 [d.sv, T.sv] (.tup [i6 (woH d T), i6 (woK d T), i6 (erW d T)])
noncomputable def woC : Ctr := ⟨18, fun args k => match args with
  | [.agg [.int .i64 a, .int .i64 b, .int .i64 c, .int .i64 d], .lst 4 n f] => SV.lst 4 n f = (tlOf n f).sv ∧ n ≤ 1000 ∧ k (.tup [i6 (woH ⟨a, b, c, d⟩ (tlOf n f)), i6 (woK ⟨a, b, c, d⟩ (tlOf n f)), i6 (erW ⟨a, b, c, d⟩ (tlOf n f))])
  | _ => False⟩
def gapP (T : Tl) (st p h : Int) : Prop := ∀ i, i < T.n → (T.f i).s = st → ¬ inW (T.f i) h p
structure isFi (T : Tl) (st p a u : Int) : Prop where
  l : a ≤ u
  g : gapP T st p u
  n : ∀ x, a ≤ x → x < u → ¬ gapP T st p x
noncomputable def untI (T : Tl) (st p a : Int) : Int := Classical.epsilon (isFi T st p a)
open Classical in
noncomputable def lastJ (T : Tl) (st p y : Int) : Nat → Int
  | 0 => -1
  | j + 1 => if (winT T y p j).s = st then max (lastJ T st p y j) (winT T y p j).h else lastJ T st p y j
noncomputable def unG (T : Tl) (st p a : Int) : Prop := funH Try.prog (ctrsF [wdC] (ctrs [])) noX (ictrs [wiC])
  (oneL 0 (natH (fun z => a ≤ z ∧ (z : Int) ≤ 1100000 ∧ ∀ x, a ≤ x → x < (z : Int) → ¬ gapP T st p x) (fun z => 1200000 - z) 1 (fun z => mkF 30 [(0, T.sv), (2, i6 p), (3, i6 z), (5, .ptr 0 0 0)]) (fun _ => mkX [vr 1 (i6 st)]) fun _ => none))
  (oneL 2 (itN 30 3 2 (fun _ _ => True) (fun y => mkF 30 [(0, T.sv), (2, i6 p), (3, i6 y), (5, .ptr 0 0 0), (9, .ptr 1 0 0)]) (fun y j => mkX [vr 1 (i6 st), vr 1 (i6 (lastJ T st p y j))]) fun _ _ => none))
  68 [T.sv, i6 st, i6 p, i6 a] (i6 (untI T st p a))
noncomputable def unC : Ctr := ⟨68, fun args k => match args with
  | [.lst 4 n f, .int .i64 st, .int .i64 p, .int .i64 a] => SV.lst 4 n f = (tlOf n f).sv ∧ n ≤ 100 ∧ okTl (tlOf n f) ∧ (1 ≤ p ∧ p ≤ 10000) ∧ (0 ≤ a ∧ a ≤ 1080000) ∧ k (i6 (untI (tlOf n f) st p a))
  | _ => False⟩
noncomputable def gpP (T : Tl) (p lo hi : Int) (s : Nat) : Prop := untI T s p (lo + p - 1) ≤ hi
noncomputable def gpL (T : Tl) (st p lo hi : Int) : List Nat := fiL (gpP T p lo hi) st.toNat
noncomputable def gpN (T : Tl) (st p lo hi : Int) : Nat := (gpL T st p lo hi).length
noncomputable def gpK (T : Tl) (st p lo hi : Int) (j : Nat) : Int × Int := (untI T ((gpL T st p lo hi).getD j 0 : Nat) p (lo + p - 1), ((gpL T st p lo hi).getD j 0 : Nat))
structure okMi (st p lo hi : Int) : Prop where
  s0 : 1 ≤ st
  s1 : st ≤ 16
  p0 : 1 ≤ p
  p1 : p ≤ 10000
  h : okHs lo hi
noncomputable def gaG (T : Tl) (st p lo hi : Int) : Prop := itH Try.prog (ctrs [unC]) noX (ictrs [])
  (oneL 0 (natH (fun i => i ≤ st.toNat) (fun i => st.toNat - i) 1 (fun i => mkF 34 [(0, .yld 0), (2, .ipt [T.sv]), (3, .ipt [i6 p]), (4, .ipt [i6 lo, i6 hi]), (8, i6 st), (9, i6 i)]) (fun _ => ⟨1, .nil⟩) fun i => some (fiN (gpP T p lo hi) i))) noL
  67 [] [.ipt [i6 st], .ipt [T.sv], .ipt [i6 p], .ipt [i6 lo, i6 hi]] (gpN T st p lo hi) fun j => [.agg [i6 (gpK T st p lo hi j).1, i6 (gpK T st p lo hi j).2]]
noncomputable def gaC : ICtr := ⟨67, fun fs us k => match fs, us with
  | [], [.ipt [.int .i64 st], .ipt [.lst 4 n f], .ipt [.int .i64 p], .ipt [.int .i64 lo, .int .i64 hi]] => SV.lst 4 n f = (tlOf n f).sv ∧ n ≤ 100 ∧ okTl (tlOf n f) ∧ okMi st p lo hi ∧ k (gpN (tlOf n f) st p lo hi) 1 (fun j => [.agg [i6 (gpK (tlOf n f) st p lo hi j).1, i6 (gpK (tlOf n f) st p lo hi j).2]])
  | _, _ => False⟩
def cloG (T : Tl) (st p lo hi : Int) : SV := .clo (.func 67) [] [.ipt [i6 st], .ipt [T.sv], .ipt [i6 p], .ipt [i6 lo, i6 hi]]
noncomputable def gasG (T : Tl) (st p lo hi : Int) : Prop := funH Try.prog (ctrs []) noX (ictrs []) noL noL 50 [T.sv, i6 st, i6 p, .agg [i6 lo, i6 hi]] (cloG T st p lo hi)
def gasC : Ctr := ⟨50, fun args k => match args with
  | [.lst 4 n f, .int .i64 st, .int .i64 p, .agg [.int .i64 lo, .int .i64 hi]] => SV.lst 4 n f = (tlOf n f).sv ∧ k (cloG (tlOf n f) st p lo hi)
  | _ => False⟩
noncomputable def lgG (T : Tl) (st p lo hi : Int) : Prop := funH Try.prog (ctrs [gcC]) noX (ictrs [gaC]) noL
  (oneL 0 (itS 3 (fun _ => True) (mkF 21 [(3, .ptr 0 0 0), (4, .ptr 1 0 0), (5, .ptr 2 0 0)]) (fun j => mkX [vr 1 (fnV 51), vr 2 (.agg [i6 (leastJ (gpK T st p lo hi) j).1, i6 (leastJ (gpK T st p lo hi) j).2]), vr 1 (.dec (0 < j) inferInstance)]) fun _ => none))
  49 [cloG T st p lo hi, fnV 51] (.tup [.agg [i6 (leastJ (gpK T st p lo hi) (gpN T st p lo hi)).1, i6 (leastJ (gpK T st p lo hi) (gpN T st p lo hi)).2], .dec (0 < gpN T st p lo hi) inferInstance])
noncomputable def lgC : Ctr := ⟨49, fun args k => match args with
  | [.clo (.func 67) [] [.ipt [.int .i64 st], .ipt [.lst 4 n f], .ipt [.int .i64 p], .ipt [.int .i64 lo, .int .i64 hi]], g] => g = fnV 51 ∧ SV.lst 4 n f = (tlOf n f).sv ∧ n ≤ 100 ∧ okTl (tlOf n f) ∧ okMi st p lo hi ∧ k (.tup [.agg [i6 (leastJ (gpK (tlOf n f) st p lo hi) (gpN (tlOf n f) st p lo hi)).1, i6 (leastJ (gpK (tlOf n f) st p lo hi) (gpN (tlOf n f) st p lo hi)).2], .dec (0 < gpN (tlOf n f) st p lo hi) inferInstance])
  | _ => False⟩
open Classical in
noncomputable def erM (T : Tl) (st p lo hi : Int) : Int := if erT T = 0 then (if okMi st p lo hi then (if gpN T st p lo hi = 0 then 4 else 0) else 2) else erT T
open Classical in
noncomputable def miH (T : Tl) (st p lo hi : Int) : Int := if erM T st p lo hi = 0 then (leastJ (gpK T st p lo hi) (gpN T st p lo hi)).1 else 0
open Classical in
noncomputable def miS (T : Tl) (st p lo hi : Int) : Int := if erM T st p lo hi = 0 then (leastJ (gpK T st p lo hi) (gpN T st p lo hi)).2 else 0
noncomputable def miG (T : Tl) (st p lo hi : Int) : Prop := funH Try.prog (ctrsF [gasC] (ctrs [ctC, frC, vsC, lgC])) noX (ictrs []) noL noL 20 [T.sv, i6 st, i6 p, .agg [i6 lo, i6 hi]] (.tup [i6 (miH T st p lo hi), i6 (miS T st p lo hi), i6 (erM T st p lo hi)])
noncomputable def miC : Ctr := ⟨20, fun args k => match args with
  | [.lst 4 n f, .int .i64 st, .int .i64 p, .agg [.int .i64 lo, .int .i64 hi]] => SV.lst 4 n f = (tlOf n f).sv ∧ n ≤ 1000 ∧ k (.tup [i6 (miH (tlOf n f) st p lo hi), i6 (miS (tlOf n f) st p lo hi), i6 (erM (tlOf n f) st p lo hi)])
  | _ => False⟩
end Go.Proofs.Ytgidaaogknikoaa

set_option maxRecDepth 100000
namespace Go.Proofs.Ytgidaaogknikoaa
open Go Go.Lg
theorem veG_vc (d : De) (T : Tl) : veG d T =
 ((∃ (z : Nat), z ≤ T.1 ∧ (0 : Nat) = z ∧ rE (SV.denL [T.sv]) ∧ ((∀ (i : Nat), i < T.1 → True ∧ True ∧ True ∧ True ∧ True) ∧ True) ∧ rE (SV.denL d.cells) ∧ (tt5) ∧ T.1 = T.1 ∧ (∀ (i : Nat), i < T.1 → rE ((T.f i).sv.den) ∧ True ∧ True ∧ True ∧ True ∧ True) ∧ rE (↑T.1 : Int) ∧ (0 : Int) = (↑z : Int) ∧ True) ∧ ∀ (z : Nat), z ≤ T.1 → ((↑z : Int) < (↑T.1 : Int) → (0 : Int) ≤ (↑z : Int) ∧ (↑z : Int) < (↑T.1 : Int) ∧ (0 : Nat) < (1 : Nat) ∧ (0 : Nat) < (1 : Nat) ∧ (∀ (i : Nat), i < T.1 → True ∧ True ∧ True ∧ True ∧ True) ∧ rE T.sv ∧ T.1 ≤ (100 : Nat) ∧ okDe d ∧ okTl T ∧ ((0 : Int) ≤ (T.f (↑z : Int).toNat).1 ∧ (T.f (↑z : Int).toNat).1 ≤ (1048576 : Int)) ∧ okOc (ocL d T (T.f (↑z : Int).toNat).h) ∧ okOc (ocH d T (T.f (↑z : Int).toNat).h) ∧ z < T.1 ∧ (T.f (↑z : Int).toNat).1 = (T.f z).1 ∧ surI (ocL d T (T.f (↑z : Int).toNat).h) (ocH d T (T.f (↑z : Int).toNat).h) = surI (ocL d T (T.f z).h) (ocH d T
 (T.f z).h) ∧ (rI ((↑z : Int) + (1 : Int)) ∧ ∃ (z_1 : Nat), z_1 ≤ T.1 ∧ T.1 - z_1 < T.1 - z ∧ z.succ = z_1 ∧ rE (SV.denL [T.sv]) ∧ ((∀ (i : Nat), i < T.1 → True ∧ True ∧ True ∧ True ∧ True) ∧ True) ∧ rE (SV.denL d.cells) ∧ (tt5) ∧ T.1 = T.1 ∧ (∀ (i : Nat), i < T.1 → rE ((T.f i).sv.den) ∧ True ∧ True ∧ True ∧ True ∧ True) ∧ rE (↑T.1 : Int) ∧ (↑z : Int) + (1 : Int) = (↑z_1 : Int) ∧ True) ∧ True) ∧ (¬(↑z : Int) < (↑T.1 : Int) → z = T.1)) := by kernel_rfl
theorem vdsG_vc (d : De) (T : Tl) : vdsG d T =
 ((0 : Nat) < (1 : Nat) ∧
  T.1 = T.1 ∧
    (∀ (i : Nat), i < T.1 → (T.f i).sv.den = (T.f i).sv.den ∧ True ∧ True ∧ True ∧ True ∧ True) ∧
      (0 : Nat) < (1 : Nat) ∧ d.1 = d.1 ∧ d.2 = d.2 ∧ d.3 = d.3 ∧ d.4 = d.4 ∧ True) := by kernel_rfl
theorem nan1G_vc (a : Int) : nan1G a =
 ((¬a = a ↔ false = true) ∧ True) := by kernel_rfl
theorem nan2G_vc (a : Int) : nan2G a =
 ((¬a = a ↔ false = true) ∧ True) := by kernel_rfl
theorem cmp1G_vc (a : Int) (b : Int) : cmp1G a b =
 ((a < b → (-1 : Int) = cmpI a b ∧ True) ∧
  (¬a < b → (b < a → (1 : Int) = cmpI a b ∧ True) ∧ (¬b < a → (0 : Int) = cmpI a b ∧ True))) := by kernel_rfl
theorem cmp2G_vc (a : Int) (b : Int) : cmp2G a b =
 ((a < b → (-1 : Int) = cmpI a b ∧ True) ∧
  (¬a < b → (b < a → (1 : Int) = cmpI a b ∧ True) ∧ (¬b < a → (0 : Int) = cmpI a b ∧ True))) := by kernel_rfl
theorem orG_vc (a : Int) (b : Int) : orG a b =
 (((0 : Int) < (↑(2 : Nat) : Int) → (0 : Int) ≤ (0 : Int) ∧ (0 : Int) < (↑(2 : Nat) : Int) ∧ (¬a = (0 : Int) → a = orI a b ∧ True) ∧ (¬¬a = (0 : Int) → rI ((0 : Int) + (1 : Int)) ∧ ((0 : Int) + (1 : Int) < (↑(2 : Nat) : Int) → (0 : Int) ≤ (0 : Int) + (1 : Int) ∧ (0 : Int) + (1 : Int) < (↑(2 : Nat) : Int) ∧ (¬b = (0 : Int) → b = orI a b ∧ True) ∧ (¬¬b = (0 : Int) → rI ((0 : Int) + (1 : Int) + (1 : Int)) ∧ ((0 : Int) + (1 : Int) + (1 : Int) < (↑(2 : Nat) : Int) → (0 : Int) ≤ (0 : Int) + (1 : Int) + (1 : Int) ∧ (0 : Int) + (1 : Int) + (1 : Int) < (↑(2 : Nat) : Int) ∧ (¬b = (0 : Int) → b = orI a b ∧ True) ∧ (¬¬b = (0 : Int) → rI ((0 : Int) + (1 : Int) + (1 : Int) + (1 : Int)) ∧ False)) ∧ (¬(0 : Int) + (1 : Int) + (1 : Int) < (↑(2 : Nat) : Int) → (0 : Int) = orI a b ∧ True))) ∧ (¬(0 : Int) + (1 : Int) < (↑(2 : Nat) : Int) → (0 : Int) = orI a b ∧ True))) ∧ (¬(0 : Int) < (↑(2 : Nat) : Int) → (0
 : Int) = orI a b ∧ True)) := by kernel_rfl
theorem vcG_vc (a : Int) (b : Int) (c : Int) (d : Int) : vcG a b c d =
 ((0 : Nat) < (1 : Nat) ∧
  (0 : Nat) < (1 : Nat) ∧
    (0 : Nat) < (1 : Nat) ∧
      (0 : Nat) < (1 : Nat) ∧
        ((∀ (i : Nat), true = true) ∧ True) ∧
          (∀ (i : Nat), i < (2 : Nat) → True) ∧
            (2 : Nat) = (2 : Nat) ∧
              orI (if (0 : Nat) = (0 : Nat) then cmpI b d else cmpI a c)
                    (if (1 : Nat) = (0 : Nat) then cmpI b d else cmpI a c) =
                  cmpK (b, a) (d, c) ∧
                True) := by kernel_rfl
theorem gcG_vc (a : Int) (b : Int) (c : Int) (d : Int) : gcG a b c d =
 ((0 : Nat) < (1 : Nat) ∧
  (0 : Nat) < (1 : Nat) ∧
    (0 : Nat) < (1 : Nat) ∧
      (0 : Nat) < (1 : Nat) ∧
        ((∀ (i : Nat), true = true) ∧ True) ∧
          (∀ (i : Nat), i < (2 : Nat) → True) ∧
            (2 : Nat) = (2 : Nat) ∧
              orI (if (0 : Nat) = (0 : Nat) then cmpI a c else cmpI b d)
                    (if (1 : Nat) = (0 : Nat) then cmpI a c else cmpI b d) =
                  cmpK (a, b) (c, d) ∧
                True) := by kernel_rfl
theorem lvG_vc (d : De) (T : Tl) : lvG d T =
 ((∀ (i : Nat), i < T.1 → True ∧ True ∧ True ∧ True ∧ True) ∧ rE T.sv ∧ T.1 ≤ (100 : Nat) ∧ okDe d ∧ okTl T ∧ (((∀ (i : Nat), i < T.1 → True ∧ True ∧ True ∧ True ∧ True) ∧ True) ∧ (tt5) ∧ ∃ (z : Nat), (z = (0 : Nat) ∧ True) ∧ rE (0 : Nat) ∧ rE (0 : Nat) ∧ rE (0 : Nat) ∧ rE (0 : Nat) ∧ rE (0 : Nat) ∧ rE (0 : Nat) ∧ rE (Fn.func (62 : FuncId)) ∧ rE (SV.denL [T.sv]) ∧ ((∀ (i : Nat), i < T.1 → True ∧ True ∧ True ∧ True ∧ True) ∧ True) ∧ SV.denL d.cells = SV.denL [SV.int IntKind.i64 d.w, SV.int IntKind.i64 d.d, SV.int IntKind.i64 d.sl, SV.int IntKind.i64 d.pay] ∧ (tt5) ∧ rE (Value.func (Fn.func (46 : FuncId)) #[] #[]) ∧ (0 : Int) = (leastJ (verK d T) z).2 ∧ (0 : Int) = (leastJ (verK d T) z).1 ∧ (false = true ↔ (0 : Nat) < z) ∧ True) ∧ (∀ (j : Nat), j < T.1 → ∀ (z : Nat), z = j ∧ True → (0 : Nat) < (1 : Nat) ∧ (¬(0 : Nat) < z → (0 : Nat) < (1 : Nat) ∧ ∃ (z : Nat), (z = j.succ ∧ True) ∧ rE
 (Value.func (Fn.func (46 : FuncId)) #[] #[]) ∧ (T.f j).1 = (leastJ (verK d T) z).2 ∧ surI (ocL d T (T.f j).h) (ocH d T (T.f j).h) = (leastJ (verK d T) z).1 ∧ (rE true ↔ (0 : Nat) < z) ∧ True) ∧ (¬¬(0 : Nat) < z → (0 : Nat) < (1 : Nat) ∧ (0 : Nat) < (1 : Nat) ∧ (0 : Nat) < (1 : Nat) ∧ (cmpK (surI (ocL d T (T.f j).h) (ocH d T (T.f j).h), (T.f j).h) ((leastJ (verK d T) z).fst, (leastJ (verK d T) z).snd) < (0 : Int) → (0 : Nat) < (1 : Nat) ∧ ∃ (z : Nat), (z = j.succ ∧ True) ∧ rE (Value.func (Fn.func (46 : FuncId)) #[] #[]) ∧ (T.f j).1 = (leastJ (verK d T) z).2 ∧ surI (ocL d T (T.f j).h) (ocH d T (T.f j).h) = (leastJ (verK d T) z).1 ∧ (rE true ↔ (0 : Nat) < z) ∧ True) ∧ (¬cmpK (surI (ocL d T (T.f j).h) (ocH d T (T.f j).h), (T.f j).h) ((leastJ (verK d T) z).fst, (leastJ (verK d T) z).snd) < (0 : Int) → ∃ (z_1 : Nat), (z_1 = j.succ ∧ True) ∧ rE (Value.func (Fn.func (46 : FuncId)) #[] #[]) ∧
 (leastJ (verK d T) z).2 = (leastJ (verK d T) z_1).2 ∧ (leastJ (verK d T) z).1 = (leastJ (verK d T) z_1).1 ∧ ((0 : Nat) < z ↔ (0 : Nat) < z_1) ∧ True))) ∧ ∀ (z : Nat), z = T.1 ∧ True → ((0 : Nat) < (1 : Nat) ∧ ((0 : Nat) < (1 : Nat) ∧ (((0 : Nat) < (1 : Nat) ∧ (0 : Nat) < (1 : Nat) ∧ (leastJ (verK d T) z).2 = (leastJ (verK d T) T.n).2 ∧ (leastJ (verK d T) z).1 = (leastJ (verK d T) T.n).1 ∧ ((0 : Nat) < z ↔ (0 : Nat) < T.1) ∧ True) ∧ True) ∧ True) ∧ (((0 : Nat) < (1 : Nat) ∧ ((0 : Nat) < (1 : Nat) ∧ (0 : Nat) < (1 : Nat) ∧ (leastJ (verK d T) z).2 = (leastJ (verK d T) T.n).2 ∧ (leastJ (verK d T) z).1 = (leastJ (verK d T) T.n).1 ∧ ((0 : Nat) < z ↔ (0 : Nat) < T.1) ∧ True) ∧ True) ∧ True) ∧ True) ∧ ((0 : Nat) < (1 : Nat) ∧ ((0 : Nat) < (1 : Nat) ∧ (((0 : Nat) < (1 : Nat) ∧ (0 : Nat) < (1 : Nat) ∧ (leastJ (verK d T) z).2 = (leastJ (verK d T) T.n).2 ∧ (leastJ (verK d T) z).1 = (leastJ (verK d
 T) T.n).1 ∧ ((0 : Nat) < z ↔ (0 : Nat) < T.1) ∧ True) ∧ True) ∧ True) ∧ True) ∧ True) := by kernel_rfl
theorem woG_vc (d : De) (T : Tl) : woG d T =
 ((0 : Nat) < (1 : Nat) ∧ (∀ (i : Nat), i < T.1 → True ∧ True ∧ True ∧ True ∧ True) ∧ rE T.sv ∧ T.1 ≤ (1000 : Nat) ∧ (¬erA d T = (0 : Int) → (0 : Int) = woH d T ∧ (0 : Int) = woK d T ∧ erA d T = erW d T ∧ True) ∧ (¬¬erA d T = (0 : Int) → (0 : Nat) < (1 : Nat) ∧ (∀ (i : Nat), i < T.1 → True ∧ True ∧ True ∧ True ∧ True) ∧ rE T.sv ∧ ((∀ (i : Nat), i < T.1 → True ∧ True ∧ True ∧ True ∧ True) ∧ True) ∧ (tt5) ∧ SV.val (Value.func (Fn.func (46 : Nat)) #[] #[]) = fnV (46 : FuncId) ∧ rE T.sv ∧ T.1 ≤ (100 : Nat) ∧ okDe d ∧ okTl T ∧ (¬(0 : Nat) < T.1 → (0 : Int) = woH d T ∧ (0 : Int) = woK d T ∧ (4 : Int) = erW d T ∧ True) ∧ (¬¬(0 : Nat) < T.1 → (0 : Nat) < (1 : Nat) ∧ (0 : Nat) < (1 : Nat) ∧ (leastJ (verK d T) T.n).2 = woH d T ∧ (leastJ (verK d T) T.n).1 = woK d T ∧ (0 : Int) = erW d T ∧ True))) := by kernel_rfl
theorem unG_vc (T : Tl) (st : Int) (p : Int) (a : Int) : unG T st p a =
 ((∃ (z : Nat), (a ≤ (↑z : Int) ∧ (↑z : Int) ≤ (1100000 : Int) ∧ ∀ (x : Int), a ≤ x → x < (↑z : Int) → ¬gapP T st p x) ∧ T.1 = T.1 ∧ (∀ (i : Nat), i < T.1 → rE ((T.f i).sv.den) ∧ True ∧ True ∧ True ∧ True ∧ True) ∧ p = p ∧ a = (↑z : Int) ∧ rE (0 : Nat) ∧ rE (0 : Nat) ∧ st = st ∧ True) ∧ ∀ (z : Nat), (a ≤ (↑z : Int) ∧ (↑z : Int) ≤ (1100000 : Int) ∧ ∀ (x : Int), a ≤ x → x < (↑z : Int) → ¬gapP T st p x) → (∀ (i : Nat), i < T.1 → True ∧ True ∧ True ∧ True ∧ True) ∧ rE T.sv ∧ (∀ (i : Nat), i < T.1 → True ∧ True ∧ True ∧ True ∧ True) ∧ rE T.sv ∧ T.1 ≤ (1000 : Nat) ∧ ((0 : Int) ≤ (↑z : Int) ∧ (↑z : Int) ≤ (1100000 : Int)) ∧ ((0 : Int) ≤ p ∧ p ≤ (1100000 : Int)) ∧ ((∀ (i : Nat), i < T.1 → True ∧ True ∧ True ∧ True ∧ True) ∧ ((∀ (i : Nat), i < T.1 → True ∧ True ∧ True ∧ True ∧ True) ∧ True) ∧ (True ∧ True) ∧ (True ∧ True) ∧ ∃ (z_1 : Nat), (z_1 = (0 : Nat) ∧ True) ∧ T.1 = T.1 ∧ (∀ (i : Nat), i <
 T.1 → rE ((T.f i).sv.den) ∧ True ∧ True ∧ True ∧ True ∧ True) ∧ p = p ∧ (↑z : Int) = (↑(↑z : Int).toNat : Int) ∧ rE (0 : Nat) ∧ rE (0 : Nat) ∧ rE (0 : Nat) ∧ rE (0 : Nat) ∧ rE (Fn.func (73 : FuncId)) ∧ rE (SV.denL [T.sv]) ∧ ((∀ (i : Nat), i < T.1 → True ∧ True ∧ True ∧ True ∧ True) ∧ True) ∧ SV.denL [i6 (↑z : Int)] = SV.denL [SV.int IntKind.i64 (↑z : Int)] ∧ (True ∧ True) ∧ SV.denL [i6 p] = SV.denL [SV.int IntKind.i64 p] ∧ (True ∧ True) ∧ st = st ∧ (-1 : Int) = lastJ T st p (↑(↑z : Int).toNat : Int) z_1 ∧ True) ∧ (∀ (j : Nat), j < winN T (↑z : Int) p → ∀ (z_1 : Nat), z_1 = j ∧ True → (0 : Nat) < (1 : Nat) ∧ (0 : Nat) < (1 : Nat) ∧ ((T.f ((winL T (↑z : Int) p).getD j (0 : Nat))).2 = st → (0 : Nat) < (1 : Nat) ∧ (0 : Nat) < (1 : Nat) ∧ ∃ (z_2 : Nat), (z_2 = j.succ ∧ True) ∧ st = st ∧ max (lastJ T st p (↑(↑z : Int).toNat : Int) z_1) (T.f ((winL T (↑z : Int) p).getD j (0 : Nat))).1 = lastJ
 T st p (↑(↑z : Int).toNat : Int) z_2 ∧ True) ∧ (¬(T.f ((winL T (↑z : Int) p).getD j (0 : Nat))).2 = st → ∃ (z_2 : Nat), (z_2 = j.succ ∧ True) ∧ st = st ∧ lastJ T st p (↑(↑z : Int).toNat : Int) z_1 = lastJ T st p (↑(↑z : Int).toNat : Int) z_2 ∧ True)) ∧ ∀ (z_1 : Nat), z_1 = winN T (↑z : Int) p ∧ True → (0 : Nat) < (1 : Nat) ∧ (lastJ T st p (↑(↑z : Int).toNat : Int) z_1 < (0 : Int) → (↑(↑z : Int).toNat : Int) = untI T st p a ∧ True) ∧ (¬lastJ T st p (↑(↑z : Int).toNat : Int) z_1 < (0 : Int) → (0 : Nat) < (1 : Nat) ∧ rI (lastJ T st p (↑(↑z : Int).toNat : Int) z_1 + p) ∧ ∃ (z_2 : Nat), (a ≤ (↑z_2 : Int) ∧ (↑z_2 : Int) ≤ (1100000 : Int) ∧ ∀ (x : Int), a ≤ x → x < (↑z_2 : Int) → ¬gapP T st p x) ∧ (1200000 : Nat) - z_2 < (1200000 : Nat) - z ∧ T.1 = T.1 ∧ (∀ (i : Nat), i < T.1 → rE ((T.f i).sv.den) ∧ True ∧ True ∧ True ∧ True ∧ True) ∧ p = p ∧ lastJ T st p (↑(↑z : Int).toNat : Int) z_1 + p =
 (↑z_2 : Int) ∧ rE (0 : Nat) ∧ rE (0 : Nat) ∧ st = st ∧ True)) := by kernel_rfl
theorem gaG_vc (T : Tl) (st : Int) (p : Int) (lo : Int) (hi : Int) : gaG T st p lo hi =
 ((∃ (z : Nat), z ≤ st.toNat ∧ (0 : Nat) = fiN (gpP T p lo hi) z ∧ rE (SV.denL [T.sv]) ∧ ((∀ (i : Nat), i < T.1 → True ∧ True ∧ True ∧ True ∧ True) ∧ True) ∧ rE (SV.denL [i6 p]) ∧ (True ∧ True) ∧ rE (SV.denL [i6 lo, i6 hi]) ∧ (tt3) ∧ st = st ∧ (0 : Int) = (↑z : Int) ∧ True) ∧ ∀ (z : Nat), z ≤ st.toNat → ((↑z : Int) < st → rI (lo + p) ∧ rI (lo + p - (1 : Int)) ∧ (∀ (i : Nat), i < T.1 → True ∧ True ∧ True ∧ True ∧ True) ∧ rE T.sv ∧ T.1 ≤ (100 : Nat) ∧ okTl T ∧ ((1 : Int) ≤ p ∧ p ≤ (10000 : Int)) ∧ ((0 : Int) ≤ lo + p - (1 : Int) ∧ lo + p - (1 : Int) ≤ (1080000 : Int)) ∧ (untI T (↑z : Int) p (lo + p - (1 : Int)) ≤ hi → fiN (gpP T p lo hi) z < gpN T st p lo hi ∧ untI T (↑z : Int) p (lo + p - (1 : Int)) = untI T (↑((gpL T st p lo hi).getD (fiN (gpP T p lo hi) z) (0 : Nat)) : Int) p (lo + p - (1 : Int)) ∧ (↑z : Int) = (↑((gpL T st p lo hi).getD (fiN (gpP T p lo hi) z) (0 : Nat)) : Int) ∧ (rI
 ((↑z : Int) + (1 : Int)) ∧ ∃ (z_1 : Nat), z_1 ≤ st.toNat ∧ st.toNat - z_1 < st.toNat - z ∧ (fiN (gpP T p lo hi) z).succ = fiN (gpP T p lo hi) z_1 ∧ rE (SV.denL [T.sv]) ∧ ((∀ (i : Nat), i < T.1 → True ∧ True ∧ True ∧ True ∧ True) ∧ True) ∧ rE (SV.denL [i6 p]) ∧ (True ∧ True) ∧ rE (SV.denL [i6 lo, i6 hi]) ∧ (tt3) ∧ st = st ∧ (↑z : Int) + (1 : Int) = (↑z_1 : Int) ∧ True) ∧ True) ∧ (¬untI T (↑z : Int) p (lo + p - (1 : Int)) ≤ hi → rI ((↑z : Int) + (1 : Int)) ∧ ∃ (z_1 : Nat), z_1 ≤ st.toNat ∧ st.toNat - z_1 < st.toNat - z ∧ fiN (gpP T p lo hi) z = fiN (gpP T p lo hi) z_1 ∧ rE (SV.denL [T.sv]) ∧ ((∀ (i : Nat), i < T.1 → True ∧ True ∧ True ∧ True ∧ True) ∧ True) ∧ rE (SV.denL [i6 p]) ∧ (True ∧ True) ∧ rE (SV.denL [i6 lo, i6 hi]) ∧ (tt3) ∧ st = st ∧ (↑z : Int) + (1 : Int) = (↑z_1 : Int) ∧ True)) ∧ (¬(↑z : Int) < st → fiN (gpP T p lo hi) z = gpN T st p lo hi)) := by kernel_rfl
theorem gasG_vc (T : Tl) (st : Int) (p : Int) (lo : Int) (hi : Int) : gasG T st p lo hi =
 ((0 : Nat) < (1 : Nat) ∧
  st = st ∧
    (0 : Nat) < (1 : Nat) ∧
      T.1 = T.1 ∧
        (∀ (i : Nat), i < T.1 → (T.f i).sv.den = (T.f i).sv.den ∧ True ∧ True ∧ True ∧ True ∧ True) ∧
          (0 : Nat) < (1 : Nat) ∧ p = p ∧ (0 : Nat) < (1 : Nat) ∧ lo = lo ∧ hi = hi ∧ True) := by kernel_rfl
theorem lgG_vc (T : Tl) (st : Int) (p : Int) (lo : Int) (hi : Int) : lgG T st p lo hi =
 ((∀ (i : Nat), i < T.1 → True ∧ True ∧ True ∧ True ∧ True) ∧ rE T.sv ∧ T.1 ≤ (100 : Nat) ∧ okTl T ∧ okMi st p lo hi ∧ ((True ∧ True) ∧ ((∀ (i : Nat), i < T.1 → True ∧ True ∧ True ∧ True ∧ True) ∧ True) ∧ (True ∧ True) ∧ (tt3) ∧ ∃ (z : Nat), (z = (0 : Nat) ∧ True) ∧ rE (0 : Nat) ∧ rE (0 : Nat) ∧ rE (0 : Nat) ∧ rE (0 : Nat) ∧ rE (0 : Nat) ∧ rE (0 : Nat) ∧ rE (Fn.func (67 : FuncId)) ∧ SV.denL [i6 st] = SV.denL [SV.int IntKind.i64 st] ∧ (True ∧ True) ∧ rE (SV.denL [T.sv]) ∧ ((∀ (i : Nat), i < T.1 → True ∧ True ∧ True ∧ True ∧ True) ∧ True) ∧ SV.denL [i6 p] = SV.denL [SV.int IntKind.i64 p] ∧ (True ∧ True) ∧ SV.denL [i6 lo, i6 hi] = SV.denL [SV.int IntKind.i64 lo, SV.int IntKind.i64 hi] ∧ (tt3) ∧ rE (Value.func (Fn.func (51 : FuncId)) #[] #[]) ∧ (0 : Int) = (leastJ (gpK T st p lo hi) z).1 ∧ (0 : Int) = (leastJ (gpK T st p lo hi) z).2 ∧ (false = true ↔ (0 : Nat) < z) ∧ True) ∧ (∀ (j : Nat), j <
 gpN T st p lo hi → ∀ (z : Nat), z = j ∧ True → (0 : Nat) < (1 : Nat) ∧ (¬(0 : Nat) < z → (0 : Nat) < (1 : Nat) ∧ ∃ (z : Nat), (z = j.succ ∧ True) ∧ rE (Value.func (Fn.func (51 : FuncId)) #[] #[]) ∧ untI T (↑((gpL T st p lo hi).getD j (0 : Nat)) : Int) p (lo + p - (1 : Int)) = (leastJ (gpK T st p lo hi) z).1 ∧ (↑((gpL T st p lo hi).getD j (0 : Nat)) : Int) = (leastJ (gpK T st p lo hi) z).2 ∧ (rE true ↔ (0 : Nat) < z) ∧ True) ∧ (¬¬(0 : Nat) < z → (0 : Nat) < (1 : Nat) ∧ (0 : Nat) < (1 : Nat) ∧ (0 : Nat) < (1 : Nat) ∧ (cmpK ((gpK T st p lo hi j).fst, (gpK T st p lo hi j).snd) ((leastJ (gpK T st p lo hi) z).fst, (leastJ (gpK T st p lo hi) z).snd) < (0 : Int) → (0 : Nat) < (1 : Nat) ∧ ∃ (z : Nat), (z = j.succ ∧ True) ∧ rE (Value.func (Fn.func (51 : FuncId)) #[] #[]) ∧ untI T (↑((gpL T st p lo hi).getD j (0 : Nat)) : Int) p (lo + p - (1 : Int)) = (leastJ (gpK T st p lo hi) z).1 ∧ (↑((gpL T st
 p lo hi).getD j (0 : Nat)) : Int) = (leastJ (gpK T st p lo hi) z).2 ∧ (rE true ↔ (0 : Nat) < z) ∧ True) ∧ (¬cmpK ((gpK T st p lo hi j).fst, (gpK T st p lo hi j).snd) ((leastJ (gpK T st p lo hi) z).fst, (leastJ (gpK T st p lo hi) z).snd) < (0 : Int) → ∃ (z_1 : Nat), (z_1 = j.succ ∧ True) ∧ rE (Value.func (Fn.func (51 : FuncId)) #[] #[]) ∧ (leastJ (gpK T st p lo hi) z).1 = (leastJ (gpK T st p lo hi) z_1).1 ∧ (leastJ (gpK T st p lo hi) z).2 = (leastJ (gpK T st p lo hi) z_1).2 ∧ ((0 : Nat) < z ↔ (0 : Nat) < z_1) ∧ True))) ∧ ∀ (z : Nat), z = gpN T st p lo hi ∧ True → ((0 : Nat) < (1 : Nat) ∧ ((0 : Nat) < (1 : Nat) ∧ (((0 : Nat) < (1 : Nat) ∧ (0 : Nat) < (1 : Nat) ∧ (leastJ (gpK T st p lo hi) z).1 = (leastJ (gpK T st p lo hi) (gpN T st p lo hi)).1 ∧ (leastJ (gpK T st p lo hi) z).2 = (leastJ (gpK T st p lo hi) (gpN T st p lo hi)).2 ∧ ((0 : Nat) < z ↔ (0 : Nat) < gpN T st p lo hi) ∧ True) ∧
 True) ∧ True) ∧ (((0 : Nat) < (1 : Nat) ∧ ((0 : Nat) < (1 : Nat) ∧ (0 : Nat) < (1 : Nat) ∧ (leastJ (gpK T st p lo hi) z).1 = (leastJ (gpK T st p lo hi) (gpN T st p lo hi)).1 ∧ (leastJ (gpK T st p lo hi) z).2 = (leastJ (gpK T st p lo hi) (gpN T st p lo hi)).2 ∧ ((0 : Nat) < z ↔ (0 : Nat) < gpN T st p lo hi) ∧ True) ∧ True) ∧ True) ∧ True) ∧ ((0 : Nat) < (1 : Nat) ∧ ((0 : Nat) < (1 : Nat) ∧ (((0 : Nat) < (1 : Nat) ∧ (0 : Nat) < (1 : Nat) ∧ (leastJ (gpK T st p lo hi) z).1 = (leastJ (gpK T st p lo hi) (gpN T st p lo hi)).1 ∧ (leastJ (gpK T st p lo hi) z).2 = (leastJ (gpK T st p lo hi) (gpN T st p lo hi)).2 ∧ ((0 : Nat) < z ↔ (0 : Nat) < gpN T st p lo hi) ∧ True) ∧ True) ∧ True) ∧ True) ∧ True) := by kernel_rfl
theorem miG_vc (T : Tl) (st : Int) (p : Int) (lo : Int) (hi : Int) : miG T st p lo hi =
 ((∀ (i : Nat), i < T.1 → True ∧ True ∧ True ∧ True ∧ True) ∧ rE T.sv ∧ T.1 ≤ (1000 : Nat) ∧ (¬erT T = (0 : Int) → (0 : Int) = miH T st p lo hi ∧ (0 : Int) = miS T st p lo hi ∧ erT T = erM T st p lo hi ∧ True) ∧ (¬¬erT T = (0 : Int) → (¬((1 : Int) ≤ st ∧ st ≤ (16 : Int)) → (0 : Int) = miH T st p lo hi ∧ (0 : Int) = miS T st p lo hi ∧ (2 : Int) = erM T st p lo hi ∧ True) ∧ (¬¬((1 : Int) ≤ st ∧ st ≤ (16 : Int)) → (¬((1 : Int) ≤ p ∧ p ≤ (10000 : Int)) → (0 : Int) = miH T st p lo hi ∧ (0 : Int) = miS T st p lo hi ∧ (2 : Int) = erM T st p lo hi ∧ True) ∧ (¬¬((1 : Int) ≤ p ∧ p ≤ (10000 : Int)) → (0 : Nat) < (1 : Nat) ∧ (¬okHs lo hi → (0 : Int) = miH T st p lo hi ∧ (0 : Int) = miS T st p lo hi ∧ (2 : Int) = erM T st p lo hi ∧ True) ∧ (¬¬okHs lo hi → (0 : Nat) < (1 : Nat) ∧ (∀ (i : Nat), i < T.1 → True ∧ True ∧ True ∧ True ∧ True) ∧ rE T.sv ∧ (True ∧ True) ∧ ((∀ (i : Nat), i < T.1 → True ∧ True ∧
 True ∧ True ∧ True) ∧ True) ∧ (True ∧ True) ∧ (tt3) ∧ SV.val (Value.func (Fn.func (51 : Nat)) #[] #[]) = fnV (51 : FuncId) ∧ rE T.sv ∧ T.1 ≤ (100 : Nat) ∧ okTl T ∧ okMi st p lo hi ∧ (¬(0 : Nat) < gpN T st p lo hi → (0 : Int) = miH T st p lo hi ∧ (0 : Int) = miS T st p lo hi ∧ (4 : Int) = erM T st p lo hi ∧ True) ∧ (¬¬(0 : Nat) < gpN T st p lo hi → (0 : Nat) < (1 : Nat) ∧ (0 : Nat) < (1 : Nat) ∧ (leastJ (gpK T st p lo hi) (gpN T st p lo hi)).1 = miH T st p lo hi ∧ (leastJ (gpK T st p lo hi) (gpN T st p lo hi)).2 = miS T st p lo hi ∧ (0 : Int) = erM T st p lo hi ∧ True)))))) := by kernel_rfl
end Go.Proofs.Ytgidaaogknikoaa

set_option maxRecDepth 100000
namespace Go.Proofs.Ytgidaaogknikoaa
open Go Go.Lg
attribute [local irreducible] funS bodyH
theorem ve_true {d : De} {T : Tl} (hn : T.n ≤ 100) (hd : okDe d) (ht : okTl T) : veG d T := by
  rw [veG_vc]
  simp only [rI, rE, tt3, tt4, tt5, tt13, tt14, and_true, true_and, Nat.zero_lt_one, implies_true, Int.toNat_natCast]
  refine ⟨⟨0, by omega, rfl, rfl⟩, fun z hz => ⟨fun hl => ?_, fun hl => by omega⟩⟩
  have t := ht z (by omega)
  exact ⟨by omega, hl, hn, hd, ht, ⟨t.h0, t.h1⟩, (ocL_ok hn hd ht).1, (ocL_ok hn hd ht).2, by omega, by omega, z + 1, by omega, by omega, rfl, by omega⟩
theorem ve_cs : SoundS Try.prog (ctrs [ouC, suC]) := ctrs_sound (by intro x hx; simp at hx; rcases hx with rfl | rfl; exact ou_ok; exact su_ok)
theorem ve_ok : veC.Ok Try.prog := by
  refine ⟨by kernel_rfl, fun fs us k hk => ?_⟩
  simp only [veC] at hk
  split at hk
  · rename_i n f a b c d
    obtain ⟨hf, h1, h2, h3, hk⟩ := hk
    have hh := ve_true (d := ⟨a, b, c, d⟩) (T := tlOf n f) h1 h2 h3
    unfold veG at hh
    rw [← hf] at hh
    exact ⟨_, _, _, itH_ok ve_cs (fun _ _ _ => noX_sound) nilS_ic mixed hh, fun j _ => rfl, hk⟩
  · exact hk.elim
theorem vds_true (d : De) (T : Tl) : vdsG d T := by
  rw [vdsG_vc]; simp
theorem vds_ok : vdsC.OkF Try.prog := by
  refine ⟨by kernel_rfl, fun x k hk => ?_⟩
  simp only [vdsC] at hk
  split at hk
  · rename_i a b c d n f
    obtain ⟨hf, hk⟩ := hk
    have hh := vds_true ⟨a, b, c, d⟩ (tlOf n f)
    unfold vdsG at hh
    rw [← hf] at hh
    exact ⟨_, funH_does nilS_cs nilS_x nilS_ic mixed hh, hk⟩
  · exact hk.elim
theorem nan1_ok : (nanC 71).Ok Try.prog := by
  refine ⟨by kernel_rfl, fun x k hk => ?_⟩
  simp only [nanC] at hk
  split at hk
  · rename_i a
    have hh : nan1G a := by rw [nan1G_vc]; simp
    unfold nan1G at hh
    exact ⟨_, Does.plain (funH_does nilS_cs nilS_x nilS_ic mixed hh) trivial, hk⟩
  · exact hk.elim
theorem nan2_ok : (nanC 72).Ok Try.prog := by
  refine ⟨by kernel_rfl, fun x k hk => ?_⟩
  simp only [nanC] at hk
  split at hk
  · rename_i a
    have hh : nan2G a := by rw [nan2G_vc]; simp
    unfold nan2G at hh
    exact ⟨_, Does.plain (funH_does nilS_cs nilS_x nilS_ic mixed hh) trivial, hk⟩
  · exact hk.elim
theorem cmp1_true (a b : Int) : cmp1G a b := by
  rw [cmp1G_vc]
  simp only [cmpI, and_true]
  exact ⟨fun h => by rw [if_pos h], fun h => ⟨fun h2 => by rw [if_neg h, if_pos h2], fun h2 => by rw [if_neg h, if_neg h2]⟩⟩
theorem cmp2_true (a b : Int) : cmp2G a b := by
  rw [cmp2G_vc]
  simp only [cmpI, and_true]
  exact ⟨fun h => by rw [if_pos h], fun h => ⟨fun h2 => by rw [if_neg h, if_pos h2], fun h2 => by rw [if_neg h, if_neg h2]⟩⟩
theorem cmp1_cs : SoundS Try.prog (ctrs [nanC 71]) := ctrs_sound (by intro x hx; simp at hx; subst hx; exact nan1_ok)
theorem cmp2_cs : SoundS Try.prog (ctrs [nanC 72]) := ctrs_sound (by intro x hx; simp at hx; subst hx; exact nan2_ok)
theorem cmp1_ok : (cmpC 64).Ok Try.prog := by
  refine ⟨by kernel_rfl, fun x k hk => ?_⟩
  simp only [cmpC] at hk
  split at hk
  · rename_i a b
    have hh := cmp1_true a b
    unfold cmp1G at hh
    exact ⟨_, Does.plain (funH_does cmp1_cs nilS_x nilS_ic mixed hh) trivial, hk⟩
  · exact hk.elim
theorem cmp2_ok : (cmpC 65).Ok Try.prog := by
  refine ⟨by kernel_rfl, fun x k hk => ?_⟩
  simp only [cmpC] at hk
  split at hk
  · rename_i a b
    have hh := cmp2_true a b
    unfold cmp2G at hh
    exact ⟨_, Does.plain (funH_does cmp2_cs nilS_x nilS_ic mixed hh) trivial, hk⟩
  · exact hk.elim
theorem or_true (a b : Int) : orG a b := by
  rw [orG_vc]
  simp only [rI, and_true, Classical.not_not, orI]
  refine ⟨fun _ => ⟨by omega, by decide, fun h => by rw [if_neg h], fun h => ⟨by omega, fun _ => ⟨by omega, by decide, fun h2 => by rw [if_pos h], fun h2 => ⟨by omega, fun h3 => absurd h3 (by decide), fun _ => by rw [if_pos h]; exact h2.symm⟩⟩, fun h2 => absurd (by decide) h2⟩⟩, fun h2 => absurd (by decide) h2⟩
theorem or_ok : orC.Ok Try.prog := by
  refine ⟨by kernel_rfl, fun x k hk => ?_⟩
  simp only [orC] at hk
  split at hk
  · rename_i n f
    split at hk
    · rename_i a b e1 e2
      obtain ⟨rfl, hk⟩ := hk
      have hh := or_true a b
      unfold orG at hh
      have e : SV.denL [SV.lst 1 2 f] = SV.denL [SV.lst 1 2 (two (i6 a) (i6 b))] := by
        simp [SV.denL, SV.den, List.range_succ, two, e1, e2, i6]
      refine ⟨_, ?_, hk⟩
      rw [e]
      exact Does.plain (funH_does nilS_cs nilS_x nilS_ic mixed hh) trivial
    · exact hk.elim
  · exact hk.elim
theorem vc_true (a b c d : Int) : vcG a b c d := by
  rw [vcG_vc]
  simp [cmpK]
theorem gc_true (a b c d : Int) : gcG a b c d := by
  rw [gcG_vc]
  simp [cmpK]
theorem vc_cs : SoundS Try.prog (ctrs [cmpC 64, cmpC 65, orC]) := ctrs_sound (by intro x hx; simp at hx; rcases hx with rfl | rfl | rfl; exact cmp1_ok; exact cmp2_ok; exact or_ok)
theorem gc_cs : SoundS Try.prog (ctrs [cmpC 65, orC]) := ctrs_sound (by intro x hx; simp at hx; rcases hx with rfl | rfl; exact cmp2_ok; exact or_ok)
theorem vc_ok : vcC.Ok Try.prog := by
  refine ⟨by kernel_rfl, fun x k hk => ?_⟩
  simp only [vcC] at hk
  split at hk
  · rename_i a b c d
    have hh := vc_true a b c d
    unfold vcG at hh
    exact ⟨_, Does.plain (funH_does vc_cs nilS_x nilS_ic mixed hh) trivial, hk⟩
  · exact hk.elim
theorem gc_ok : gcC.Ok Try.prog := by
  refine ⟨by kernel_rfl, fun x k hk => ?_⟩
  simp only [gcC] at hk
  split at hk
  · rename_i a b c d
    have hh := gc_true a b c d
    unfold gcG at hh
    exact ⟨_, Does.plain (funH_does gc_cs nilS_x nilS_ic mixed hh) trivial, hk⟩
  · exact hk.elim
theorem least_in {v : Nat → Int × Int} {j : Nat} (h : j = 0 ∨ cmpK (v j) (leastJ v j) < 0) : leastJ v (j + 1) = v j := by
  simp only [leastJ]; rw [if_pos h]
theorem least_out {v : Nat → Int × Int} {j : Nat} (h : ¬ j = 0) (h2 : ¬ cmpK (v j) (leastJ v j) < 0) : leastJ v (j + 1) = leastJ v j := by
  simp only [leastJ]; rw [if_neg (by rintro (h3 | h3); exact h h3; exact h2 h3)]
theorem lv_true {d : De} {T : Tl} (hn : T.n ≤ 100) (hd : okDe d) (ht : okTl T) : lvG d T := by
  rw [lvG_vc]
  simp only [rI, rE, tt3, tt4, tt5, tt13, tt14, and_true, true_and, Nat.zero_lt_one, implies_true, and_self, true_iff]
  refine ⟨hn, hd, ht, ⟨0, rfl, rfl, rfl, rfl, by simp⟩, fun j hj z hz => ?_, fun z hz => ?_⟩
  · subst hz
    refine ⟨fun h => ⟨z + 1, rfl, ?_⟩, fun h => ⟨fun h2 => ⟨z + 1, rfl, ?_⟩, fun h2 => ⟨z + 1, rfl, ?_⟩⟩⟩
    · rw [least_in (.inl (by omega))]
      exact ⟨rfl, rfl, by omega⟩
    · rw [least_in (.inr h2)]
      exact ⟨rfl, rfl, by omega⟩
    · rw [least_out (by omega) h2]
      exact ⟨rfl, rfl, by omega⟩
  · subst hz
    exact ⟨rfl, rfl, Iff.rfl⟩
theorem ve_ic : SoundIH Try.prog (ictrs [veC]) := ictrs_sound (by intro x hx; simp at hx; subst hx; exact ve_ok)
theorem vcs_cs : SoundS Try.prog (ctrs [vcC]) := ctrs_sound (by intro x hx; simp at hx; subst hx; exact vc_ok)
theorem gcs_cs : SoundS Try.prog (ctrs [gcC]) := ctrs_sound (by intro x hx; simp at hx; subst hx; exact gc_ok)
theorem lv_ok : lvC.Ok Try.prog := by
  refine ⟨by kernel_rfl, fun x k hk => ?_⟩
  simp only [lvC] at hk
  split at hk
  · rename_i n f a b c d g
    obtain ⟨rfl, hf, h1, h2, h3, hk⟩ := hk
    have hh := lv_true (d := ⟨a, b, c, d⟩) (T := tlOf n f) h1 h2 h3
    unfold lvG cloV at hh
    rw [← hf] at hh
    exact ⟨_, Does.plain (funH_does vcs_cs nilS_x ve_ic mixed hh) (by simp [plainS, plainS.plainL]), hk⟩
  · exact hk.elim
theorem wo_true {d : De} {T : Tl} (hn : T.n ≤ 1000) : woG d T := by
  rw [woG_vc]
  simp only [rI, rE, tt3, tt4, tt5, tt13, tt14, and_true, true_and, Nat.zero_lt_one, implies_true, and_self, Classical.not_not]
  refine ⟨hn, fun h => ?_, fun h => ?_⟩
  · have e : erW d T = erA d T := by rw [erW, if_neg h]
    rw [woH, woK, e, if_neg h, if_neg h]; exact ⟨rfl, rfl, rfl⟩
  · obtain ⟨k1, k2, k3⟩ := erA_ok h
    refine ⟨rfl, by omega, k3, k2, fun h2 => ?_, fun h2 => ?_⟩
    · have e : erW d T = 4 := by rw [erW, if_pos h, if_pos (by omega)]
      rw [woH, woK, e]; exact ⟨rfl, rfl, rfl⟩
    · have e : erW d T = 0 := by rw [erW, if_pos h, if_neg (by omega)]
      rw [woH, woK, e, if_pos rfl, if_pos rfl]; exact ⟨rfl, rfl, rfl⟩
theorem wo_cs : SoundS Try.prog (ctrsF [vdsC] (ctrs [caC, lvC])) := ctrsF_sound (ctrs_sound (by intro x hx; simp at hx; rcases hx with rfl | rfl; exact ca_ok; exact lv_ok)) (by intro x hx; simp at hx; subst hx; exact vds_ok)
theorem wo_ok : woC.Ok Try.prog := by
  refine ⟨by kernel_rfl, fun x k hk => ?_⟩
  simp only [woC] at hk
  split at hk
  · rename_i a b c d n f
    obtain ⟨hf, h1, hk⟩ := hk
    have hh := wo_true (d := ⟨a, b, c, d⟩) (T := tlOf n f) h1
    unfold woG at hh
    rw [← hf] at hh
    exact ⟨_, Does.plain (funH_does wo_cs nilS_x nilS_ic mixed hh) (by simp [plainS, plainS.plainL]), hk⟩
  · exact hk.elim
theorem lastJ_ge {T : Tl} {st p y : Int} {m j : Nat} (hj : j < m) (hs : (winT T y p j).s = st) : (winT T y p j).h ≤ lastJ T st p y m := by
  induction m with
  | zero => omega
  | succ m ih =>
    simp only [lastJ]
    by_cases e : j = m
    · subst e
      rw [if_pos hs]; exact Int.le_max_right _ _
    · have := ih (by omega)
      split
      · exact Int.le_trans this (Int.le_max_left _ _)
      · exact this
theorem lastJ_wit {T : Tl} {st p y : Int} {m : Nat} : lastJ T st p y m = -1 ∨ ∃ j, j < m ∧ (winT T y p j).s = st ∧ lastJ T st p y m = (winT T y p j).h := by
  induction m with
  | zero => exact .inl rfl
  | succ m ih =>
    simp only [lastJ]
    split
    · rename_i h
      rcases Int.le_total (lastJ T st p y m) (winT T y p m).h with h2 | h2
      · exact .inr ⟨m, by omega, h, Int.max_eq_right h2⟩
      · rw [Int.max_eq_left h2]
        rcases ih with ih | ⟨j, h3, h4, h5⟩
        · exact .inl ih
        · exact .inr ⟨j, by omega, h4, h5⟩
    · rcases ih with ih | ⟨j, h3, h4, h5⟩
      · exact .inl ih
      · exact .inr ⟨j, by omega, h4, h5⟩
theorem isFi_uniq {T : Tl} {st p a u v : Int} (h : isFi T st p a u) (h2 : isFi T st p a v) : u = v := by
  rcases Int.lt_trichotomy u v with h3 | h3 | h3
  · exact absurd h.g (h2.n u h.l h3)
  · exact h3
  · exact absurd h2.g (h.n v h2.l h3)
theorem untI_eq {T : Tl} {st p a u : Int} (h : isFi T st p a u) : untI T st p a = u := by
  have := Classical.epsilon_spec (p := isFi T st p a) ⟨u, h⟩
  exact isFi_uniq this h
theorem un_true {T : Tl} {st p a : Int} (hn : T.n ≤ 100) (ht : okTl T) (hp : 1 ≤ p ∧ p ≤ 10000) (ha : 0 ≤ a ∧ a ≤ 1080000) : unG T st p a := by
  rw [unG_vc]
  simp only [rI, rE, tt3, tt4, tt5, tt13, tt14, and_true, true_and, Nat.zero_lt_one, implies_true, and_self, Int.toNat_natCast]
  refine ⟨⟨a.toNat, ⟨by omega, by omega, fun x h1 h2 => by omega⟩, by omega⟩, fun z hz => ⟨by omega, by omega, by omega, ⟨0, rfl, rfl⟩, fun j hj z1 hz1 => ?_, fun z1 hz1 => ?_⟩⟩
  · subst hz1
    refine ⟨fun h => ⟨z1 + 1, rfl, ?_⟩, fun h => ⟨z1 + 1, rfl, ?_⟩⟩
    · simp only [lastJ]
      rw [if_pos (show (winT T z p z1).s = st from h)]; rfl
    · simp only [lastJ]
      rw [if_neg (show ¬ (winT T z p z1).s = st from h)]
  · subst hz1
    obtain ⟨z1, z2, z3⟩ := hz
    refine ⟨fun h => ?_, fun h => ?_⟩
    · refine (untI_eq ⟨z1, fun i hi hs hw => ?_, z3⟩).symm
      obtain ⟨g1, g2⟩ := win_get hw hi
      have g3 := lastJ_ge (T := T) (st := st) (p := p) (y := z) g1 (by rw [g2]; exact hs)
      rw [g2] at g3
      have := (ht i hi).h0
      omega
    · rcases lastJ_wit (T := T) (st := st) (p := p) (y := z) (m := winN T z p) with e | ⟨j, j1, j2, j3⟩
      · omega
      · have g := fi_mem (p := fun k => inW (T.f k) z p) j1
        have gw : inW (winT T z p j) z p := g.2
        have gt := win_ok ht j1
        have w1 := gw.1
        have w2 := gw.2
        have t0 := gt.h0
        have t1 := gt.h1
        rw [j3]
        refine ⟨by omega, ((winT T z p j).h + p).toNat, ⟨by omega, by omega, fun x x1 x2 => ?_⟩, by omega, by omega⟩
        rcases Int.lt_or_le x z with h3 | h3
        · exact z3 x x1 h3
        · intro hg
          exact hg ((winL T z p).getD j 0) g.1 j2 ⟨show x - p < (winT T z p j).h by omega, show (winT T z p j).h ≤ x by omega⟩
theorem un_ok : unC.Ok Try.prog := by
  refine ⟨by kernel_rfl, fun x k hk => ?_⟩
  simp only [unC] at hk
  split at hk
  · rename_i n f st p a
    obtain ⟨hf, h1, h2, h3, h4, hk⟩ := hk
    have hh := un_true (T := tlOf n f) (st := st) h1 h2 h3 h4
    unfold unG at hh
    rw [← hf] at hh
    exact ⟨_, Does.plain (funH_does wd_cs nilS_x wi_ic mixed hh) trivial, hk⟩
  · exact hk.elim
theorem ga_true {T : Tl} {st p lo hi : Int} (hn : T.n ≤ 100) (ht : okTl T) (hm : okMi st p lo hi) : gaG T st p lo hi := by
  rw [gaG_vc]
  simp only [rI, rE, tt3, tt4, tt5, tt13, tt14, and_true, true_and, Nat.zero_lt_one, implies_true, and_self, Int.toNat_natCast]
  have m1 := hm.s0
  have m2 := hm.s1
  have m3 := hm.p0
  have m4 := hm.p1
  have m5 := hm.h.a
  have m6 := hm.h.b
  have m7 := hm.h.c
  refine ⟨⟨0, by omega, rfl, rfl⟩, fun z hz => ⟨fun hl => ⟨by omega, by omega, hn, ht, ⟨m3, m4⟩, by omega, fun h => ?_, fun h => ?_⟩, fun hl => ?_⟩⟩
  · have hw : gpP T p lo hi z := h
    obtain ⟨g1, g2⟩ := fi_get (m := st.toNat) hw (by omega)
    have e : (gpL T st p lo hi).getD (fiN (gpP T p lo hi) z) 0 = z := g2
    rw [e]
    exact ⟨g1, rfl, rfl, by omega, z + 1, by omega, by omega, (fiN_yes hw).symm, by omega⟩
  · have hw : ¬ gpP T p lo hi z := h
    exact ⟨by omega, z + 1, by omega, by omega, (fiN_no hw).symm, by omega⟩
  · have : z = st.toNat := by omega
    subst this; rfl
theorem un_cs : SoundS Try.prog (ctrs [unC]) := ctrs_sound (by intro x hx; simp at hx; subst hx; exact un_ok)
theorem ga_ok : gaC.Ok Try.prog := by
  refine ⟨by kernel_rfl, fun fs us k hk => ?_⟩
  simp only [gaC] at hk
  split at hk
  · rename_i st n f p lo hi
    obtain ⟨hf, h1, h2, h3, hk⟩ := hk
    have hh := ga_true (T := tlOf n f) h1 h2 h3
    unfold gaG at hh
    rw [← hf] at hh
    exact ⟨_, _, _, itH_ok un_cs (fun _ _ _ => noX_sound) nilS_ic mixed hh, fun j _ => rfl, hk⟩
  · exact hk.elim
theorem ga_ic : SoundIH Try.prog (ictrs [gaC]) := ictrs_sound (by intro x hx; simp at hx; subst hx; exact ga_ok)
theorem gas_true (T : Tl) (st p lo hi : Int) : gasG T st p lo hi := by
  rw [gasG_vc]; simp
theorem gas_ok : gasC.OkF Try.prog := by
  refine ⟨by kernel_rfl, fun x k hk => ?_⟩
  simp only [gasC] at hk
  split at hk
  · rename_i n f st p lo hi
    obtain ⟨hf, hk⟩ := hk
    have hh := gas_true (tlOf n f) st p lo hi
    unfold gasG at hh
    rw [← hf] at hh
    exact ⟨_, funH_does nilS_cs nilS_x nilS_ic mixed hh, hk⟩
  · exact hk.elim
theorem lg_true {T : Tl} {st p lo hi : Int} (hn : T.n ≤ 100) (ht : okTl T) (hm : okMi st p lo hi) : lgG T st p lo hi := by
  rw [lgG_vc]
  simp only [rI, rE, tt3, tt4, tt5, tt13, tt14, and_true, true_and, Nat.zero_lt_one, implies_true, and_self, true_iff]
  refine ⟨hn, ht, hm, ⟨0, rfl, rfl, rfl, by simp⟩, fun j hj z hz => ?_, fun z hz => ?_⟩
  · subst hz
    refine ⟨fun h => ⟨z + 1, rfl, ?_⟩, fun h => ⟨fun h2 => ⟨z + 1, rfl, ?_⟩, fun h2 => ⟨z + 1, rfl, ?_⟩⟩⟩
    · rw [least_in (.inl (by omega))]
      exact ⟨rfl, rfl, by omega⟩
    · rw [least_in (.inr h2)]
      exact ⟨rfl, rfl, by omega⟩
    · rw [least_out (by omega) h2]
      exact ⟨rfl, rfl, by omega⟩
  · subst hz
    exact ⟨rfl, rfl, Iff.rfl⟩
theorem lg_ok : lgC.Ok Try.prog := by
  refine ⟨by kernel_rfl, fun x k hk => ?_⟩
  simp only [lgC] at hk
  split at hk
  · rename_i st n f p lo hi g
    obtain ⟨rfl, hf, h1, h2, h3, hk⟩ := hk
    have hh := lg_true (T := tlOf n f) h1 h2 h3
    unfold lgG cloG at hh
    rw [← hf] at hh
    exact ⟨_, Does.plain (funH_does gcs_cs nilS_x ga_ic mixed hh) (by simp [plainS, plainS.plainL]), hk⟩
  · exact hk.elim
theorem erT_ok {T : Tl} (h : erT T = 0) : T.n ≤ 32 ∧ okTl T := by
  unfold erT at h
  split at h
  · omega
  · split at h
    · rename_i h3 h4
      exact ⟨by omega, h4⟩
    · omega
theorem mi_true {T : Tl} {st p lo hi : Int} (hn : T.n ≤ 1000) : miG T st p lo hi := by
  rw [miG_vc]
  simp only [rI, rE, tt3, tt4, tt5, tt13, tt14, and_true, true_and, Nat.zero_lt_one, implies_true, and_self, Classical.not_not]
  have bad : erT T = 0 → ¬ okMi st p lo hi → 0 = miH T st p lo hi ∧ 0 = miS T st p lo hi ∧ 2 = erM T st p lo hi := fun h h2 => by
    have e : erM T st p lo hi = 2 := by rw [erM, if_pos h, if_neg h2]
    rw [miH, miS, e]; exact ⟨rfl, rfl, rfl⟩
  refine ⟨hn, fun h => ?_, fun h => ⟨fun h1 => bad h fun x => h1 ⟨x.s0, x.s1⟩, fun h1 => ⟨fun h2 => bad h fun x => h2 ⟨x.p0, x.p1⟩, fun h2 => ⟨fun h3 => bad h fun x => h3 x.h, fun h3 => ?_⟩⟩⟩⟩
  · have e : erM T st p lo hi = erT T := by rw [erM, if_neg h]
    rw [miH, miS, e, if_neg h, if_neg h]; exact ⟨rfl, rfl, rfl⟩
  · obtain ⟨k1, k2⟩ := erT_ok h
    have hm : okMi st p lo hi := ⟨h1.1, h1.2, h2.1, h2.2, h3⟩
    refine ⟨rfl, by omega, k2, hm, fun h4 => ?_, fun h4 => ?_⟩
    · have e : erM T st p lo hi = 4 := by rw [erM, if_pos h, if_pos hm, if_pos (by omega)]
      rw [miH, miS, e]; exact ⟨rfl, rfl, rfl⟩
    · have e : erM T st p lo hi = 0 := by rw [erM, if_pos h, if_pos hm, if_neg (by omega)]
      rw [miH, miS, e, if_pos rfl, if_pos rfl]; exact ⟨rfl, rfl, rfl⟩
theorem mi_cs : SoundS Try.prog (ctrsF [gasC] (ctrs [ctC, frC, vsC, lgC])) := ctrsF_sound (ctrs_sound (by intro x hx; simp at hx; rcases hx with rfl | rfl | rfl | rfl; exact ct_ok; exact fr_ok; exact vs_ok; exact lg_ok)) (by intro x hx; simp at hx; subst hx; exact gas_ok)
theorem mi_ok : miC.Ok Try.prog := by
  refine ⟨by kernel_rfl, fun x k hk => ?_⟩
  simp only [miC] at hk
  split at hk
  · rename_i n f st p lo hi
    obtain ⟨hf, h1, hk⟩ := hk
    have hh := mi_true (T := tlOf n f) (st := st) (p := p) (lo := lo) (hi := hi) h1
    unfold miG at hh
    rw [← hf] at hh
    exact ⟨_, Does.plain (funH_does mi_cs nilS_x nilS_ic mixed hh) (by simp [plainS, plainS.plainL]), hk⟩
  · exact hk.elim
end Go.Proofs.Ytgidaaogknikoaa
