import Derived.Test.YtfjfnpknlkonnaaLzcLzcVLzdLzeLzfLzfV
set_option linter.unusedVariables false
set_option linter.unusedSimpArgs false
set_option maxRecDepth 100000
namespace Go.Proofs.Ytfjfnpknlkonnaa
open Go Go.Lg
attribute [local irreducible] funS bodyH
theorem le_true {n : Nat} {f : Nat → Int} (hn : n ≤ 1000) : leG n f := by
  rw [leG_vc]
  simp only [rI, rE, tt3, tt4, tt5, tt13, tt14, t12, and_true, true_and, and_self, implies_true, Int.toNat_natCast]
  refine ⟨⟨0, by omega, rfl, rfl, rfl⟩, fun z hz => ⟨fun hl => ⟨by omega, hl, fun h0 => ?_, fun h0 => ⟨fun hf => ?_, fun hf => ?_⟩⟩, fun hl => ?_⟩⟩
  · have e : leI f (z + 1) = z := by rw [leI, if_pos (.inl (by omega))]
    exact ⟨by omega, z + 1, by omega, by omega, by rw [e], by rw [e, if_neg (by omega)], by omega⟩
  · rw [if_neg (by omega)] at hf
    have e : leI f (z + 1) = z := by rw [leI, if_pos (.inr hf)]
    exact ⟨by omega, z + 1, by omega, by omega, by rw [e], by rw [e, if_neg (by omega)], by omega⟩
  · rw [if_neg (by omega)] at hf ⊢
    have e : leI f (z + 1) = leI f z := by rw [leI, if_neg fun x => x.elim (fun x => by omega) hf]
    exact ⟨by omega, z + 1, by omega, by omega, by rw [e], by rw [e, if_neg (by omega)], by omega⟩
  · have : z = n := by omega
    subst this
    exact ⟨rfl, rfl⟩
theorem le_ok : leC.Ok Try.prog := by
  refine ⟨by kernel_rfl, fun x k hk => ?_⟩
  simp only [leC] at hk
  split at hk
  · rename_i n f
    obtain ⟨hf, hn, hk⟩ := hk
    have hh := le_true (f := fun i => prI (f i)) hn
    unfold leG at hh
    rw [← hf] at hh
    exact ⟨_, Does.plain (funH_does nilS_cs nilS_x nilS_ic mixed hh) ⟨trivial, trivial, trivial⟩, hk⟩
  · exact hk.elim
theorem cnt_ok : cntC.OkF Try.prog := by
  refine ⟨by kernel_rfl, fun x k hk => ?_⟩
  simp only [cntC] at hk
  split at hk
  · rename_i ma wr f0 f1 f2 f3 f4 f5 f6 f7 f8 f9 f10 f11 n f a0 a1 a2 a3 a4 a5 a6 a7 a8 a9 a10 a11
    obtain ⟨hm, hf, hk⟩ := hk
    refine ⟨_, ?_, hk⟩
    rw [hf]
    have := cnt_does (ma := ma.toNat) (wr := wr) (fo := f12 f0 f1 f2 f3 f4 f5 f6 f7 f8 f9 f10 f11) (t := f12 a0 a1 a2 a3 a4 a5 a6 a7 a8 a9 a10 a11) (h := hoOf n f) (by omega)
    have e : ((ma.toNat : Nat) : Int) = ma := by omega
    unfold iqV at this
    rw [e] at this
    exact this
  · exact hk.elim
theorem wt12 (t : Nat → Int) (c : Cl) {i : Nat} (h : i < 12) : wt (f12 (t 0) (t 1) (t 2) (t 3) (t 4) (t 5) (t 6) (t 7) (t 8) (t 9) (t 10) (t 11)) c 12 i = wt t c 12 i := by
  simp only [wt, f12_at t h]
open Classical in
theorem susL_congr {t u : Nat → Int} {wr : Int} {ma : Nat} (h : ∀ i, i < ma → t i = u i) : susL t wr ma = susL u wr ma := by
  unfold susL
  apply List.filter_congr
  intro i hi
  rw [h i (List.mem_range.1 hi)]
theorem cnt12 (t : Nat → Int) (c : Cl) (wr : Int) {ma : Int} (h : ma ≤ 12) : susL (f12 (wt (f12 (t 0) (t 1) (t 2) (t 3) (t 4) (t 5) (t 6) (t 7) (t 8) (t 9) (t 10) (t 11)) c 12 0) (wt (f12 (t 0) (t 1) (t 2) (t 3) (t 4) (t 5) (t 6) (t 7) (t 8) (t 9) (t 10) (t 11)) c 12 1) (wt (f12 (t 0) (t 1) (t 2) (t 3) (t 4) (t 5) (t 6) (t 7) (t 8) (t 9) (t 10) (t 11)) c 12 2) (wt (f12 (t 0) (t 1) (t 2) (t 3) (t 4) (t 5) (t 6) (t 7) (t 8) (t 9) (t 10) (t 11)) c 12 3) (wt (f12 (t 0) (t 1) (t 2) (t 3) (t 4) (t 5) (t 6) (t 7) (t 8) (t 9) (t 10) (t 11)) c 12 4) (wt (f12 (t 0) (t 1) (t 2) (t 3) (t 4) (t 5) (t 6) (t 7) (t 8) (t 9) (t 10) (t 11)) c 12 5) (wt (f12 (t 0) (t 1) (t 2) (t 3) (t 4) (t 5) (t 6) (t 7) (t 8) (t 9) (t 10) (t 11)) c 12 6) (wt (f12 (t 0) (t 1) (t 2) (t 3) (t 4) (t 5) (t 6) (t 7) (t 8) (t 9) (t 10) (t 11)) c 12 7) (wt (f12 (t 0) (t 1) (t 2) (t 3) (t 4) (t 5) (t 6) (t 7) (t 8) (t 9) (t 10) (t 11)) c 12 8) (wt (f12 (t 0) (t 1) (t 2) (t 3) (t 4) (t 5) (t 6) (t 7) (t 8) (t 9) (t 10) (t 11)) c 12 9) (wt (f12 (t 0) (t 1) (t 2) (t 3) (t 4) (t 5) (t 6) (t 7) (t 8) (t 9) (t 10) (t 11)) c 12 10) (wt (f12 (t 0) (t 1) (t 2) (t 3) (t 4) (t 5) (t 6) (t 7) (t 8) (t 9) (t 10) (t 11)) c 12 11)) wr ma.toNat = susL (wt t c 12) wr ma.toNat := by
  rw [sus12' (wt (f12 (t 0) (t 1) (t 2) (t 3) (t 4) (t 5) (t 6) (t 7) (t 8) (t 9) (t 10) (t 11)) c 12) wr h]
  exact susL_congr fun i hi => wt12 t c (by omega)
theorem okT12 {t : Nat → Int} (h : okT t) : okT (f12 (t 0) (t 1) (t 2) (t 3) (t 4) (t 5) (t 6) (t 7) (t 8) (t 9) (t 10) (t 11)) := ⟨fun i hi => by rw [f12_at t hi]; exact h.h i hi⟩
theorem mst_0 (ma wr : Int) (t : Nat → Int) (h : Cs) (i : Nat) : mst ma wr t h 0 0 i = 0 := by
  simp [mst]
theorem mst_s (ma wr : Int) (t : Nat → Int) (h : Cs) {a : Nat} (i : Nat) : mst ma wr t h a 2 i = mst ma wr t h (a + 1) 0 i := by
  unfold mst
  by_cases h1 : i < a
  · rw [if_pos h1, if_pos (by omega)]
  · by_cases h2 : i = a
    · subst h2; simp
    · rw [if_neg h1, if_neg h2, if_neg (by omega)]
      simp
theorem mst_1 (ma wr : Int) (t : Nat → Int) (h : Cs) (a i : Nat) : (if i = a then max (mst ma wr t h a 0 a) (lef ma wr t true h a : Int) else mst ma wr t h a 0 i) = mst ma wr t h a 1 i := by
  by_cases e : i = a
  · subst e
    rw [if_pos rfl]
    simp [mst]
  · rw [if_neg e]
    simp [mst, e]
theorem mst_2 (ma wr : Int) (t : Nat → Int) (h : Cs) (a i : Nat) : (if i = a then max (mst ma wr t h a 1 a) (lef ma wr t false h a : Int) else mst ma wr t h a 1 i) = mst ma wr t h a 2 i := by
  by_cases e : i = a
  · subst e
    rw [if_pos rfl]
    simp [mst, most]
  · rw [if_neg e]
    simp [mst, e]
theorem leI_congr {f g : Nat → Int} {n : Nat} (h : ∀ i, i < n → f i = g i) : leI f n = leI g n ∧ (1 ≤ n → leI f n < n) := by
  induction n with
  | zero => exact ⟨rfl, fun h => by omega⟩
  | succ n ih =>
    obtain ⟨e1, e2⟩ := ih fun i hi => h i (by omega)
    have hn := h n (by omega)
    simp only [leI]
    by_cases h0 : n = 0
    · rw [if_pos (.inl h0), if_pos (.inl h0)]
      exact ⟨rfl, fun _ => by omega⟩
    · have hl := e2 (by omega)
      have hg := h (leI f n) (by omega)
      rw [← e1, ← hn, ← hg]
      by_cases hc : f n < f (leI f n)
      · simp only [hc, or_true, if_true, true_and]
        omega
      · simp only [h0, hc, or_self, if_false, true_and]
        omega
theorem nxt_true {ma wr : Int} {t : Nat → Int} {h : Cs} (hm : 1 ≤ ma ∧ ma ≤ 12) (ht : okT t) (hn : h.n ≤ 12) : nxtG ma wr t h := by
  rw [nxtG_vc]
  have C : ∀ c, _ := fun c => cnt12 t c wr hm.2
  have e0 : h.1 = h.n := rfl
  simp only [nxtG0, rI, rE, tt3, tt4, tt5, tt13, tt14, t12, and_true, true_and, and_self, implies_true, Nat.zero_lt_one, Int.toNat_natCast, Nat.zero_add, Nat.add_zero, Nat.mul_one, C]
  refine ⟨by omega, by omega, by omega, by omega, ⟨0, by omega, rfl, fun i _ => (mst_0 ma wr t h i).symm⟩, fun z hz => ⟨fun hl => ⟨by omega, hl, ⟨⟨by omega, by omega⟩, rfl⟩, ?_⟩, fun hl => ?_⟩⟩
  · rintro ⟨a, b⟩ ⟨⟨ha, hb⟩, haz⟩
    simp only at ha hb haz ⊢
    subst haz
    refine ⟨fun h2 => ⟨by omega, by omega, by omega, fun h3 => ?_, fun h3 => ?_⟩, fun h2 => ?_⟩
    · subst h3
      exact ⟨by omega, by omega, ha, okT12 ht, hm, rfl, by omega, by omega, by omega, ha, by omega, ⟨⟨ha, by decide⟩, rfl⟩, by decide, by decide, fun i _ => mst_1 ma wr t h a i⟩
    · subst h3
      exact ⟨by omega, by omega, ha, okT12 ht, hm, rfl, by omega, by omega, by omega, ha, by omega, ⟨⟨ha, by decide⟩, rfl⟩, by decide, by decide, fun i _ => mst_2 ma wr t h a i⟩
    · have : b = 2 := by omega
      subst this
      exact ⟨by omega, a + 1, by omega, by omega, by omega, fun i _ => mst_s ma wr t h i⟩
  · have : z = h.n := by omega
    subst this
    have M : ∀ i, i < h.n → mst ma wr t h h.n 0 i = most ma wr t h i := fun i hi => by
      unfold mst
      rw [if_pos hi]
    obtain ⟨l1, l2⟩ := leI_congr M
    refine ⟨by omega, rfl, by omega, ?_, ?_⟩
    · show (leI (fun i => mst ma wr t h h.n 0 i) h.n : Int) = _
      rw [l1]
    · by_cases h0 : h.n = 0
      · rw [if_pos h0, if_pos h0]
      · rw [if_neg h0, if_neg h0]
        have e : leI (fun i => prI (i6 (mst ma wr t h h.n 0 i))) h.n = leI (most ma wr t h) h.n := l1
        rw [e]
        exact M _ (by rw [← l1]; exact l2 (by omega))
theorem csX_ok : SoundS Try.prog csX := ctrsF_sound (ctrs_sound (by intro x hx; simp at hx; subst hx; exact le_ok)) (by
  intro x hx
  simp at hx
  rcases hx with rfl | rfl
  · exact with_ok
  · exact cnt_ok)
theorem nxt_does {ma wr : Int} {t : Nat → Int} {h : Cs} (hm : 1 ≤ ma ∧ ma ≤ 12) (ht : okT t) (hn : h.n ≤ 12) : Does Try.prog 40 true (SV.denL [iqW ma wr t (hoV h)]) (SV.tup [i6 (leI (most ma wr t h) h.n), i6 (if h.n = 0 then 0 else most ma wr t h (leI (most ma wr t h) h.n))]).den := by
  have hh := nxt_true (wr := wr) hm ht hn
  unfold nxtG at hh
  exact Does.plain (funH_does csX_ok nilS_x nilS_ic mixed hh) ⟨trivial, trivial, trivial⟩
end Go.Proofs.Ytfjfnpknlkonnaa

set_option maxRecDepth 100000
namespace Go.Proofs.Ytfjfnpknlkonnaa
open Go Go.Lg
attribute [local irreducible] bodyH
noncomputable def nxtC : Ctr := ⟨40, fun args k => match args with
  | [.agg [.int .i64 ma, .int .i64 wr, .int .i64 f0, .int .i64 f1, .int .i64 f2, .int .i64 f3, .int .i64 f4, .int .i64 f5, .int .i64 f6, .int .i64 f7, .int .i64 f8, .int .i64 f9, .int .i64 f10, .int .i64 f11, .lst 2 n f]] =>
    (1 ≤ ma ∧ ma ≤ 12) ∧ okT (f12 f0 f1 f2 f3 f4 f5 f6 f7 f8 f9 f10 f11) ∧ SV.lst 2 n f = hoV (hoOf n f) ∧ n ≤ 12 ∧
      k (.tup [i6 (leI (most ma wr (f12 f0 f1 f2 f3 f4 f5 f6 f7 f8 f9 f10 f11) (hoOf n f)) n), i6 (if n = 0 then 0 else most ma wr (f12 f0 f1 f2 f3 f4 f5 f6 f7 f8 f9 f10 f11) (hoOf n f) (leI (most ma wr (f12 f0 f1 f2 f3 f4 f5 f6 f7 f8 f9 f10 f11) (hoOf n f)) n))])
  | _ => False⟩
section
attribute [local irreducible] funS
theorem nxt_ok : nxtC.Ok Try.prog := by
  refine ⟨by kernel_rfl, fun x k hk => ?_⟩
  simp only [nxtC] at hk
  split at hk
  · rename_i ma wr f0 f1 f2 f3 f4 f5 f6 f7 f8 f9 f10 f11 n f
    obtain ⟨hm, ht, hf, hn, hk⟩ := hk
    refine ⟨_, ?_, hk⟩
    rw [hf]
    exact nxt_does (wr := wr) (t := f12 f0 f1 f2 f3 f4 f5 f6 f7 f8 f9 f10 f11) (h := hoOf n f) hm ht hn
  · exact hk.elim
end
noncomputable def nuS (ma wr : Int) (cl : Dl) : Nat := (susL (tal (csD cl) cl.n) wr ma.toNat).length
open Classical in
noncomputable def nE (ma wr : Int) (cl ho : Dl) : Int := if okS ma wr cl ho then (if nuS ma wr cl = 0 then 4 else if nuS ma wr cl = 1 then 6 else if ho.n = 0 then 2 else 0) else 1
noncomputable def moX (ma wr : Int) (cl ho : Dl) : Nat → Int := most ma wr (tal (csD cl) cl.n) (csD ho)
noncomputable def nI (ma wr : Int) (cl ho : Dl) : Int := if nE ma wr cl ho = 0 then leI (moX ma wr cl ho) ho.n else 0
noncomputable def nL (ma wr : Int) (cl ho : Dl) : Int := if nE ma wr cl ho = 0 then moX ma wr cl ho (leI (moX ma wr cl ho) ho.n) else 0
noncomputable def csY : CSpec := ctrsF [newC, cntC] (ctrs [vsC])
noncomputable def begX : CX := inl Try.prog csY none (ictrs []) 39 noL noL noX
noncomputable def nexG (ma wr : Int) (cl ho : Dl) : Prop := funH Try.prog (ctrs [nxtC]) begX (ictrs []) noL noL 17 [sqV ma wr cl ho] (.tup [i6 (nI ma wr cl ho), i6 (nL ma wr cl ho), i6 (nE ma wr cl ho)])
def wiD (c : Dl) (b : Bool) (su ca : Int) : Dl := ⟨c.n + 1, fun k => if k < c.n then c.g k else ⟨b = true, inferInstance⟩, fun k => if k < c.n then c.su k else su, fun k => if k < c.n then c.ca k else ca⟩
def dlR (w : Dl) : Option SRow := rw' 3 w.n fun k => .agg [.dec (w.g k).p (w.g k).i, i6 (w.su k), i6 (w.ca k)]
noncomputable def wthL (c : Dl) (p : Prop) (i : Decidable p) (su ca : Int) (b : Bool) : Nat → Option HSpec :=
  oneL 1001 (regH 1 (fun t _ => match sget 18 t 6 with
      | .sl r _ _ => [some r]
      | _ => []) (mkF 18 [(6, .sl 1 0 (c.n + 1))]) (mkX [vr 3 (.agg [.dec p i, i6 su, i6 ca]), dlR (wiD c b su ca)]) [(5, 0), (7, 0)] [(2, 0)] none)
noncomputable def wthG (c : Dl) (p : Prop) (i : Decidable p) (su ca : Int) (b : Bool) : Prop := funH Try.prog (ctrs []) noX (ictrs []) (wthL c p i su ca b) noL 30 [c.sv, .agg [.dec p i, i6 su, i6 ca], .bool b] (wiD c b su ca).sv
end Go.Proofs.Ytfjfnpknlkonnaa

set_option maxRecDepth 100000
namespace Go.Proofs.Ytfjfnpknlkonnaa
open Go Go.Lg
theorem nexG_vc (ma : Int) (wr : Int) (cl : Dl) (ho : Dl) : nexG ma wr cl ho = ((0 : Nat) < (1 : Nat) ∧ (0 : Nat) < (1 : Nat) ∧ (∀ (i : Nat), i < cl.1 → True ∧ True ∧ True ∧ True) ∧ (∀ (i : Nat), i < ho.1 → True ∧ True ∧ True ∧ True) ∧ (SV.lst (3 : Nat) cl.n fun (k : Nat) => SV.agg [SV.dec (cl.g k).p (cl.g k).i, i6 (cl.su k), i6 (cl.ca k)]) = (dlOf cl.n fun (k : Nat) => SV.agg [SV.dec (cl.g k).p (cl.g k).i, i6 (cl.su k), i6 (cl.ca k)]).sv ∧ (SV.lst (3 : Nat) ho.n fun (k : Nat) => SV.agg [SV.dec (ho.g k).p (ho.g k).i, i6 (ho.su k), i6 (ho.ca k)]) = (dlOf ho.n fun (k : Nat) => SV.agg [SV.dec (ho.g k).p (ho.g k).i, i6 (ho.su k), i6 (ho.ca k)]).sv ∧ (¬okS ma wr (dlOf cl.n fun (k : Nat) => SV.agg [SV.dec (cl.g k).p (cl.g k).i, i6 (cl.su k), i6 (cl.ca k)]) (dlOf ho.n fun (k : Nat) => SV.agg [SV.dec (ho.g k).p (ho.g k).i, i6 (ho.su k), i6 (ho.ca k)]) → (0 : Nat) < (1 : Nat) ∧ (¬(1 : Int) = (0 : Int) → (0 : Int) = nI ma wr cl ho ∧ (0 : Int) = nL ma wr cl ho ∧ (1 : Int) =
 nE ma wr cl ho ∧ True) ∧ (¬¬(1 : Int) = (0 : Int) → (0 : Nat) < (1 : Nat) ∧ ((↑(0 : Nat) : Int) = (0 : Int) → (0 : Int) = nI ma wr cl ho ∧ (0 : Int) = nL ma wr cl ho ∧ (2 : Int) = nE ma wr cl ho ∧ True) ∧ (¬(↑(0 : Nat) : Int) = (0 : Int) → (0 : Nat) < (1 : Nat) ∧ False))) ∧ (¬¬okS ma wr (dlOf cl.n fun (k : Nat) => SV.agg [SV.dec (cl.g k).p (cl.g k).i, i6 (cl.su k), i6 (cl.ca k)]) (dlOf ho.n fun (k : Nat) => SV.agg [SV.dec (ho.g k).p (ho.g k).i, i6 (ho.su k), i6 (ho.ca k)]) → (0 : Nat) < (1 : Nat) ∧ (∀ (i : Nat), i < cl.1 → True ∧ True ∧ True ∧ True) ∧ (∀ (i : Nat), i < ho.1 → True ∧ True ∧ True ∧ True) ∧ (SV.lst (3 : Nat) cl.n fun (k : Nat) => SV.agg [SV.dec (cl.g k).p (cl.g k).i, i6 (cl.su k), i6 (cl.ca k)]) = (dlOf cl.n fun (k : Nat) => SV.agg [SV.dec (cl.g k).p (cl.g k).i, i6 (cl.su k), i6 (cl.ca k)]).sv ∧ (SV.lst (3 : Nat) ho.n fun (k : Nat) => SV.agg [SV.dec (ho.g k).p (ho.g k).i,
 i6 (ho.su k), i6 (ho.ca k)]) = (dlOf ho.n fun (k : Nat) => SV.agg [SV.dec (ho.g k).p (ho.g k).i, i6 (ho.su k), i6 (ho.ca k)]).sv ∧ cl.1 ≤ (20 : Nat) ∧ ho.1 ≤ (12 : Nat) ∧ (0 : Nat) < (1 : Nat) ∧ (0 : Nat) < (1 : Nat) ∧ (∀ (i : Nat), i < ho.1 → (True ∧ (tt4) ∧ True) ∧ (True ∧ (tt4) ∧ True) ∧ True) ∧ ((1 : Int) ≤ ma ∧ ma ≤ (12 : Int)) ∧ (SV.lst (2 : Nat) (csD (dlOf ho.n fun (k : Nat) => SV.agg [SV.dec (ho.g k).p (ho.g k).i, i6 (ho.su k), i6 (ho.ca k)])).n fun (k : Nat) => SV.agg [SV.clo (Fn.func (57 : FuncId)) [] [SV.ipt [SV.bool true, i6 ((csD (dlOf ho.n fun (k : Nat) => SV.agg [SV.dec (ho.g k).p (ho.g k).i, i6 (ho.su k), i6 (ho.ca k)])).su k), i6 ((csD (dlOf ho.n fun (k : Nat) => SV.agg [SV.dec (ho.g k).p (ho.g k).i, i6 (ho.su k), i6 (ho.ca k)])).ca k)]], SV.clo (Fn.func (58 : FuncId)) [] [SV.ipt [SV.bool false, i6 ((csD (dlOf ho.n fun (k : Nat) => SV.agg [SV.dec (ho.g k).p (ho.g k).i,
 i6 (ho.su k), i6 (ho.ca k)])).su k), i6 ((csD (dlOf ho.n fun (k : Nat) => SV.agg [SV.dec (ho.g k).p (ho.g k).i, i6 (ho.su k), i6 (ho.ca k)])).ca k)]]]) = hoV (hoOf (csD (dlOf ho.n fun (k : Nat) => SV.agg [SV.dec (ho.g k).p (ho.g k).i, i6 (ho.su k), i6 (ho.ca k)])).n fun (k : Nat) => SV.agg [SV.clo (Fn.func (57 : FuncId)) [] [SV.ipt [SV.bool true, i6 ((csD (dlOf ho.n fun (k : Nat) => SV.agg [SV.dec (ho.g k).p (ho.g k).i, i6 (ho.su k), i6 (ho.ca k)])).su k), i6 ((csD (dlOf ho.n fun (k : Nat) => SV.agg [SV.dec (ho.g k).p (ho.g k).i, i6 (ho.su k), i6 (ho.ca k)])).ca k)]], SV.clo (Fn.func (58 : FuncId)) [] [SV.ipt [SV.bool false, i6 ((csD (dlOf ho.n fun (k : Nat) => SV.agg [SV.dec (ho.g k).p (ho.g k).i, i6 (ho.su k), i6 (ho.ca k)])).su k), i6 ((csD (dlOf ho.n fun (k : Nat) => SV.agg [SV.dec (ho.g k).p (ho.g k).i, i6 (ho.su k), i6 (ho.ca k)])).ca k)]]]) ∧ ((↑(susL (t12 (tal (csD (dlOf cl.n fun
 (k : Nat) => SV.agg [SV.dec (cl.g k).p (cl.g k).i, i6 (cl.su k), i6 (cl.ca k)])) cl.n)) wr ma.toNat).length : Int) = (0 : Int) → (0 : Nat) < (1 : Nat) ∧ (¬(4 : Int) = (0 : Int) → (0 : Int) = nI ma wr cl ho ∧ (0 : Int) = nL ma wr cl ho ∧ (4 : Int) = nE ma wr cl ho ∧ True) ∧ (¬¬(4 : Int) = (0 : Int) → (0 : Nat) < (1 : Nat) ∧ ((↑(0 : Nat) : Int) = (0 : Int) → (0 : Int) = nI ma wr cl ho ∧ (0 : Int) = nL ma wr cl ho ∧ (2 : Int) = nE ma wr cl ho ∧ True) ∧ (¬(↑(0 : Nat) : Int) = (0 : Int) → (0 : Nat) < (1 : Nat) ∧ False))) ∧ (¬(↑(susL (t12 (tal (csD (dlOf cl.n fun (k : Nat) => SV.agg [SV.dec (cl.g k).p (cl.g k).i, i6 (cl.su k), i6 (cl.ca k)])) cl.n)) wr ma.toNat).length : Int) = (0 : Int) → ((↑(susL (t12 (tal (csD (dlOf cl.n fun (k : Nat) => SV.agg [SV.dec (cl.g k).p (cl.g k).i, i6 (cl.su k), i6 (cl.ca k)])) cl.n)) wr ma.toNat).length : Int) = (1 : Int) → (0 : Nat) < (1 : Nat) ∧ (¬(6 : Int) =
 (0 : Int) → (0 : Int) = nI ma wr cl ho ∧ (0 : Int) = nL ma wr cl ho ∧ (6 : Int) = nE ma wr cl ho ∧ True) ∧ (¬¬(6 : Int) = (0 : Int) → (0 : Nat) < (1 : Nat) ∧ ((↑(0 : Nat) : Int) = (0 : Int) → (0 : Int) = nI ma wr cl ho ∧ (0 : Int) = nL ma wr cl ho ∧ (2 : Int) = nE ma wr cl ho ∧ True) ∧ (¬(↑(0 : Nat) : Int) = (0 : Int) → (0 : Nat) < (1 : Nat) ∧ False))) ∧ (¬(↑(susL (t12 (tal (csD (dlOf cl.n fun (k : Nat) => SV.agg [SV.dec (cl.g k).p (cl.g k).i, i6 (cl.su k), i6 (cl.ca k)])) cl.n)) wr ma.toNat).length : Int) = (1 : Int) → (0 : Nat) < (1 : Nat) ∧ (0 : Nat) < (1 : Nat) ∧ (¬(0 : Int) = (0 : Int) → (0 : Int) = nI ma wr cl ho ∧ (0 : Int) = nL ma wr cl ho ∧ (0 : Int) = nE ma wr cl ho ∧ True) ∧ (¬¬(0 : Int) = (0 : Int) → (0 : Nat) < (1 : Nat) ∧ ((↑ho.1 : Int) = (0 : Int) → (0 : Int) = nI ma wr cl ho ∧ (0 : Int) = nL ma wr cl ho ∧ (2 : Int) = nE ma wr cl ho ∧ True) ∧ (¬(↑ho.1 : Int) = (0 : Int) →
 (0 : Nat) < (1 : Nat) ∧ (∀ (i : Nat), i < ho.1 → (True ∧ (tt4) ∧ True) ∧ (True ∧ (tt4) ∧ True) ∧ True) ∧ ((1 : Int) ≤ ma ∧ ma ≤ (12 : Int)) ∧ okT (t12 (tal (csD (dlOf cl.n fun (k : Nat) => SV.agg [SV.dec (cl.g k).p (cl.g k).i, i6 (cl.su k), i6 (cl.ca k)])) cl.n)) ∧ (SV.lst (2 : Nat) (csD (dlOf ho.n fun (k : Nat) => SV.agg [SV.dec (ho.g k).p (ho.g k).i, i6 (ho.su k), i6 (ho.ca k)])).n fun (k : Nat) => SV.agg [SV.clo (Fn.func (57 : FuncId)) [] [SV.ipt [SV.bool true, i6 ((csD (dlOf ho.n fun (k : Nat) => SV.agg [SV.dec (ho.g k).p (ho.g k).i, i6 (ho.su k), i6 (ho.ca k)])).su k), i6 ((csD (dlOf ho.n fun (k : Nat) => SV.agg [SV.dec (ho.g k).p (ho.g k).i, i6 (ho.su k), i6 (ho.ca k)])).ca k)]], SV.clo (Fn.func (58 : FuncId)) [] [SV.ipt [SV.bool false, i6 ((csD (dlOf ho.n fun (k : Nat) => SV.agg [SV.dec (ho.g k).p (ho.g k).i, i6 (ho.su k), i6 (ho.ca k)])).su k), i6 ((csD (dlOf ho.n fun (k : Nat)
 => SV.agg [SV.dec (ho.g k).p (ho.g k).i, i6 (ho.su k), i6 (ho.ca k)])).ca k)]]]) = hoV (hoOf (csD (dlOf ho.n fun (k : Nat) => SV.agg [SV.dec (ho.g k).p (ho.g k).i, i6 (ho.su k), i6 (ho.ca k)])).n fun (k : Nat) => SV.agg [SV.clo (Fn.func (57 : FuncId)) [] [SV.ipt [SV.bool true, i6 ((csD (dlOf ho.n fun (k : Nat) => SV.agg [SV.dec (ho.g k).p (ho.g k).i, i6 (ho.su k), i6 (ho.ca k)])).su k), i6 ((csD (dlOf ho.n fun (k : Nat) => SV.agg [SV.dec (ho.g k).p (ho.g k).i, i6 (ho.su k), i6 (ho.ca k)])).ca k)]], SV.clo (Fn.func (58 : FuncId)) [] [SV.ipt [SV.bool false, i6 ((csD (dlOf ho.n fun (k : Nat) => SV.agg [SV.dec (ho.g k).p (ho.g k).i, i6 (ho.su k), i6 (ho.ca k)])).su k), i6 ((csD (dlOf ho.n fun (k : Nat) => SV.agg [SV.dec (ho.g k).p (ho.g k).i, i6 (ho.su k), i6 (ho.ca k)])).ca k)]]]) ∧ ho.1 ≤ (12 : Nat) ∧ (↑(leI (most ma wr (t12 (tal (csD (dlOf cl.n fun (k : Nat) => SV.agg [SV.dec (cl.g k).p
 (cl.g k).i, i6 (cl.su k), i6 (cl.ca k)])) cl.n)) (hoOf (csD (dlOf ho.n fun (k : Nat) => SV.agg [SV.dec (ho.g k).p (ho.g k).i, i6 (ho.su k), i6 (ho.ca k)])).n fun (k : Nat) => SV.agg [SV.clo (Fn.func (57 : FuncId)) [] [SV.ipt [SV.bool true, i6 ((csD (dlOf ho.n fun (k : Nat) => SV.agg [SV.dec (ho.g k).p (ho.g k).i, i6 (ho.su k), i6 (ho.ca k)])).su k), i6 ((csD (dlOf ho.n fun (k : Nat) => SV.agg [SV.dec (ho.g k).p (ho.g k).i, i6 (ho.su k), i6 (ho.ca k)])).ca k)]], SV.clo (Fn.func (58 : FuncId)) [] [SV.ipt [SV.bool false, i6 ((csD (dlOf ho.n fun (k : Nat) => SV.agg [SV.dec (ho.g k).p (ho.g k).i, i6 (ho.su k), i6 (ho.ca k)])).su k), i6 ((csD (dlOf ho.n fun (k : Nat) => SV.agg [SV.dec (ho.g k).p (ho.g k).i, i6 (ho.su k), i6 (ho.ca k)])).ca k)]]])) ho.1) : Int) = nI ma wr cl ho ∧ (if ho.1 = (0 : Nat) then (0 : Int) else most ma wr (t12 (tal (csD (dlOf cl.n fun (k : Nat) => SV.agg [SV.dec (cl.g
 k).p (cl.g k).i, i6 (cl.su k), i6 (cl.ca k)])) cl.n)) (hoOf (csD (dlOf ho.n fun (k : Nat) => SV.agg [SV.dec (ho.g k).p (ho.g k).i, i6 (ho.su k), i6 (ho.ca k)])).n fun (k : Nat) => SV.agg [SV.clo (Fn.func (57 : FuncId)) [] [SV.ipt [SV.bool true, i6 ((csD (dlOf ho.n fun (k : Nat) => SV.agg [SV.dec (ho.g k).p (ho.g k).i, i6 (ho.su k), i6 (ho.ca k)])).su k), i6 ((csD (dlOf ho.n fun (k : Nat) => SV.agg [SV.dec (ho.g k).p (ho.g k).i, i6 (ho.su k), i6 (ho.ca k)])).ca k)]], SV.clo (Fn.func (58 : FuncId)) [] [SV.ipt [SV.bool false, i6 ((csD (dlOf ho.n fun (k : Nat) => SV.agg [SV.dec (ho.g k).p (ho.g k).i, i6 (ho.su k), i6 (ho.ca k)])).su k), i6 ((csD (dlOf ho.n fun (k : Nat) => SV.agg [SV.dec (ho.g k).p (ho.g k).i, i6 (ho.su k), i6 (ho.ca k)])).ca k)]]]) (leI (most ma wr (t12 (tal (csD (dlOf cl.n fun (k : Nat) => SV.agg [SV.dec (cl.g k).p (cl.g k).i, i6 (cl.su k), i6 (cl.ca k)])) cl.n)) (hoOf
 (csD (dlOf ho.n fun (k : Nat) => SV.agg [SV.dec (ho.g k).p (ho.g k).i, i6 (ho.su k), i6 (ho.ca k)])).n fun (k : Nat) => SV.agg [SV.clo (Fn.func (57 : FuncId)) [] [SV.ipt [SV.bool true, i6 ((csD (dlOf ho.n fun (k : Nat) => SV.agg [SV.dec (ho.g k).p (ho.g k).i, i6 (ho.su k), i6 (ho.ca k)])).su k), i6 ((csD (dlOf ho.n fun (k : Nat) => SV.agg [SV.dec (ho.g k).p (ho.g k).i, i6 (ho.su k), i6 (ho.ca k)])).ca k)]], SV.clo (Fn.func (58 : FuncId)) [] [SV.ipt [SV.bool false, i6 ((csD (dlOf ho.n fun (k : Nat) => SV.agg [SV.dec (ho.g k).p (ho.g k).i, i6 (ho.su k), i6 (ho.ca k)])).su k), i6 ((csD (dlOf ho.n fun (k : Nat) => SV.agg [SV.dec (ho.g k).p (ho.g k).i, i6 (ho.su k), i6 (ho.ca k)])).ca k)]]])) ho.1)) = nL ma wr cl ho ∧ (0 : Int) = nE ma wr cl ho ∧ True)))))) := by kernel_rfl
def wthG0 (c : Dl) (p : Prop) (i : Decidable p) (su : Int) (ca : Int) (b : Bool) : Prop := (True ∧ True ∧ (0 : Nat) < (1 : Nat) ∧ True ∧ True ∧ True ∧ True ∧ True ∧ True ∧ True ∧ (∀ (i : Nat), i < (1 : Nat) → rE true) ∧ rE (0 : Nat) ∧ rE ((0 : Nat) + c.1) ∧ (∀ (i : Nat), rE true) ∧ ((0 : Nat) + c.1 + (1 : Nat)) * (24 : Nat) ≤ (140737488355328 : Nat) ∧ (0 : Nat) + c.1 + (1 : Nat) ≤ (4611686018427387904 : Nat) ∧ True ∧ True ∧ True ∧ rE (0 : Nat) ∧ (0 : Nat) + c.1 + (1 : Nat) = c.1 + (1 : Nat) ∧ (p ↔ p) ∧ su = su ∧ ca = ca ∧ c.1 + (1 : Nat) = (0 : Nat) + c.1 + (1 : Nat) ∧ (∀ (i : Nat), i < c.1 + (1 : Nat) → rE (3 : Nat) ∧ (i < (0 : Nat) + c.n ∧ (i < (0 : Nat) ∧ false = true ∨ ¬i < (0 : Nat) ∧ (c.g (i - (0 : Nat))).p) ∨ ¬i < (0 : Nat) + c.n ∧ b = true ↔ ((wiD c b su ca).g i).1) ∧ ((if i < (0 : Nat) + c.1 then if i < (0 : Nat) then (0 : Int) else c.3 (i - (0 : Nat)) else su) = if i < c.1 then c.3 i else su) ∧ ((if i < (0 : Nat) + c.1 then if i < (0 : Nat) then (0 : Int) else c.4 (i - (0 : Nat)) else ca) = if i < c.1 then c.4 i else ca) ∧ True) ∧ True)
def wthG1 (c : Dl) (p : Prop) (i : Decidable p) (su : Int) (ca : Int) (b : Bool) : Prop := (True ∧ True ∧ (0 : Nat) < (1 : Nat) ∧ (True ∧ True ∧ True ∧ True ∧ (∀ (i : Nat), i < c.1 → rE true) ∧ rE (0 : Nat) ∧ rE (0 : Nat) ∧ (∀ (i : Nat), rE true) ∧ ((0 : Nat) + c.1) * (24 : Nat) ≤ (140737488355328 : Nat) ∧ (0 : Nat) + c.1 ≤ (4611686018427387904 : Nat) ∧ (wthG0 c p i su ca b) ∧ True) ∧ (True ∧ True ∧ (0 : Nat) < (1 : Nat) ∧ True ∧ True ∧ True ∧ True ∧ True ∧ (True ∧ True ∧ True ∧ True ∧ (∀ (i : Nat), i < c.1 → rE true) ∧ rE (0 : Nat) ∧ rE (0 : Nat) ∧ (∀ (i : Nat), rE true) ∧ ((0 : Nat) + c.1) * (24 : Nat) ≤ (140737488355328 : Nat) ∧ (0 : Nat) + c.1 ≤ (4611686018427387904 : Nat) ∧ True ∧ True ∧ (∀ (i : Nat), i < (1 : Nat) → rE true) ∧ rE (0 : Nat) ∧ rE ((0 : Nat) + c.1) ∧ (∀ (i : Nat), rE true) ∧ ((0 : Nat) + c.1 + (1 : Nat)) * (24 : Nat) ≤ (140737488355328 : Nat) ∧ (0 : Nat) + c.1 + (1 : Nat) ≤ (4611686018427387904 : Nat) ∧ True ∧ True ∧ True ∧ rE (0 : Nat) ∧ (0 : Nat) + c.1 + (1 : Nat) = c.1 + (1 : Nat) ∧ (p ↔ p) ∧ su = su ∧ ca = ca ∧ c.1 + (1 : Nat) = (0 : Nat) + c.1 + (1 : Nat) ∧ (∀ (i : Nat), i < c.1 + (1 : Nat) → rE (3 : Nat) ∧ (i < (0 : Nat) + c.n ∧ (i < (0 : Nat) ∧ false = true ∨ ¬i < (0 : Nat) ∧ (c.g (i - (0 : Nat))).p) ∨ ¬i < (0 : Nat) + c.n ∧ b = true ↔ ((wiD c b su ca).g i).1) ∧ ((if i < (0 : Nat) + c.1 then if i < (0 : Nat) then (0 : Int) else c.3 (i - (0 : Nat)) else su) = if i < c.1 then c.3 i else su) ∧ ((if i < (0 : Nat) + c.1 then if i < (0 : Nat) then (0 : Int) else c.4 (i - (0 : Nat)) else ca) = if i < c.1 then c.4 i else ca) ∧ True) ∧ True) ∧ True) ∧ True)
theorem wthG_vc (c : Dl) (p : Prop) (i : Decidable p) (su : Int) (ca : Int) (b : Bool) : wthG c p i su ca b = ((True ∧ True ∧ True ∧ True ∧ True ∧ True ∧ True ∧ True ∧ (True ∧ True ∧ True ∧ True ∧ (∀ (i : Nat), i < c.1 → rE true) ∧ rE (0 : Nat) ∧ rE (0 : Nat) ∧ (∀ (i : Nat), rE true) ∧ ((0 : Nat) + c.1) * (24 : Nat) ≤ (140737488355328 : Nat) ∧ (0 : Nat) + c.1 ≤ (4611686018427387904 : Nat) ∧ (True ∧ True ∧ (0 : Nat) < (1 : Nat) ∧ (wthG0 c p i su ca b) ∧ True) ∧ (True ∧ True ∧ (0 : Nat) < (1 : Nat) ∧ (wthG0 c p i su ca b) ∧ True) ∧ True) ∧ (wthG1 c p i su ca b) ∧ (wthG1 c p i su ca b) ∧ True) ∧ ∀ (z : Unit), True → rE (c.1 + (1 : Nat)) ∧ (0 : Nat) + (c.1 + (1 : Nat)) ≤ c.1 + (1 : Nat) ∧ (∀ (i : Nat), i < c.1 + (1 : Nat) → rE (3 : Nat) ∧ rE (3 : Nat) ∧ (((wiD c b su ca).g (i + (0 : Nat))).1 ↔ ((wiD c b su ca).g i).1) ∧ ((if i + (0 : Nat) < c.1 then c.3 (i + (0 : Nat)) else su) = if i < c.1 then c.3 i else su) ∧ ((if i + (0 : Nat) < c.1 then c.4 (i + (0 : Nat)) else ca) = if i < c.1 then c.4 i else
 ca) ∧ True) ∧ True) := by kernel_rfl
end Go.Proofs.Ytfjfnpknlkonnaa

set_option maxRecDepth 100000
namespace Go.Proofs.Ytfjfnpknlkonnaa
open Go Go.Lg
attribute [local irreducible] funS bodyH
theorem wiD_g (c : Dl) (b : Bool) (su ca : Int) (i : Nat) : ((wiD c b su ca).g i).1 ↔ (i < c.n ∧ (c.g i).p ∨ ¬ i < c.n ∧ b = true) := by
  unfold wiD
  simp only
  by_cases h : i < c.n
  · simp [h]
  · simp [h]
theorem wth_true {c : Dl} {p : Prop} {i : Decidable p} {su ca : Int} {b : Bool} (hn : c.n ≤ 1000) : wthG c p i su ca b := by
  rw [wthG_vc]
  have e0 : c.1 = c.n := rfl
  simp only [wthG0, wthG1, rI, rE, tt3, tt4, tt5, tt13, tt14, t12, and_true, true_and, and_self, implies_true, Nat.zero_lt_one, Nat.zero_add, Nat.add_zero, Nat.not_lt_zero, false_and, false_or, not_false_eq_true, Nat.sub_zero, if_false, wiD_g]
  exact ⟨⟨by omega, by omega, by omega, by omega⟩, fun _ _ => Nat.le_refl _⟩
theorem wth_does {c : Dl} {p : Prop} {i : Decidable p} {su ca : Int} {b : Bool} (hn : c.n ≤ 1000) : Does Try.prog 30 false (SV.denL [c.sv, .agg [.dec p i, i6 su, i6 ca], .bool b]) (wiD c b su ca).sv.den := by
  have hh := wth_true (p := p) (i := i) (su := su) (ca := ca) (b := b) hn
  unfold wthG at hh
  exact funH_does nilS_cs nilS_x nilS_ic mixed hh
theorem most12 {ma wr : Int} (t : Nat → Int) {h h' : Cs} (hm : ma ≤ 12) (e1 : h'.su = h.su) (e2 : h'.ca = h.ca) : most ma wr (f12 (t 0) (t 1) (t 2) (t 3) (t 4) (t 5) (t 6) (t 7) (t 8) (t 9) (t 10) (t 11)) h' = most ma wr t h := by
  have L : ∀ b k, lef ma wr (f12 (t 0) (t 1) (t 2) (t 3) (t 4) (t 5) (t 6) (t 7) (t 8) (t 9) (t 10) (t 11)) b h' k = lef ma wr t b h k := fun b k => by
    unfold lef wtC
    rw [e1, e2]
    exact congrArg List.length (susL_congr fun i hi => wt12 t _ (by omega))
  funext k
  unfold most
  rw [L, L]
theorem nex_true {ma wr : Int} {cl ho : Dl} : nexG ma wr cl ho := by
  rw [nexG_vc]
  simp only [rI, rE, tt3, tt4, tt5, tt13, tt14, t12, and_true, true_and, Nat.zero_lt_one, and_self, implies_true, Classical.not_not, dl_fold, sv_fold, Int.natCast_zero, not_true_eq_false, false_implies, forall_const, not_false_eq_true]
  have Z : ∀ {e : Int}, ¬ e = 0 → nE ma wr cl ho = e → 0 = nI ma wr cl ho ∧ 0 = nL ma wr cl ho ∧ e = nE ma wr cl ho := fun {e} h0 he => ⟨by rw [nI, if_neg (by omega)], by rw [nL, if_neg (by omega)], he.symm⟩
  refine ⟨fun h => ⟨fun h1 => Z h1 (by rw [nE, if_neg h]), fun h1 => absurd h1 (by decide)⟩, fun hk => ?_⟩
  have hm := hk.hm
  have C := sus12' (tal (csD cl) cl.n) wr hm.2
  have M := most12 (ma := ma) (wr := wr) (tal (csD cl) cl.n) (h := csD ho) (h' := hoOf (csD ho).n fun k => SV.agg [SV.clo (Fn.func 57) [] [SV.ipt [SV.bool true, i6 ((csD ho).su k), i6 ((csD ho).ca k)]], SV.clo (Fn.func 58) [] [SV.ipt [SV.bool false, i6 ((csD ho).su k), i6 ((csD ho).ca k)]]]) hm.2 rfl rfl
  rw [C, M]
  have eN : (susL (tal (csD cl) cl.n) wr ma.toNat).length = nuS ma wr cl := rfl
  rw [eN]
  refine ⟨hk.cn, hk.hn, hm, rfl, fun h => ⟨fun h1 => Z h1 (by rw [nE, if_pos hk, if_pos (by omega)]), fun h1 => absurd h1 (by decide)⟩, fun h => ⟨fun h2 => ⟨fun h1 => Z h1 (by rw [nE, if_pos hk, if_neg (by omega), if_pos (by omega)]), fun h1 => absurd h1 (by decide)⟩, fun h2 => ⟨fun h3 => Z (by decide) (by rw [nE, if_pos hk, if_neg (by omega), if_neg (by omega), if_pos (by omega)]), fun h3 => ?_⟩⟩⟩
  have e0 : nE ma wr cl ho = 0 := by rw [nE, if_pos hk, if_neg (by omega), if_neg (by omega), if_neg (by omega)]
  refine ⟨hm, tal_ok (csD cl) (z := cl.n) (by have := hk.cn; omega), rfl, hk.hn, by rw [nI, if_pos e0]; rfl, ?_, e0.symm⟩
  rw [nL, if_pos e0, if_neg (by omega)]; rfl
theorem csY_ok : SoundS Try.prog csY := ctrsF_sound (ctrs_sound (by intro x hx; simp at hx; subst hx; exact vs_ok)) (by
  intro x hx
  simp at hx
  rcases hx with rfl | rfl
  · exact new_ok
  · exact cnt_ok)
theorem nxt_cs : SoundS Try.prog (ctrs [nxtC]) := ctrs_sound (by intro x hx; simp at hx; subst hx; exact nxt_ok)
theorem nex_does {ma wr : Int} {cl ho : Dl} : Does Try.prog 17 true (SV.denL [sqV ma wr cl ho]) (SV.tup [i6 (nI ma wr cl ho), i6 (nL ma wr cl ho), i6 (nE ma wr cl ho)]).den := by
  have hh := nex_true (ma := ma) (wr := wr) (cl := cl) (ho := ho)
  unfold nexG begX at hh
  exact Does.plain (funH_does nxt_cs (inl_sound (ys := none) csY_ok noX_sound trivial nilS_ic mixed) nilS_ic mixed hh) ⟨trivial, trivial, trivial, trivial⟩
noncomputable def wthC : Ctr := ⟨30, fun args k => match args with
  | [.lst 3 n f, .agg [.dec _ _, .int .i64 su, .int .i64 ca], .bool b] => SV.lst 3 n f = (dlOf n f).sv ∧ n ≤ 1000 ∧ k (wiD (dlOf n f) b su ca).sv
  | _ => False⟩
theorem wth_ok : wthC.OkF Try.prog := by
  refine ⟨by kernel_rfl, fun x k hk => ?_⟩
  simp only [wthC] at hk
  split at hk
  · rename_i n f p i su ca b
    obtain ⟨hf, hn, hk⟩ := hk
    refine ⟨_, ?_, hk⟩
    rw [hf]
    exact wth_does (c := dlOf n f) hn
  · exact hk.elim
noncomputable def mrX (ma wr : Int) (cl ho : Dl) (k : Nat) : Int := max (rsN (wiD cl true (ho.su k) (ho.ca k)) wr ma.toNat : Int) (rsN (wiD cl false (ho.su k) (ho.ca k)) wr ma.toNat : Int)
noncomputable def csW : CSpec := ctrsF [wthC] (ctrs [seC, rsC])
noncomputable def rnxG (ma wr : Int) (cl ho : Dl) : Prop := funH Try.prog csW noX (ictrs []) (oneL 0 (natH (fun z => z ≤ ho.n) (fun z => ho.n - z) 1
  (fun z => mkF 79 [(1, .ptr 0 0 0), (7, i6 (leI (mrX ma wr cl ho) z)), (8, i6 (if z = 0 then ma + 1 else mrX ma wr cl ho (leI (mrX ma wr cl ho) z))), (9, i6 z)]) (fun _ => mkX [vr 4 (sqV ma wr cl ho)]) fun _ => none)) noL 18 [sqV ma wr cl ho] (.tup [i6 (nI ma wr cl ho), i6 (nL ma wr cl ho), i6 (nE ma wr cl ho)])
end Go.Proofs.Ytfjfnpknlkonnaa

set_option maxRecDepth 100000
namespace Go.Proofs.Ytfjfnpknlkonnaa
open Go Go.Lg
end Go.Proofs.Ytfjfnpknlkonnaa

set_option maxRecDepth 100000
namespace Go.Proofs.Ytfjfnpknlkonnaa
open Go Go.Lg
attribute [local irreducible] funS bodyH
theorem wi_fold (c : Dl) (b : Bool) (su ca : Int) : (SV.lst 3 (c.n + 1) fun k => SV.agg [SV.dec ((wiD c b su ca).g k).p ((wiD c b su ca).g k).i, i6 ((wiD c b su ca).su k), i6 ((wiD c b su ca).ca k)]) = (wiD c b su ca).sv := rfl
theorem wiD_rf (c : Dl) (b : Bool) (su ca : Int) (i : Int) : ∀ k, k ≤ c.n → rfN (wiD c b su ca) i k = rfN c i k
  | 0, _ => rfl
  | k + 1, h => by
    have ih := wiD_rf c b su ca i k (by omega)
    have hk : k < c.n := by omega
    have e1 : ((wiD c b su ca).g k) = c.g k := if_pos hk
    have e2 : ((wiD c b su ca).su k) = c.su k := if_pos hk
    have e3 : ((wiD c b su ca).ca k) = c.ca k := if_pos hk
    have e : spP ((wiD c b su ca).g k).p ((wiD c b su ca).su k) ((wiD c b su ca).ca k) i ↔ spP (c.g k).p (c.su k) (c.ca k) i := by rw [e1, e2, e3]
    simp only [rfN, ih]
    by_cases hs : spP (c.g k).p (c.su k) (c.ca k) i
    · rw [if_pos hs, if_pos (e.2 hs)]
    · rw [if_neg hs, if_neg fun x => hs (e.1 x)]
theorem wiD_last (c : Dl) (b : Bool) (su ca : Int) : (((wiD c b su ca).g c.n).p ↔ b = true) ∧ (wiD c b su ca).su c.n = su ∧ (wiD c b su ca).ca c.n = ca := by
  refine ⟨?_, if_neg (Nat.lt_irrefl _), if_neg (Nat.lt_irrefl _)⟩
  have := wiD_g c b su ca c.n
  rw [show ((wiD c b su ca).g c.n).p ↔ _ from this]
  simp
theorem spP_congr {p q : Prop} {su ca n : Int} (h : p ↔ q) : spP p su ca n ↔ spP q su ca n := by unfold spP; rw [h]
theorem wt_rf {ma : Int} {cl : Dl} {b : Bool} {su ca : Int} (hc : okB cl) (h1 : 0 ≤ su ∧ su < 2 ^ 63) (h2 : 0 ≤ ca ∧ ca < 2 ^ 63) {i : Nat} (hi : i < 12) : wtC (tal (csD cl) cl.n) b su ca i = (rfN (wiD cl b su ca) i (cl.n + 1) : Int) := by
  unfold wtC wt
  rw [if_pos hi, tal_rf hc i cl.n (Nat.le_refl _)]
  obtain ⟨l1, l2, l3⟩ := wiD_last cl b su ca
  simp only [rfN, wiD_rf cl b su ca i cl.n (Nat.le_refl _)]
  have e : agP ⟨b, su, ca⟩ i ↔ spP ((wiD cl b su ca).g cl.n).p ((wiD cl b su ca).su cl.n) ((wiD cl b su ca).ca cl.n) i := by
    have := agsp (p := b = true) (i := inferInstance) (n := i) h1 h2
    rw [Bool.decide_eq_true] at this
    rw [l2, l3]
    exact this.trans (spP_congr l1.symm)
  unfold agN
  by_cases hs : spP ((wiD cl b su ca).g cl.n).p ((wiD cl b su ca).su cl.n) ((wiD cl b su ca).ca cl.n) i
  · rw [if_pos hs, if_pos (e.2 hs)]; omega
  · rw [if_neg hs, if_neg fun hh => hs (e.1 hh)]; omega
theorem lef_rs {ma wr : Int} {cl ho : Dl} (hm : ma ≤ 12) (hc : okB cl) (hh : okB ho) (b : Bool) {k : Nat} (hk : k < ho.n) : lef ma wr (tal (csD cl) cl.n) b (csD ho) k = rsN (wiD cl b (ho.su k) (ho.ca k)) wr ma.toNat := by
  have := sus_n (t := fun i => (rfN (wiD cl b (ho.su k) (ho.ca k)) i (cl.n + 1) : Int)) (c := wiD cl b (ho.su k) (ho.ca k)) (wr := wr) (fun i => rfl) ma.toNat
  rw [← this]
  unfold lef
  exact congrArg List.length (susL_congr fun i hi => wt_rf (ma := ma) hc (hh.su k hk) (hh.ca k hk) (by omega))
theorem mo_mr {ma wr : Int} {cl ho : Dl} (hm : ma ≤ 12) (hc : okB cl) (hh : okB ho) {k : Nat} (hk : k < ho.n) : moX ma wr cl ho k = mrX ma wr cl ho k := by
  unfold moX most mrX
  rw [lef_rs hm hc hh true hk, lef_rs hm hc hh false hk]
  omega
theorem nu_rs {ma wr : Int} {cl : Dl} (hc : okB cl) : nuS ma wr cl = rsN cl wr ma.toNat := sus_n (t := tal (csD cl) cl.n) (fun i => tal_rf hc i cl.n (Nat.le_refl _)) ma.toNat
theorem wiD_ok {c : Dl} {b : Bool} {su ca : Int} (h : okD c) (h1 : i64P su) (h2 : i64P ca) : okD (wiD c b su ca) := by
  refine ⟨fun k => ?_, fun k => ?_⟩
  · show i64P (if k < c.n then c.su k else su)
    split
    · exact h.su k
    · exact h1
  · show i64P (if k < c.n then c.ca k else ca)
    split
    · exact h.ca k
    · exact h2
end Go.Proofs.Ytfjfnpknlkonnaa
