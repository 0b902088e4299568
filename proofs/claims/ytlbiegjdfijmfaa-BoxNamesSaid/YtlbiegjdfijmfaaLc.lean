import Derived.Test.YtlbiegjdfijmfaaLb
set_option linter.unusedVariables false
namespace Go.Lg
variable {P : Program}

def inR (k : IntKind) (z : Int) : Prop := k.min ≤ z ∧ z ≤ k.max
theorem wrap_inR {k : IntKind} {z : Int} (h : inR k z) : k.wrap z = z := by
  unfold inR at h
  cases k <;> simp [IntKind.min, IntKind.max, IntKind.signed, IntKind.bits] at h
  · exact IntWalk.i8_in _ (by omega)
  · exact IntWalk.i16_in _ (by omega)
  · exact IntWalk.i32_in _ (by omega)
  · exact IntWalk.i64_in _ (by omega)
  · exact IntWalk.u8_in _ (by omega)
  · exact IntWalk.u16_in _ (by omega)
  · exact IntWalk.u32_in _ (by omega)
  · exact IntWalk.u64_in _ (by omega)

def aBinGen (P : Program) (op : BinOp) (t : TypeId) (x y : Operand) (a b : AV) (v : AV) : Prop :=
  ∃ va vb u, toV a = some va ∧ toV b = some vb ∧ (do eqGuard op t x y va vb; binOp op t va vb : Sem Value).pv P = some u ∧ v = ofV u

def aBinInt (P : Program) (op : BinOp) (t : TypeId) (x y : Operand) (k : IntKind) (m : Int) (k' : IntKind) (n : Int) (v : AV) : Prop :=
  match op with
  | .add => k' = k ∧ inR k (m + n) ∧ v = .sc (.int k (m + n))
  | .sub => k' = k ∧ inR k (m - n) ∧ v = .sc (.int k (m - n))
  | .mul => k' = k ∧ inR k (m * n) ∧ v = .sc (.int k (m * n))
  | .quo => k' = k ∧ n ≠ 0 ∧ inR k (m.tdiv n) ∧ v = .sc (.int k (m.tdiv n))
  | .rem => k' = k ∧ n ≠ 0 ∧ v = .sc (.int k (m.tmod n))
  | .eql => k' = k ∧ v = .sc (.bool (decide (m = n)))
  | .neq => k' = k ∧ v = .sc (.bool (!decide (m = n)))
  | .lss => k' = k ∧ v = .sc (.bool (decide (m < n)))
  | .leq => k' = k ∧ v = .sc (.bool (decide (m ≤ n)))
  | .gtr => k' = k ∧ v = .sc (.bool (decide (n < m)))
  | .geq => k' = k ∧ v = .sc (.bool (decide (n ≤ m)))
  | op => aBinGen P op t x y (.sc (.int k m)) (.sc (.int k' n)) v

def aBin (P : Program) (op : BinOp) (t : TypeId) (x y : Operand) (a b : AV) (v : AV) : Prop :=
  match a, b with
  | .sc (.int k m), .sc (.int k' n) => aBinInt P op t x y k m k' n v
  | a, b => aBinGen P op t x y a b v

theorem eqGuard_int (op : BinOp) (t : TypeId) (x y : Operand) (k k' : IntKind) (m n : Int) (w : World) :
    (eqGuard op t x y (.int k m) (.int k' n)).run P w = .ok () w := by
  unfold eqGuard
  cases op <;> rfl

theorem aBinGen_run {op t x y a b v} {c I N β va vb} (h : aBinGen P op t x y a b v) (ha : Rel c I N β a va) (hb : Rel c I N β b vb) (w : World) :
    ∃ u, (do eqGuard op t x y va vb; binOp op t va vb : Sem Value).run P w = .ok u w ∧ ∀ c I N β, Rel c I N β v u := by
  obtain ⟨va', vb', u, h1, h2, h3, rfl⟩ := h
  have e1 := toV_spec h1 ha
  have e2 := toV_spec h2 hb
  subst e1 e2
  exact ⟨u, run_of_pv h3 w, fun _ _ _ _ => ofV_rel _ _ _ _ _⟩

theorem aBin_run {op t x y a b v} {c I N β va vb} (h : aBin P op t x y a b v) (ha : Rel c I N β a va) (hb : Rel c I N β b vb) (w : World) :
    ∃ u, (do eqGuard op t x y va vb; binOp op t va vb : Sem Value).run P w = .ok u w ∧ ∀ c I N β, Rel c I N β v u := by
  unfold aBin at h
  split at h
  · rename_i k m k' n
    cases ha; cases hb
    cases op <;> simp only [aBinInt] at h
    case add => obtain ⟨rfl, hr, rfl⟩ := h; exact ⟨_, by simp [eqGuard_int, binOp, Op.intArith, wrap_inR hr], fun _ _ _ _ => .sc _⟩
    case sub => obtain ⟨rfl, hr, rfl⟩ := h; exact ⟨_, by simp [eqGuard_int, binOp, Op.intArith, wrap_inR hr], fun _ _ _ _ => .sc _⟩
    case mul => obtain ⟨rfl, hr, rfl⟩ := h; exact ⟨_, by simp [eqGuard_int, binOp, Op.intArith, wrap_inR hr], fun _ _ _ _ => .sc _⟩
    case quo => obtain ⟨rfl, hn, hr, rfl⟩ := h; exact ⟨_, by simp [eqGuard_int, binOp, Op.intDiv, hn, wrap_inR hr], fun _ _ _ _ => .sc _⟩
    case rem => obtain ⟨rfl, hn, rfl⟩ := h; exact ⟨_, by simp [eqGuard_int, binOp, Op.intDiv, hn], fun _ _ _ _ => .sc _⟩
    case eql => obtain ⟨rfl, rfl⟩ := h; exact ⟨.bool (decide (m = n)), by simp [eqGuard_int, binOp, Op.intCmp]; rfl, fun _ _ _ _ => .sc _⟩
    case neq => obtain ⟨rfl, rfl⟩ := h; exact ⟨.bool (!decide (m = n)), by simp [eqGuard_int, binOp, Op.intCmp]; rfl, fun _ _ _ _ => .sc _⟩
    case lss => obtain ⟨rfl, rfl⟩ := h; exact ⟨.bool (decide (m < n)), by simp [eqGuard_int, binOp, Op.intCmp], fun _ _ _ _ => .sc _⟩
    case leq => obtain ⟨rfl, rfl⟩ := h; exact ⟨.bool (decide (m ≤ n)), by simp [eqGuard_int, binOp, Op.intCmp], fun _ _ _ _ => .sc _⟩
    case gtr => obtain ⟨rfl, rfl⟩ := h; exact ⟨.bool (decide (n < m)), by simp [eqGuard_int, binOp, Op.intCmp], fun _ _ _ _ => .sc _⟩
    case geq => obtain ⟨rfl, rfl⟩ := h; exact ⟨.bool (decide (n ≤ m)), by simp [eqGuard_int, binOp, Op.intCmp], fun _ _ _ _ => .sc _⟩
    all_goals exact aBinGen_run (c := c) (I := I) (N := N) (β := β) h (.sc _) (.sc _) w
  · exact aBinGen_run h ha hb w

def aLoad (P : Program) (t : TypeId) (x : AV) (ρ : Store) (v : AV) : Prop :=
  match x with
  | .ptr r i j => ∃ R, ρ[r]? = some (some R) ∧ i < R.els.length ∧ pack P t ((R.els.getD i .any).cells.drop j) = some v
  | .iptr cs => pack P t cs = some v
  | _ => False

def aFieldAddr (P : Program) (s : TypeId) (x : AV) (f : Nat) (v : AV) : Prop :=
  match P.underlying s with
  | some (.struct fs) => match fs[f]? with
    | some fd => known P fd.type = true ∧ P.cellsOf fd.type ≠ 0 ∧ (match x with
      | .ptr r i j => v = .ptr r i (j + fd.offset)
      | .iptr cs => v = .iptr (cs.drop fd.offset)
      | _ => False)
    | none => False
  | _ => False

def aField (P : Program) (s : TypeId) (x : AV) (f : Nat) (v : AV) : Prop :=
  match P.underlying s with
  | some (.struct fs) => match fs[f]? with
    | some fd => (match x with
      | .agg cs => pack P fd.type (cs.drop fd.offset) = some v
      | _ => False)
    | none => False
  | _ => False

def aIndexAddr (P : Program) (t : TypeId) (x i : AV) (ρ : Store) (v : AV) : Prop :=
  match i with
  | .sc (.int _ n) => match P.underlying t with
    | some (.slice e) => known P e = true ∧ (match x with
      | .isl sz L => P.cellsOf e = sz ∧ 0 ≤ n ∧ n < L.length ∧ v = .iptr (L.getD n.toNat .any).cells
      | .sl r o m => ∃ R, ρ[r]? = some (some R) ∧ R.sz = P.cellsOf e ∧ 0 ≤ n ∧ n < m ∧ v = .ptr r (o + n.toNat) 0
      | .sub r i j sz m => P.cellsOf e = sz ∧ 0 ≤ n ∧ n < m ∧ v = .ptr r i (j + n.toNat * sz)
      | _ => False)
    | some (.array len e) => known P e = true ∧ 0 ≤ n ∧ n < len ∧ (match x with
      | .ptr r i j => v = .ptr r i (j + n.toNat * P.cellsOf e)
      | .iptr cs => v = .iptr (cs.drop (n.toNat * P.cellsOf e))
      | _ => False)
    | _ => False
  | _ => False

def aIndex (P : Program) (t : TypeId) (x i : AV) (v : AV) : Prop :=
  match i with
  | .sc (.int _ n) => match P.underlying t with
    | some (.array len e) => known P e = true ∧ 0 ≤ n ∧ n < len ∧ (match x with
      | .agg cs => pack P e (cs.drop (n.toNat * P.cellsOf e)) = some v
      | _ => False)
    | some .string => (match x with
      | .sc (.string s) => ∃ b, 0 ≤ n ∧ s[n.toNat]? = some b ∧ v = .sc (.int .u8 b.toNat)
      | _ => False)
    | _ => False
  | _ => False

def boundOf (b : Option AV) (dflt : Int) : Option Int := match b with
  | none => some dflt
  | some (.sc (.int _ n)) => some n
  | _ => none

def aSlice (P : Program) (t : TypeId) (x : AV) (lo hi : Option AV) (v : AV) : Prop :=
  match P.underlying t with
  | some (.slice e) => known P e = true ∧ (match x with
    | .isl sz L => P.cellsOf e = sz ∧ ∃ l h, boundOf lo 0 = some l ∧ boundOf hi L.length = some h ∧ 0 ≤ l ∧ l ≤ h ∧ h ≤ L.length ∧ v = .isl sz ((L.take h.toNat).drop l.toNat)
    | .sl r o n => ∃ l h, boundOf lo 0 = some l ∧ boundOf hi n = some h ∧ 0 ≤ l ∧ l ≤ h ∧ h ≤ n ∧ v = .sl r (o + l.toNat) (h - l).toNat
    | .sub r i j sz n => P.cellsOf e = sz ∧ ∃ l h, boundOf lo 0 = some l ∧ boundOf hi n = some h ∧ 0 ≤ l ∧ l ≤ h ∧ h ≤ n ∧ v = .sub r i (j + l.toNat * sz) sz (h - l).toNat
    | _ => False)
  | some (.array len e) => known P e = true ∧ ∃ l h, boundOf lo 0 = some l ∧ boundOf hi len = some h ∧ 0 ≤ l ∧ l ≤ h ∧ h ≤ len ∧ (match x with
    | .ptr r i j => v = .sub r i (j + l.toNat * P.cellsOf e) (P.cellsOf e) (h - l).toNat
    | .iptr cs => len * P.cellsOf e ≤ cs.length ∧ v = .isl (P.cellsOf e) ((List.range (h - l).toNat).map fun k => .agg ((cs.drop ((l.toNat + k) * P.cellsOf e)).take (P.cellsOf e)))
    | _ => False)
  | _ => False

theorem pack_known {t cs v} (h : pack P t cs = some v) : known P t = true := by
  unfold pack at h; split at h
  · assumption
  · cases h

theorem cells_of_ptr {w F I β ρ} (hs : SR w F I β ρ) {r i R l} (hr : ρ[r]? = some (some R)) (hl : β r = some l) (hi : i < R.els.length) (j : Nat) :
    ∀ k, k < ((R.els.getD i .any).cells.drop j).length → ∃ v, cellf w l.b (l.off + i * l.sz + j + k) = some v ∧ Rel (cellf w) I ρ.length β (((R.els.getD i .any).cells.drop j).getD k .any) v := by
  intro k hk
  obtain ⟨hz, hc⟩ := hs.cells r R l hr hl i hi
  have e := (hs.real r R l hr hl).1
  simp at hk
  obtain ⟨v, h1, h2⟩ := hc (j + k) (by simp at hz; omega)
  refine ⟨v, ?_, ?_⟩
  · rw [e, Nat.add_assoc]; exact h1
  · have : ((R.els.getD i .any).cells.drop j).getD k .any = (R.els.getD i .any).cells.getD (j + k) .any := by simp [List.getD, List.getElem?_drop]
    rw [this]; exact h2

theorem aLoad_run {t x ρ v} {w F I β vx} (h : aLoad P t x ρ v) (hs : SR w F I β ρ) (hx : Rel (cellf w) I ρ.length β x vx) :
    ∃ u, (Instr.loadAt t vx).run P w = .ok u w ∧ Rel (cellf w) I ρ.length β v u := by
  unfold aLoad at h
  split at h
  · rename_i r i j
    obtain ⟨R, hR, hi, hp⟩ := h
    cases hx with
    | ptr _ _ _ l hr hl =>
      have := run_loadVar' (P := P) hp (cells_of_ptr hs hR hl hi j)
      simpa [Instr.loadAt, Instr.sureAddr] using this
  · rename_i cs
    cases hx with
    | iptr _ b off vs hb hc hv =>
      have := run_loadVar' (P := P) (w := w) (b := b) (o := off) h (fun j hj => ⟨vs j, hc j hj, hv j hj⟩)
      simpa [Instr.loadAt, Instr.sureAddr] using this
  · exact h.elim

theorem aFieldAddr_run {s x f v} {w : World} {I N β vx} (h : aFieldAddr P s x f v) (hx : Rel (cellf w) I N β x vx) :
    ∃ u, (Instr.fieldAt s vx f).run P w = .ok u w ∧ Rel (cellf w) I N β v u := by
  unfold aFieldAddr at h
  split at h
  · rename_i fs hu
    split at h
    · rename_i fd hf
      obtain ⟨hk, hz, h⟩ := h
      have key : ∀ b o, (Instr.fieldAt s (.pointer (some ⟨b, o, none⟩)) f).run P w = .ok (.pointer (some ⟨b, o + fd.offset, none⟩)) w := by
        intro b o
        simp [Instr.fieldAt, run_underlying hu, hf, Instr.sureAddr, fieldPlace, run_sizeOf' hk, hz, add_none]
      split at h
      · subst h
        cases hx with
        | ptr _ _ _ l hr hl => exact ⟨_, key _ _, by rw [Nat.add_assoc]; exact .ptr _ _ _ l hr hl⟩
      · subst h
        cases hx with
        | iptr cs b off vs hb hc hv =>
          refine ⟨_, key _ _, ?_⟩
          refine .iptr _ b (off + fd.offset) (fun j => vs (fd.offset + j)) hb (fun j hj => ?_) (fun j hj => ?_)
          · simp at hj; rw [Nat.add_assoc]; exact hc _ (by omega)
          · simp at hj
            have := hv (fd.offset + j) (by omega)
            simpa [List.getD, List.getElem?_drop] using this
      · exact h.elim
    · exact h.elim
  · exact h.elim

theorem getD_append_left' {α} (l : List α) (i : Nat) (d : α) : l.getD i d = (l[i]?).getD d := rfl

theorem run_part' {t : TypeId} {w : World} {c I N β} {cs : List AV} {vs : Array Value} {off : Nat} {av : AV} (hn : vs.size = cs.length)
    (hv : ∀ j, j < cs.length → Rel c I N β (cs.getD j .any) (vs.getD j undef)) (hp : pack P t (cs.drop off) = some av) :
    ∃ u, (part t vs off).run P w = .ok u w ∧ Rel c I N β av u := by
  unfold pack at hp
  by_cases hk : known P t = true
  · simp only [hk, if_true] at hp
    by_cases ha : aggB P t = true
    · simp only [ha, if_true] at hp
      split at hp
      · rename_i hl
        cases hp
        refine ⟨.agg (vs.extract off (off + P.cellsOf t)), by simp [part, run_isAgg' hk, ha, run_sizeOf' hk], ?_⟩
        simp at hl
        by_cases h0 : P.cellsOf t = 0
        · rw [h0]; exact .agg _ _ (by simp; omega) (fun j hj => by simp at hj)
        refine .agg _ _ (by simp; omega) (fun j hj => ?_)
        simp at hj
        have := hv (off + j) (by omega)
        have e1 : ((cs.drop off).take (P.cellsOf t)).getD j .any = cs.getD (off + j) .any := by
          rw [getD_take _ _ _ (by omega)]; simp [List.getD, List.getElem?_drop]
        have e2 : (vs.extract off (off + P.cellsOf t)).getD j undef = vs.getD (off + j) undef := by
          have a1 : j < (vs.extract off (off + P.cellsOf t)).size := by simp; omega
          have a2 : off + j < vs.size := by omega
          unfold Array.getD
          rw [dif_pos a1, dif_pos a2]
          simp
        rw [e1, e2]; exact this
      · cases hp
    · have ha' : aggB P t = false := by simpa using ha
      simp only [ha'] at hp
      have hlt : off < cs.length := by
        by_cases hlt : off < cs.length
        · exact hlt
        · rw [List.drop_eq_nil_of_le (by omega)] at hp; simp at hp
      have hp' : cs[off]? = some av := by simpa [List.head?_drop] using hp
      have := hv off hlt
      have e1 : cs.getD off .any = av := by simp [List.getD, hp']
      have hlt2 : off < vs.size := by omega
      refine ⟨vs[off], by simp [part, run_isAgg' hk, ha', hlt2], ?_⟩
      rw [e1] at this
      simpa [Array.getD, hlt2] using this
  · simp [hk] at hp

theorem aField_run {s x f v} {w : World} {c I N β vx} (h : aField P s x f v) (hx : Rel c I N β x vx) :
    ∃ u, (Instr.field s vx f).run P w = .ok u w ∧ Rel c I N β v u := by
  unfold aField at h
  split at h
  · rename_i fs hu
    split at h
    · rename_i fd hf
      split at h
      · cases hx with
        | agg cs vs hn hv =>
          have := run_part' (w := w) hn hv h
          simpa [Instr.field, run_underlying hu, hf, asAgg] using this
      · exact h.elim
    · exact h.elim
  · exact h.elim

end Go.Lg
