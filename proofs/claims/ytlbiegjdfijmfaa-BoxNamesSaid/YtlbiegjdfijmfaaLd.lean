import Derived.Test.YtlbiegjdfijmfaaLc
set_option linter.unusedVariables false
namespace Go.Lg
variable {P : Program}

theorem aIndexAddr_run {t x i ρ v} {w F I β vx vi} (h : aIndexAddr P t x i ρ v) (hs : SR w F I β ρ) (hx : Rel (cellf w) I ρ.length β x vx) (hi : Rel (cellf w) I ρ.length β i vi) :
    ∃ u, (Instr.indexAt t vx vi).run P w = .ok u w ∧ Rel (cellf w) I ρ.length β v u := by
  unfold aIndexAddr at h
  split at h
  · rename_i k n
    cases hi
    split at h
    · rename_i e hu
      obtain ⟨hk, h⟩ := h
      have key : ∀ b o len cap, 0 ≤ n → n < (len : Nat) → (Instr.indexAt t (.slice (some ⟨b, o, none⟩) len cap) (.int k n)).run P w = .ok (.pointer (some ⟨b, o + n.toNat * P.cellsOf e, none⟩)) w := by
        intro b o len cap h0 h1
        simp [Instr.indexAt, asIntOf, run_underlying hu, h0, h1, run_sizeOf' hk, add_none]
      split at h
      · rename_i sz L
        obtain ⟨hz, h0, h1, rfl⟩ := h
        cases hx with
        | isl _ _ b off cap vs hb hn hzz hc hv =>
          refine ⟨_, key _ _ _ _ h0 h1, ?_⟩
          have hlt : n.toNat < L.length := by omega
          have hcl := hzz _ hlt
          refine .iptr _ b _ (fun j => vs n.toNat j) hb (fun j hj => ?_) (fun j hj => ?_)
          · rw [hz]; exact hc _ hlt j (by omega)
          · exact hv _ hlt j (by omega)
        | islz => simp at h1; omega
      · rename_i r o m
        obtain ⟨R, hR, hz, h0, h1, rfl⟩ := h
        cases hx with
        | sl _ _ _ cap l hr hl hn hc =>
          refine ⟨_, key _ _ _ _ h0 h1, ?_⟩
          have e1 := (hs.real r R l hR hl).1
          have : (⟨l.b, l.off + o * l.sz + n.toNat * P.cellsOf e, none⟩ : Addr) = ⟨l.b, l.off + (o + n.toNat) * l.sz + 0, none⟩ := by
            rw [← hz, ← e1, Nat.add_mul]; simp
          rw [this]; exact .ptr r _ 0 l hr hl
        | slz _ _ a hr => omega
      · rename_i r o j sz m
        obtain ⟨hz, h0, h1, rfl⟩ := h
        cases hx with
        | sub _ _ _ _ _ cap l hr hl hn =>
          refine ⟨_, key _ _ _ _ h0 h1, ?_⟩
          rw [hz, Nat.add_assoc]
          exact .ptr r _ _ l hr hl
        | subz _ _ _ _ a hr => simp at h1; omega
      · exact h.elim
    · rename_i len e hu
      obtain ⟨hk, h0, h1, h⟩ := h
      have key : ∀ b o, (Instr.indexAt t (.pointer (some ⟨b, o, none⟩)) (.int k n)).run P w = .ok (.pointer (some ⟨b, o + n.toNat * P.cellsOf e, none⟩)) w := by
        intro b o
        simp [Instr.indexAt, asIntOf, run_underlying hu, h0, h1, run_sizeOf' hk, add_none, Instr.sureAddr]
      split at h
      · subst h
        cases hx with
        | ptr _ _ _ l hr hl => exact ⟨_, key _ _, by rw [Nat.add_assoc]; exact .ptr _ _ _ l hr hl⟩
      · subst h
        cases hx with
        | iptr cs b off vs hb hc hv =>
          refine ⟨_, key _ _, ?_⟩
          refine .iptr _ b _ (fun j => vs (n.toNat * P.cellsOf e + j)) hb (fun j hj => ?_) (fun j hj => ?_)
          · simp at hj; rw [Nat.add_assoc]; exact hc _ (by omega)
          · simp at hj
            have := hv (n.toNat * P.cellsOf e + j) (by omega)
            simpa [List.getD, List.getElem?_drop] using this
      · exact h.elim
    · exact h.elim
  · exact h.elim

theorem aIndex_run {t x i v} {w : World} {c I N β vx vi} (h : aIndex P t x i v) (hx : Rel c I N β x vx) (hi : Rel c I N β i vi) :
    ∃ u, (Instr.index t vx vi).run P w = .ok u w ∧ Rel c I N β v u := by
  unfold aIndex at h
  split at h
  · rename_i k n
    cases hi
    split at h
    · rename_i len e hu
      obtain ⟨hk, h0, h1, h⟩ := h
      split at h
      · cases hx with
        | agg cs vs hn hv =>
          have := run_part' (w := w) hn hv h
          simpa [Instr.index, asIntOf, run_underlying hu, h0, h1, run_sizeOf' hk] using this
      · exact h.elim
    · rename_i hu
      split at h
      · obtain ⟨b, h0, h1, rfl⟩ := h
        cases hx
        exact ⟨_, by simp [Instr.index, asIntOf, run_underlying hu, h0, h1], .sc _⟩
      · exact h.elim
    · exact h.elim
  · exact h.elim

def RelO (c : Nat → Nat → Option Value) (I : Nat → Prop) (N : Nat) (β : Nat → Option Loc) : Option AV → Option Value → Prop
  | none, none => True
  | some a, some v => Rel c I N β a v
  | _, _ => False

theorem boundOf_val {b : Option AV} {d l : Int} (h : boundOf b d = some l) {c I N β} {u : Option Value}
    (hu : RelO c I N β b u) :
    (b = none ∧ u = none ∧ l = d) ∨ (∃ k, u = some (.int k l)) := by
  unfold boundOf at h
  split at h
  · left; cases u <;> simp_all [RelO]
  · right
    cases u with
    | none => simp [RelO] at hu
    | some v => simp [RelO] at hu; cases hu; cases h; exact ⟨_, rfl⟩
  · cases h

theorem aSlice_run {t x lo hi v} {w : World} {I N β vx} {ul uh : Option Value} (h : aSlice P t x lo hi v) (hx : Rel (cellf w) I N β x vx)
    (hlo : RelO (cellf w) I N β lo ul)
    (hhi : RelO (cellf w) I N β hi uh)
    (hroot : ∀ r o n, x = .sl r o n → ∀ l, β r = some l → ∀ e, P.underlying t = some (.slice e) → l.sz = P.cellsOf e) :
    ∃ u, (Instr.sliceAt t vx ul uh none).run P w = .ok u w ∧ Rel (cellf w) I N β v u := by
  unfold aSlice at h
  split at h
  · rename_i e hu
    obtain ⟨hk, h⟩ := h
    have key : ∀ a len cap (l hh : Int), len ≤ cap → boundOf lo 0 = some l → boundOf hi (len : Nat) = some hh → 0 ≤ l → l ≤ hh → hh ≤ (len : Nat) →
        (Instr.sliceAt t (.slice a len cap) ul uh none).run P w = .ok (.slice (if cap = l.toNat then a else a.map (·.add (l.toNat * P.cellsOf e))) (hh.toNat - l.toNat) (cap - l.toNat)) w := by
      intro a len cap l hh hlc h1 h2 h3 h4 h5
      have b1 := boundOf_val h1 hlo
      have b2 := boundOf_val h2 hhi
      simp only [Instr.sliceAt, Sem.run_bind, run_underlying hu, Result.andThen_ok, Instr.slice]
      have hb : (Instr.sliceBounds true len cap ul uh none).run P w = .ok (l.toNat, hh.toNat, cap) w := by
        rcases b1 with ⟨-, rfl, rfl⟩ | ⟨k1, rfl⟩ <;> rcases b2 with ⟨-, rfl, rfl⟩ | ⟨k2, rfl⟩
        · simp [Instr.sliceBounds]
        · have : hh ≤ (cap : Int) := by omega
          simp [Instr.sliceBounds, Instr.sliceBound, asIntOf, this]
          omega
        · simp [Instr.sliceBounds, Instr.sliceBound, asIntOf, h3, h4]
        · have : hh ≤ (cap : Int) := by omega
          have h0 : 0 ≤ hh := by omega
          have e1 : (hh.toNat : Int) = hh := by omega
          simp [Instr.sliceBounds, Instr.sliceBound, asIntOf, this, h0, h3, e1, h4]
      simp [hb, run_sizeOf' hk]
    split at h
    · rename_i sz L
      obtain ⟨hz, l, hh, h1, h2, h3, h4, h5, rfl⟩ := h
      cases hx with
      | isl _ _ b off cap vs hb hn hzz hc hv =>
        refine ⟨_, key _ _ _ l hh hn h1 h2 h3 h4 h5, ?_⟩
        have elen : hh.toNat - l.toNat = ((L.take hh.toNat).drop l.toNat).length := by simp; omega
        have eget : ∀ i, i < ((L.take hh.toNat).drop l.toNat).length → ((L.take hh.toNat).drop l.toNat).getD i .any = L.getD (l.toNat + i) .any := by
          intro i hi
          simp at hi
          simp [List.getD, List.getElem?_drop]
          rw [List.getElem?_take_of_lt (by omega)]
        have haddr : ∃ off', (if cap = l.toNat then some (⟨b, off, none⟩ : Addr) else (some (⟨b, off, none⟩ : Addr)).map (·.add (l.toNat * P.cellsOf e))) = some ⟨b, off', none⟩ ∧ (l.toNat < L.length → off' = off + l.toNat * sz) := by
          split
          · exact ⟨off, rfl, fun h => by omega⟩
          · exact ⟨off + l.toNat * P.cellsOf e, by simp [add_none], fun _ => by rw [hz]⟩
        obtain ⟨off', ha, ho⟩ := haddr
        rw [ha, elen]
        refine .isl sz _ b off' _ (fun i j => vs (l.toNat + i) j) hb (by simp; omega) (fun i hi => ?_) (fun i hi j hj => ?_) (fun i hi j hj => ?_)
        · rw [eget i hi]; simp at hi; exact hzz _ (by omega)
        · simp at hi
          rw [ho (by omega)]
          have := hc (l.toNat + i) (by omega) j hj
          rw [Nat.add_mul] at this
          rw [show off + l.toNat * sz + i * sz + j = off + (l.toNat * sz + i * sz) + j by omega]; exact this
        · rw [eget i hi]; simp at hi; exact hv _ (by omega) j hj
      | islz _ aa =>
        have e0 : hh = 0 := by simp at h5; omega
        have e1 : l = 0 := by omega
        subst e0 e1
        refine ⟨_, key aa 0 0 0 0 (Nat.le_refl _) h1 h2 h3 h4 h5, ?_⟩
        simp; exact .islz sz _
    · rename_i r o n
      obtain ⟨l, hh, h1, h2, h3, h4, h5, rfl⟩ := h
      cases hx with
      | sl _ _ _ cap lc hr hl hn hc =>
        refine ⟨_, key _ _ _ l hh hn h1 h2 h3 h4 h5, ?_⟩
        have esz := hroot r o n rfl lc hl e hu
        have elen : hh.toNat - l.toNat = (hh - l).toNat := by omega
        rw [elen]
        split
        · rename_i hcap
          have e0 : (hh - l).toNat = 0 := by omega
          have e1 : cap - l.toNat = 0 := by omega
          rw [e0, e1]; exact .slz _ _ _ hr
        · simp only [Option.map_some, add_none]
          rw [show lc.off + o * lc.sz + l.toNat * P.cellsOf e = lc.off + (o + l.toNat) * lc.sz by rw [← esz, Nat.add_mul]; omega]
          refine .sl r _ _ _ lc hr hl (by omega) (fun k hk => ?_)
          rw [show lc.off + (o + l.toNat) * lc.sz + k = lc.off + o * lc.sz + (l.toNat * lc.sz + k) by rw [Nat.add_mul]; omega]
          refine hc _ ?_
          rw [Nat.sub_mul] at hk
          have : l.toNat * lc.sz ≤ cap * lc.sz := Nat.mul_le_mul_right _ (by omega)
          omega
      | slz _ _ a hr =>
        have e0 : hh = 0 := by simp at h5; omega
        have e1 : l = 0 := by omega
        subst e0 e1
        refine ⟨_, key a 0 0 0 0 (Nat.le_refl _) h1 h2 h3 h4 h5, ?_⟩
        simp; exact .slz _ _ _ hr
    · rename_i r i j sz n
      obtain ⟨hz, l, hh, h1, h2, h3, h4, h5, rfl⟩ := h
      cases hx with
      | sub _ _ _ _ _ cap lc hr hl hn =>
        refine ⟨_, key _ _ _ l hh hn h1 h2 h3 h4 h5, ?_⟩
        have elen : hh.toNat - l.toNat = (hh - l).toNat := by omega
        rw [elen]
        split
        · have e0 : (hh - l).toNat = 0 := by omega
          have e1 : cap - l.toNat = 0 := by omega
          rw [e0, e1]; exact .subz _ _ _ _ _ hr
        · simp only [Option.map_some, add_none, hz]
          rw [Nat.add_assoc]
          exact .sub r i _ sz _ _ lc hr hl (by omega)
      | subz _ _ _ _ a hr =>
        have e0 : hh = 0 := by simp at h5; omega
        have e1 : l = 0 := by omega
        subst e0 e1
        refine ⟨_, key a 0 0 0 0 (Nat.le_refl _) h1 h2 h3 h4 h5, ?_⟩
        simp; exact .subz _ _ _ _ _ hr
    · exact h.elim
  · rename_i len e hu
    obtain ⟨hk, l, hh, h1, h2, h3, h4, h5, h⟩ := h
    have key : ∀ b off, (Instr.sliceAt t (.pointer (some ⟨b, off, none⟩)) ul uh none).run P w = .ok (.slice (some (if len = l.toNat then (⟨b, off, none⟩ : Addr) else (⟨b, off, none⟩ : Addr).add (l.toNat * P.cellsOf e))) (hh.toNat - l.toNat) (len - l.toNat)) w := by
      intro b off
      have b1 := boundOf_val h1 hlo
      have b2 := boundOf_val h2 hhi
      simp only [Instr.sliceAt, Sem.run_bind, run_underlying hu, Result.andThen_ok, Instr.sureAddr]
      have hb : (Instr.sliceBounds false len len ul uh none).run P w = .ok (l.toNat, hh.toNat, len) w := by
        rcases b1 with ⟨-, rfl, rfl⟩ | ⟨k1, rfl⟩ <;> rcases b2 with ⟨-, rfl, rfl⟩ | ⟨k2, rfl⟩
        · simp [Instr.sliceBounds]
        · have : hh ≤ (len : Int) := by omega
          simp [Instr.sliceBounds, Instr.sliceBound, asIntOf, this]
          omega
        · simp [Instr.sliceBounds, Instr.sliceBound, asIntOf, h3, h4]
        · have : hh ≤ (len : Int) := by omega
          have h0 : 0 ≤ hh := by omega
          have e1 : (hh.toNat : Int) = hh := by omega
          simp [Instr.sliceBounds, Instr.sliceBound, asIntOf, this, h0, h3, e1, h4]
      simp [hb, run_sizeOf' hk]
    have elen : hh.toNat - l.toNat = (hh - l).toNat := by omega
    split at h
    · rename_i r i j
      subst h
      cases hx with
      | ptr _ _ _ lc hr hl =>
        refine ⟨_, key _ _, ?_⟩
        rw [elen]
        split
        · have e0 : (hh - l).toNat = 0 := by omega
          have e1 : len - l.toNat = 0 := by omega
          rw [e0, e1]; exact .subz _ _ _ _ _ hr
        · rw [add_none, Nat.add_assoc]
          exact .sub r i _ _ _ _ lc hr hl (by omega)
    · rename_i cs
      obtain ⟨hlen, rfl⟩ := h
      cases hx with
      | iptr _ b off vs hb hc hv =>
        refine ⟨_, key _ _, ?_⟩
        rw [elen]
        by_cases h0 : len = l.toNat
        · have e0 : (hh - l).toNat = 0 := by omega
          have e1 : len - l.toNat = 0 := by omega
          rw [e0, e1]; simp; exact .islz _ _
        · rw [if_neg h0, add_none]
          obtain ⟨L, hL⟩ : ∃ L, L = (List.range (hh - l).toNat).map fun k => AV.agg ((cs.drop ((l.toNat + k) * P.cellsOf e)).take (P.cellsOf e)) := ⟨_, rfl⟩
          have hLl : L.length = (hh - l).toNat := by simp [hL]
          have hbd : ∀ i, i < (hh - l).toNat → (l.toNat + i) * P.cellsOf e + P.cellsOf e ≤ cs.length := fun i hi => by
            have : (l.toNat + i + 1) * P.cellsOf e ≤ len * P.cellsOf e := Nat.mul_le_mul_right _ (by omega)
            rw [Nat.add_mul (l.toNat + i) 1] at this; omega
          have hget : ∀ i, i < (hh - l).toNat → (L.getD i .any).cells = (cs.drop ((l.toNat + i) * P.cellsOf e)).take (P.cellsOf e) := fun i hi => by
            simp [hL, List.getD, hi, AV.cells]
          have hcell : ∀ i, i < (hh - l).toNat → ∀ j, j < P.cellsOf e → (L.getD i .any).cells.getD j .any = cs.getD ((l.toNat + i) * P.cellsOf e + j) .any := fun i hi j hj => by
            rw [hget i hi, getD_take _ _ _ hj]; simp [List.getD, List.getElem?_drop]
          rw [← hL, ← hLl]
          refine .isl (P.cellsOf e) L b _ _ (fun i j => vs ((l.toNat + i) * P.cellsOf e + j)) hb (by omega) (fun i hi => ?_) (fun i hi j hj => ?_) (fun i hi j hj => ?_)
          · rw [hget i (by omega)]; have := hbd i (by omega); simp; omega
          · have := hc ((l.toNat + i) * P.cellsOf e + j) (by have := hbd i (by omega); omega)
            rw [Nat.add_mul] at this
            rw [show off + l.toNat * P.cellsOf e + i * P.cellsOf e + j = off + (l.toNat * P.cellsOf e + i * P.cellsOf e + j) by omega, this, Nat.add_mul]
          · rw [hcell i (by omega) j hj]
            exact hv _ (by have := hbd i (by omega); omega)
    · exact h.elim
  · exact h.elim
end Go.Lg
