import Derived.Test.YtlbiegjdfijmfaaLf
set_option linter.unusedVariables false
namespace Go.Lg
variable {P : Program}

def aPure (P : Program) (o : Oper) (ev : Operand → AV) (ρ : Store) (v : AV) : Prop :=
  match o.op with
  | .move x => v = ev x
  | .assign x => v = ev x
  | .pick c a b => (match ev c with
    | .sc (.bool t) => v = if t then ev a else ev b
    | _ => False)
  | .load t x => aLoad P t (ev x) ρ v
  | .nilCheck x => (match ev x with
    | .ptr r i j => v = .ptr r i j
    | .iptr c => v = .iptr c
    | _ => False)
  | .binOp op t x y _ => aBin P op t x y (ev x) (ev y) v
  | .unOp op _ x => aUn P op (ev x) v
  | .convert s d x => aConv P s d (ev x) v
  | .makeFunc fn fs cs => v = .clo fn (fs.toList.map ev) (cs.toList.map ev)
  | .fieldAddr s x f => aFieldAddr P s (ev x) f v
  | .field s x f => aField P s (ev x) f v
  | .indexAddr t x i => aIndexAddr P t (ev x) (ev i) ρ v
  | .index t x i => aIndex P t (ev x) (ev i) v
  | .slice t x lo hi mx => mx = none ∧ (∀ r o n, ev x = .sl r o n → ∃ R, ρ[r]? = some (some R) ∧ ∀ e, P.underlying t = some (.slice e) → R.sz = P.cellsOf e) ∧ aSlice P t (ev x) (lo.map ev) (hi.map ev) v
  | .extract t i => (match ev t with
    | .tup l => l[i]? = some v
    | _ => False)
  | .build t parts => aBuild P t (parts.toList.map fun p => (p.1, ev p.2)) v
  | .call c => (match c.callee with
    | .builtin b => aBuiltin P b c.argTypes (c.args.toList.map ev) v
    | _ => False)
  | _ => False

theorem aPure_run {o : Oper} {A : List AV} {ρ : Store} {v : AV} {w F I β a} (h : aPure P o (aev A) ρ v) (hs : FRel w F I β a A ρ) :
    ∃ u, (execOp a.eval o).run P w = .ok (.value u) w ∧ Rel (cellf w) I ρ.length β v u := by
  have ev := hs.eval
  unfold aPure at h
  obtain ⟨dst, op, type, pos, after, guard⟩ := o
  simp only at h
  unfold execOp
  split at h
  · subst h; exact ⟨_, rfl, ev _⟩
  · subst h; exact ⟨_, rfl, ev _⟩
  · rename_i c x y
    have hc := ev c
    split at h
    · rename_i t ht
      rw [ht] at hc
      generalize hvc : a.eval c = vc at hc
      cases hc
      subst h
      cases t
      · exact ⟨_, by simp [asBool, hvc], ev _⟩
      · exact ⟨_, by simp [asBool, hvc], ev _⟩
    · exact h.elim
  · obtain ⟨u, h1, h2⟩ := aLoad_run h hs.sr (ev _)
    exact ⟨u, by simp [h1], h2⟩
  · rename_i x
    have hx := ev x
    split at h
    · rename_i r i j he
      rw [he] at hx; subst h
      generalize hvx : a.eval x = vx at hx
      cases hx with
      | ptr _ _ _ l hr hl => exact ⟨_, by simp [hvx], .ptr _ _ _ l hr hl⟩
    · rename_i cs he
      rw [he] at hx; subst h
      generalize hvx : a.eval x = vx at hx
      cases hx with
      | iptr _ b off vs hb hc hv => exact ⟨_, by simp [hvx], .iptr _ b off vs hb hc hv⟩
    · exact h.elim
  · obtain ⟨u, h1, h2⟩ := aBin_run h (ev _) (ev _) w
    refine ⟨u, ?_, h2 _ _ _ _⟩
    show (((do eqGuard _ _ _ _ _ _; binOp _ _ _ _ : Sem Value) >>= fun r => pure (Next.value r)) : Sem Next).run P w = _
    rw [Sem.run_bind, h1]; rfl
  · obtain ⟨u, h1, h2⟩ := aUn_run (w := w) h (ev _)
    exact ⟨u, by simp [h1], h2⟩
  · obtain ⟨u, h1, h2⟩ := aConv_run (w := w) h (ev _)
    exact ⟨u, by simp [h1], h2⟩
  · rename_i fn fs cs
    subst h
    have h1 := RelL.of_map A a.eval ev fs.toList
    have h2 := RelL.of_map A a.eval ev cs.toList
    refine ⟨.func fn (fs.map a.eval) (cs.map a.eval), by simp [Instr.makeFunc], ?_⟩
    refine .clo fn _ _ _ _ (by simp) (fun j hj => ?_) (by simp) (fun j hj => ?_)
    · have := h1.2 j hj
      simp at hj
      simpa [Array.getD, List.getD, hj] using this
    · have := h2.2 j hj
      simp at hj
      simpa [Array.getD, List.getD, hj] using this
  · obtain ⟨u, h1, h2⟩ := aFieldAddr_run h (ev _)
    exact ⟨u, by simp [h1], h2⟩
  · obtain ⟨u, h1, h2⟩ := aField_run (w := w) h (ev _)
    exact ⟨u, by simp [h1], h2⟩
  · obtain ⟨u, h1, h2⟩ := aIndexAddr_run h hs.sr (ev _) (ev _)
    exact ⟨u, by simp [h1], h2⟩
  · obtain ⟨u, h1, h2⟩ := aIndex_run (w := w) h (ev _) (ev _)
    exact ⟨u, by simp [h1], h2⟩
  · rename_i t x lo hi mx
    obtain ⟨rfl, hroot, h⟩ := h
    obtain ⟨u, h1, h2⟩ := aSlice_run (ul := lo.map a.eval) (uh := hi.map a.eval) h (ev _) (by cases lo; exact trivial; exact ev _) (by cases hi; exact trivial; exact ev _)
      (fun r o n he l hl e hu => by
        obtain ⟨R, hR, hz⟩ := hroot r o n he
        rw [← hz e hu]
        exact (hs.sr.real r R l hR hl).1)
    exact ⟨u, by simp [h1], h2⟩
  · rename_i t i
    have ht := ev t
    split at h
    · rename_i l he
      rw [he] at ht
      generalize hvt : a.eval t = vt at ht
      cases ht with
      | tup _ vs hn hv =>
        have hlt : i < l.length := (List.getElem?_eq_some_iff.1 h).1
        have h1 := hv i hlt
        have e1 : l.getD i .any = v := by simp [List.getD, h]
        rw [e1] at h1
        have hlt2 : i < vs.size := by omega
        exact ⟨vs[i], by simp [Instr.extract, hvt, hlt2], by simpa [Array.getD, hlt2] using h1⟩
    · exact h.elim
  · rename_i t parts
    have hp : RelP (cellf w) I ρ.length β (parts.toList.map fun p => (p.1, aev A p.2)) (parts.toList.map fun p => (p.1, a.eval p.2)) := by
      refine ⟨by simp, ?_⟩
      have := RelL.of_map A a.eval ev (parts.toList.map (·.2))
      simpa [List.map_map, Function.comp_def] using this
    obtain ⟨u, h1, h2⟩ := aBuild_run (w := w) h hp
    refine ⟨u, ?_, h2⟩
    have e : (parts.toList.map fun p => (p.1, a.eval p.2)).toArray = parts.map fun p => (p.1, a.eval p.2) := Array.ext' (by simp)
    rw [e] at h1
    simp [h1]
  · rename_i c
    split at h
    · rename_i b hb
      have hl := RelL.of_map A a.eval ev c.args.toList
      obtain ⟨cs0, e⟩ : ∃ cs0, resolve a.eval c type = pure { target := .builtin b c.argTypes type cs0, args := c.args.map a.eval } := ⟨_, by unfold resolve; rw [hb]⟩
      obtain ⟨u, h1, h2⟩ := aBuiltin_run (w := w) (ty := type) (cs := cs0) (vs := c.args.map a.eval) h (by simpa using hl)
      exact ⟨u, by simpa [e, invoke] using h1, h2⟩
    · exact h.elim
  · exact h.elim

theorem Oper.wp_value {o : Oper} {a : Act} {w w' : World} {u : Value} {K : Act → World → Prop} {Q : Exit → Act → World → Prop}
    (h : (execOp a.eval o).run P w = .ok (.value u) w') (hk : K (a.put o.dst u) w') : o.wp P a w K Q := by
  unfold Oper.wp; rw [h]; exact hk
theorem Oper.wp_skip {o : Oper} {a : Act} {w w' : World} {K : Act → World → Prop} {Q : Exit → Act → World → Prop}
    (h : (execOp a.eval o).run P w = .ok .skip w') (hk : K (a.put o.dst undef) w') : o.wp P a w K Q := by
  unfold Oper.wp; rw [h]; exact hk

theorem not_defer_of {o : Oper} {ρ : Operand → Value} {w w' : World} {x : Next} (h : (execOp ρ o).run P w = .ok x w') (hx : ∀ d, x ≠ .defer d) : ∀ c, o.op ≠ .defer c := by
  intro c hc
  unfold execOp at h
  rw [hc] at h
  simp only [Sem.run_bind] at h
  cases hr : (resolve ρ c o.type).run P w with
  | ok d w1 => rw [hr] at h; simp only [Result.andThen, Sem.run_pure] at h; injection h with h1 _; exact hx _ h1.symm
  | halt q w1 => rw [hr] at h; simp only [Result.andThen] at h; cases h

theorem Oper.wpIn_value {o : Oper} {a : Act} {w w' : World} {u : Value} {r : Option Nat} {n : Nat} {K : Act → World → Prop} {Q : Exit → Act → World → Prop}
    (h : (execOp a.eval o).run P w = .ok (.value u) w') (hk : K (a.put o.dst u) w') : o.wpIn (fz r) n P a w K Q := by
  refine ⟨fun _ _ => trivial, ?_⟩
  rw [Oper.semAt_eq _ _ _ (not_defer_of h (by simp)), h]; exact hk
theorem Oper.wpIn_skip {o : Oper} {a : Act} {w w' : World} {r : Option Nat} {n : Nat} {K : Act → World → Prop} {Q : Exit → Act → World → Prop}
    (h : (execOp a.eval o).run P w = .ok .skip w') (hk : K (a.put o.dst undef) w') : o.wpIn (fz r) n P a w K Q := by
  refine ⟨fun _ _ => trivial, ?_⟩
  rw [Oper.semAt_eq _ _ _ (not_defer_of h (by simp)), h]; exact hk
/-- A call, in the walk: whatever the function's contract is. -/
theorem Oper.wpIn_enter {o : Oper} {a : Act} {w : World} {f : FuncId} {vals : Array Value} {r : Option Nat} {n : Nat} {K : Act → World → Prop} {Q : Exit → Act → World → Prop}
    (h : (execOp a.eval o).run P w = .ok (.enter f vals) w) {R : Ending → World → Prop} (hc : Calls P f vals w R) (hR : ∀ e w', R e w' → ∃ v, e = .returned v ∧ K (a.put o.dst v) w') : o.wpIn (fz r) n P a w K Q := by
  refine ⟨fun _ _ => trivial, ?_⟩
  rw [Oper.semAt_eq _ _ _ (not_defer_of h (by simp)), h, Oper.uponIn_enter]
  refine ⟨fun h => by simp [fz, Fence.wide] at h, ?_⟩
  have h1 : CallsIn (fz r) (n - 1) P f vals w R := (callsIn_wide (n := n - 1)).2 hc
  refine h1.mono ?_
  intro e w' he
  obtain ⟨v, rfl, hk⟩ := hR e w' he
  exact hk
end Go.Lg
