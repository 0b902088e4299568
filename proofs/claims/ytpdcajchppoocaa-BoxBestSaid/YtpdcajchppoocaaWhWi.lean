import Derived.Test.YtpdcajchppoocaaWeWe1WfWg
import Derived.Test.YtpdcajchppoocaaC5
set_option linter.unusedVariables false
set_option linter.unusedSimpArgs false
namespace Go.Lg
open Go.RowKit
variable {P : Program}

abbrev CSpec := FuncId → List SV → XS → (SV → Prop) → Prop
def SoundS (P : Program) (cs : CSpec) : Prop := ∀ g args X k, cs g args X k → callable P g = true ∧ ∃ v : SV, (∀ xs, aDoesB P g (SV.denL args) (X.den ++ xs) v.den) ∧ k v
noncomputable def copyT (S : Nat) (X : XS) (r o n r2 i2 j2 sz2 m : Nat) (R : SRow) (k : KS) : Prop :=
  ifP (Nat.beq S 1 && (Nat.beq sz2 1 && (Nat.beq i2 0 && (Nat.beq R.sz 1 && noMap R)))) (match X.row r2 with
    | some R2 => ifP (R2.var && Nat.beq R2.n 1) (match R2.f 0 with
      | .agg cs => (match kindOf cs with
        | some K => ifP (allInt K cs && Nat.beq cs.length R2.sz) (o = 0 ∧ n = R.n ∧ n ≤ m ∧ j2 + m ≤ cs.length ∧ k (.int .i64 n) (X.set r (some ⟨1, n, fun i => .agg [.int K (cellZ cs (j2 + i))], false⟩)))
        | none => False)
      | _ => False)
    | none => False)
theorem copyT_spec {t e : TypeId} {S : Nat} {X : XS} {r o n r2 i2 j2 sz2 m : Nat} {R : SRow} {k : KS} (hX : X.n < 512) (hR : X.row r = some R) (hu : P.underlying t = some (.slice e)) (hk : known P e = true) (hS : P.cellsOf e = S) (h : copyT S X r o n r2 i2 j2 sz2 m R k) :
    ∃ (v : SV) (X' : XS), aCopy P t (SV.sl r o n).den (SV.sub r2 i2 j2 sz2 m).den X.den v.den X'.den ∧ X'.n < 512 ∧ k v X' := by
  obtain ⟨hc, g⟩ := ifP_spec h
  clear h
  simp only [Bool.and_eq_true, Nat.beq_eq] at hc
  obtain ⟨rfl, rfl, rfl, hRs, hnm⟩ := hc
  split at g
  · rename_i R2 hR2
    obtain ⟨hc, g2⟩ := ifP_spec g
    clear g
    simp only [Bool.and_eq_true, Nat.beq_eq] at hc
    obtain ⟨c1, c2⟩ := hc
    split at g2
    · rename_i cs hf
      split at g2
      · rename_i K hK
        obtain ⟨hc, rfl, rfl, h1, h2, h3⟩ := ifP_spec g2
        clear g2
        simp only [Bool.and_eq_true, Nat.beq_eq] at hc
        obtain ⟨ha, hl⟩ := hc
        have hels : R2.els = [.agg (SV.denL cs)] := by rw [row1_els c2, hf]; rfl
        have hL : elemsOf 1 X.den (SV.sub r2 0 j2 1 m).den = some ((List.range m).map fun k => .agg (((SV.denL cs).drop (j2 + k * 1)).take 1)) := by
          simp only [SV.den, elemsOf, X.row_get hR2]
          have e0 : (SRow.den R2).els = R2.els := rfl
          rw [if_pos ⟨by first | rfl | trivial, by rw [e0, hels]; simp, by show j2 + m * 1 ≤ R2.sz; omega⟩, e0, hels]
          rfl
        have hone : ∀ k, k < m → ((SV.denL cs).drop (j2 + k * 1)).take 1 = [.sc (.int K (cellZ cs (j2 + k)))] := fun k hk => by
          have hh : (SV.denL cs)[j2 + k]? = some (.sc (.int K (cellZ cs (j2 + k)))) := by rw [denL_getE, allInt_get ha _ (by omega)]; rfl
          obtain ⟨h4, h5⟩ := List.getElem?_eq_some_iff.1 hh
          rw [Nat.mul_one, List.drop_eq_getElem_cons h4, h5]; rfl
        have hr := XS.row_lt hR
        have hT : ((List.range m).map fun k => AV.agg (((SV.denL cs).drop (j2 + k * 1)).take 1)).take R.n = (List.range R.n).map fun k => AV.agg [.sc (.int K (cellZ cs (j2 + k)))] := by
          rw [← List.map_take, List.take_range, Nat.min_eq_left h1]
          exact List.map_congr_left fun k hk => by rw [hone k (by have := List.mem_range.1 hk; omega)]
        refine ⟨_, _, ⟨e, R.n, _, hu, hk, rfl, by rw [hS]; exact hL, ?_, ?_, ?_⟩, ?_, h3⟩
        · rw [List.all_eq_true]
          intro x hx
          obtain ⟨k', hk', rfl⟩ := List.mem_map.1 hx
          rw [hone k' (by simpa using hk')]
          rfl
        · rw [hS, hT]
          have hg : X.den[r]? = some (some R.den) := X.row_get hR
          rw [XS.set_den (by omega) hr]
          simp only [SV.den, dstA, hg]
          have e1 : R.den.els.length = R.n := els_length R
          have e2 : R.den.sz = 1 := hRs
          rw [if_pos ⟨by omega, e2, by simp⟩]
          by_cases hz : R.n = 0
          · have e3 : R.els = [] := List.eq_nil_of_length_eq_zero (by rw [els_length]; exact hz)
            have e4 : denR (some ⟨1, R.n, fun i => .agg [.int K (cellZ cs (j2 + i))], false⟩) = some R.den := by
              simp only [denR, Option.map_some, SRow.den, hRs, e3, noMap_spec hnm, SRow.obj_nv]
              simp [SRow.els, hz]
            rw [if_pos (by simp [hz]), e4]
            congr 1
            refine (List.ext_getElem? fun i => ?_)
            rw [List.getElem?_set]
            split
            · rename_i he
              subst he
              rw [hg]; simp [List.getElem?_eq_some_iff.1 hg |>.1]
            · rfl
          · rw [if_neg (by intro h; have := congrArg List.length h; simp at this; exact hz this)]
            congr 2
            simp only [denR, Option.map_some, SRow.den, List.take_zero, List.nil_append, noMap_spec hnm, SRow.obj_nv]
            congr 1
            rw [List.drop_eq_nil_of_le (by have : R.els.length = R.n := els_length R; simp [this]), List.append_nil, hRs]
            rfl
        · simp [SV.den, Nat.min_eq_right h1]
        · exact hX
      · exact g2.elim
    · exact g2.elim
  · exact g.elim
noncomputable def copyS (S : Nat) (X : XS) (d s : SV) (k : KS) : Prop := match d with
  | .sl r o n => (match X.row r with
    | some R => (match s with
      | .sub r2 i2 j2 sz2 m => copyT S X r o n r2 i2 j2 sz2 m R k
      | s => ifP (Nat.beq R.sz S && noMap R) (elemsS S X s fun m g => o = 0 ∧ n = R.n ∧ m = n ∧ (∀ i, i < m → (g i).ok = true) ∧ k (.int .i64 m) (X.set r (some ⟨R.sz, m, g, false⟩))))
    | none => False)
  | .sub r i j sz n => copyB S X r i j sz n s k
  | _ => False
theorem copyS_spec {t e : TypeId} {S : Nat} {X : XS} {d s : SV} {k : KS} (hX : X.n < 512) (hu : P.underlying t = some (.slice e)) (hk : known P e = true) (hS : P.cellsOf e = S) (h : copyS S X d s k) :
    ∃ (v : SV) (X' : XS), aCopy P t d.den s.den X.den v.den X'.den ∧ X'.n < 512 ∧ k v X' := by
  unfold copyS at h
  split at h
  · rename_i r o n
    split at h
    · rename_i R hR
      split at h
      · exact copyT_spec hX hR hu hk hS h
      · obtain ⟨hc, h⟩ := ifP_spec h
        simp only [Bool.and_eq_true, Nat.beq_eq] at hc
        obtain ⟨hc, hnm⟩ := hc
        obtain ⟨m, g, h1, rfl, rfl, rfl, h2, h3⟩ := elemsS_spec h
        have hr := XS.row_lt hR
        refine ⟨_, _, ⟨e, R.n, (List.range R.n).map fun i => (g i).den, hu, hk, rfl, by rw [hS]; exact h1, ?_, ?_, ?_⟩, ?_, h3⟩
        · simp only [List.all_map, List.all_eq_true]
          intro i hi
          exact ok_den (h2 i (by simpa using hi))
        · have hg := X.row_get hR
          simp only [SV.den, dstA, hg]
          have e1 : ((List.range R.n).map fun i => (g i).den).take R.n = (List.range R.n).map fun i => (g i).den := List.take_of_length_le (by simp)
          rw [e1]
          have e2 : R.den.els.length = R.n := els_length R
          rw [if_pos ⟨by omega, by show R.sz = _; rw [hS, hc], by simp⟩]
          rw [XS.set_den (by omega) hr]
          by_cases hz : R.n = 0
          · have e3 : R.den.els = [] := List.eq_nil_of_length_eq_zero (by omega)
            have e4 : denR (some ⟨R.sz, R.n, g, false⟩) = some R.den := by
              simp only [denR, Option.map_some, SRow.den, noMap_spec hnm, SRow.obj_nv]
              have : R.els = [] := e3
              simp only [SRow.els] at this ⊢
              rw [this]; simp [hz]
            rw [if_pos (by simp [hz]), e4]
            congr 1
            refine (List.ext_getElem? fun i => ?_)
            rw [List.getElem?_set]
            split
            · rename_i he
              subst he
              rw [hg]; simp [List.getElem?_eq_some_iff.1 hg |>.1]
            · rfl
          · rw [if_neg (by intro h; have := congrArg List.length h; simp at this; exact hz this)]
            congr 2
            simp only [denR, Option.map_some, SRow.den, List.take_zero, List.nil_append, noMap_spec hnm, SRow.obj_nv]
            congr 1
            rw [List.drop_eq_nil_of_le (by have : R.els.length = R.n := els_length R; simp [this])]
            simp [SRow.els]
        · simp [SV.den]
        · exact hX
    · exact h.elim
  · exact copyB_spec hX hu hk hS h
  · exact h.elim
noncomputable def clearS (P : Program) (e : TypeId) (S : Nat) (X : XS) (x : SV) (k : KS) : Prop := match x with
  | .sub r _ _ _ _ => (match X.row r with
    | some R => (match R.f 0 with
      | .agg cs => ifP (zerI P e cs) (clearB S X x k)
      | _ => False)
    | none => False)
  | _ => False
noncomputable def builtinS (P : Program) (b : Builtin) (c : Call) (ev : Operand → SV) (X : XS) (k : KS) : Prop := match b with
  | .append => (match c.args.toList, c.argTypes.toList with
    | [s, x], [t, t'] => (match slElem P t' with
      | some _ => appendS P (slElem P t) (ev s) (ev x) X k
      | none => False)
    | _, _ => False)
  | .copy => (match c.args.toList, c.argTypes.toList with
    | [d, s], [t, _] => (match slElem P t with
      | some e => copyS e.2 X (ev d) (ev s) k
      | none => False)
    | _, _ => False)
  | .clear => (match c.args.toList, c.argTypes.toList with
    | [x], [t] => (match slElem P t with
      | some e => clearS P e.1 e.2 X (ev x) k
      | none => genO P ev X (.call c) k)
    | _, _ => genO P ev X (.call c) k)
  | b => mapS ev c.args.toList fun args => pureBS P b c.argTypes args fun v => k v X
noncomputable def callS (P : Program) (cs : CSpec) (ev : Operand → SV) (X : XS) (k : KS) (c : Call) : Prop := match c.callee with
  | .builtin b => builtinS P b c ev X k
  | .value f => mapS ev c.args.toList fun args => (match ev f with
    | .val (.func (.func g) fs us) => (match fs.toList, us.toList with
      | [], [] => cs g args X fun v => k v X
      | _, _ => False)
    | .clo (.func g) fs us => cs g (fs ++ args ++ us) X fun v => k v X
    | _ => False)
  | .invoke r name => (match ev r with
    | .ifc t y => (match methodOf P t name with
      | some g => mapS ev c.args.toList fun args => cs g (y :: args) X fun v => k v X
      | none => False)
    | _ => False)
def DidC (P : Program) (o : Oper) (ev : Operand → SV) (X : XS) (k : KS) : Prop :=
  ∃ v : SV, (∀ xs, aop P o (fun x => (ev x).den) (X.den ++ xs) v.den (X.den ++ xs)) ∧ k v X
def isFn (o : Oper) : Bool := match o.op with
  | .call c => (match c.callee with
    | .value _ => true
    | .invoke _ _ => true
    | _ => false)
  | _ => false
theorem callS_spec {cs : CSpec} (hcs : SoundS P cs) {o : Oper} {c : Call} {ev : Operand → SV} {X : XS} {k : KS} (hX : X.n < 512) (ho : o.op = .call c) (h : callS P cs ev X k c) :
    (isFn o = false ∧ DidS P o ev X k) ∨ (isFn o = true ∧ DidC P o ev X k) := by
  unfold callS at h
  split at h
  · rename_i b hc
    refine .inl ⟨by simp [isFn, ho, hc], ?_⟩
    have gen : genO P ev X (.call c) k → DidS P o ev X k := by
      rintro ⟨v, X', h1, h2, h3⟩
      exact ⟨v, X', h2 o ho, h1, h3⟩
    have rest : ∀ b', c.callee = .builtin b' → (∀ v, aBuiltin P b' c.argTypes (c.args.toList.map fun x => (ev x).den) v → aop P o (fun x => (ev x).den) X.den v X.den) →
        (mapS ev c.args.toList fun args => pureBS P b' c.argTypes args fun v => k v X) → DidS P o ev X k := by
      intro b' hb hop h
      rw [mapS_eq] at h
      obtain ⟨v, h1, h2⟩ := pureBS_spec h
      rw [denL_mapE] at h1
      exact ⟨v, X, hop _ h1, hX, h2⟩
    unfold builtinS at h
    split at h
    · split at h
      · rename_i s x t t' h1 h2
        split at h
        · rename_i e' he
          obtain ⟨hu, -, -⟩ := slElem_spec he
          obtain ⟨v, X', a1, a2, a3⟩ := appendS_spec h
          refine ⟨v, X', ?_, a2, a3⟩
          simp only [aop, ho, aCall, hc, h1, h2]
          exact ⟨⟨_, hu⟩, a1⟩
        · exact h.elim
      · exact h.elim
    · split at h
      · rename_i d s t t' h1 h2
        split at h
        · rename_i e' he
          obtain ⟨hu, hk, hS⟩ := slElem_spec he
          obtain ⟨v, X', a1, a2, a3⟩ := copyS_spec (P := P) hX hu hk hS.symm h
          refine ⟨v, X', ?_, a2, a3⟩
          simp only [aop, ho, aCall, hc, h1, h2]
          exact a1
        · exact h.elim
      · exact h.elim
    · split at h
      · rename_i x t h1 h2
        split at h
        · rename_i e' he
          obtain ⟨hu, hk, hS⟩ := slElem_spec he
          unfold clearS at h
          split at h
          · rename_i r _ _ _ _ hx
            split at h
            · rename_i R hR
              split at h
              · rename_i cs hf
                obtain ⟨hz, h⟩ := ifP_spec h
                obtain ⟨v, X', a1, a2, a3⟩ := clearB_spec (P := P) hX hu hk hS.symm (fun r' R' cs' g1 g2 g3 => by
                  obtain ⟨i, j, sz, n, g3⟩ := g3
                  rw [hx] at g3
                  cases g3
                  rw [hR] at g1
                  cases g1
                  rw [hf] at g2
                  cases g2
                  exact hz) h
                refine ⟨v, X', ?_, a2, a3⟩
                simp only [aop, ho, aCall, hc, h1, h2]
                exact a1
              · exact h.elim
            · exact h.elim
          · exact h.elim
        · exact gen h
      · exact gen h
    · rename_i h1 h2 h3
      refine rest b hc (fun v hv => ?_) h
      simp only [aop, ho, aCall, hc]
      cases b
      case append => exact absurd rfl h1
      case copy => exact absurd rfl h2
      case clear => exact absurd rfl h3
      case len => exact ⟨hv, trivial⟩
      case min => exact ⟨hv, trivial⟩
      case max => exact ⟨hv, trivial⟩
      all_goals exact hv.elim
  · rename_i f hc
    refine .inr ⟨by simp [isFn, ho, hc], ?_⟩
    rw [mapS_eq] at h
    split at h
    · rename_i g fs us hf
      split at h
      · rename_i e1 e2
        obtain ⟨h1, v, h2, h3⟩ := hcs _ _ _ _ h
        refine ⟨v, fun xs => ?_, h3⟩
        simp only [aop, ho, aCall, hc, hf, SV.den]
        have := h2 xs
        rw [denL_mapE] at this
        exact ⟨by simpa using e1, by simpa using e2, ⟨h1, this⟩, trivial⟩
      · exact h.elim
    · rename_i g fs us hf
      obtain ⟨h1, v, h2, h3⟩ := hcs _ _ _ _ h
      refine ⟨v, fun xs => ?_, h3⟩
      simp only [aop, ho, aCall, hc, hf, SV.den]
      have := h2 xs
      rw [denL_append, denL_append, denL_mapE] at this
      exact ⟨⟨h1, this⟩, trivial⟩
    · exact h.elim
  · rename_i r name hc
    refine .inr ⟨by simp [isFn, ho, hc], ?_⟩
    split at h
    · rename_i t y hr
      split at h
      · rename_i g hg
        rw [mapS_eq] at h
        obtain ⟨h1, v, h2, h3⟩ := hcs _ _ _ _ h
        refine ⟨v, fun xs => ?_, h3⟩
        simp only [aop, ho, aCall, hc, hr, SV.den]
        have := h2 xs
        rw [SV.denL, denL_mapE] at this
        exact ⟨g, hg, ⟨h1, this⟩, trivial⟩
      · exact h.elim
    · exact h.elim

noncomputable def gvS (ops : Array Oper) (n : Nat) (t : FS) (j : Nat) (want : Bool) (yes no : FS → Prop) : Prop :=
  match (ops[j]?).bind (·.dst) with
  | some d => (match sget n t d with
    | .bool b => (match b, want with
      | true, true => yes t
      | false, false => yes t
      | _, _ => no t)
    | .dec p _ => (match want with
      | true => (p → yes (sset n t d (.bool true))) ∧ (¬ p → no (sset n t d (.bool false)))
      | false => (p → no (sset n t d (.bool true))) ∧ (¬ p → yes (sset n t d (.bool false))))
    | .val (.tuple vs) => (match vs.toList with
      | [] => no t
      | _ => False)
    | _ => False)
  | none => False
theorem set_getD_self {l : List AV} {d : Nat} {v : AV} (h : l.getD d .any = v) : l.set d v = l := by
  apply List.ext_getElem?
  intro i
  rw [List.getElem?_set]
  by_cases hi : d = i
  · subst hi
    by_cases hd : d < l.length
    · simp [List.getD, hd] at h ⊢; exact h.symm
    · simp [hd]
  · simp [hi]
theorem sset_same {n : Nat} (hn : n ≤ 512) {t : FS} {d : Nat} {v : SV} (h : v.den = (sget n t d).den) : frD n (sset n t d v) = frD n t := by
  rw [← sset_den hn, h]
  exact set_getD_self (sget_den n t d)
theorem gvS_spec {ops : Array Oper} {n : Nat} (hn : n ≤ 512) {t : FS} {j : Nat} {want : Bool} {yes no : FS → Prop} (h : gvS ops n t j want yes no) :
    ∃ b t', frD n t' = frD n t ∧ gvalS ops (frD n t) j want = some b ∧ ((b = true ∧ yes t') ∨ (b = false ∧ no t')) := by
  unfold gvS at h
  unfold gvalS
  split at h
  · rename_i d hd
    simp only [hd, sget_den]
    split at h
    · rename_i b hb
      simp only [hb, SV.den]
      refine ⟨b == want, t, rfl, rfl, ?_⟩
      cases b <;> cases want <;> simp at h <;> simp [h]
    · rename_i p i hb
      simp only [hb, SV.den]
      have key : ∀ b : Bool, decide p = b → frD n (sset n t d (.bool b)) = frD n t := fun b e => sset_same hn (by rw [hb]; simp [SV.den, e])
      by_cases hp : p
      · refine ⟨true == want, _, key true (by simp [hp]), by simp [hp], ?_⟩
        cases want
        · exact .inr ⟨rfl, h.1 hp⟩
        · exact .inl ⟨rfl, h.1 hp⟩
      · refine ⟨false == want, _, key false (by simp [hp]), by simp [hp], ?_⟩
        cases want
        · exact .inl ⟨rfl, h.2 hp⟩
        · exact .inr ⟨rfl, h.2 hp⟩
    · rename_i vs hb
      simp only [hb, SV.den]
      split at h
      · rename_i hv
        exact ⟨false, t, rfl, by simp [Array.isEmpty, ← Array.length_toList, hv], .inr ⟨rfl, h⟩⟩
      · exact h.elim
    · exact h.elim
  · exact h.elim

abbrev uS : SV := .val undef
noncomputable def forceW2 (v : SV) (k : SV → Prop) : Prop := match v with
  | .agg c => forceC c fun c => k (.agg c)
  | .tup c => forceC c fun c => k (.tup c)
  | v => forceS v k
theorem forceW2_eq (v : SV) (k : SV → Prop) : forceW2 v k = k v := by
  cases v <;> first | rfl | exact forceC_eq _ _
noncomputable def sputK (n : Nat) (t : FS) (d : Option Tmp) (v : SV) (k : FS → Prop) : Prop := match d with
  | none => k t
  | some d => Bool.rec (motive := fun _ => Prop) (k t) (Tr.setK v (path (dep n) d) t k) (Nat.blt d n)
theorem sputK_eq (n : Nat) (t : FS) (d : Option Tmp) (v : SV) (k : FS → Prop) : sputK n t d v k = k (sput n t d v) := by
  cases d with
  | none => rfl
  | some d =>
    show Bool.rec (motive := fun _ => Prop) (k t) (Tr.setK v (path (dep n) d) t k) (Nat.blt d n) = k (sset n t d v)
    unfold sset
    cases Nat.blt d n <;> simp [Tr.setK_eq]
def forceX (X : XS) (k : XS → Prop) : Prop := match X with
  | ⟨n, t⟩ => forceNat n fun n => (match t with
    | .nil => k ⟨n, .nil⟩
    | .leaf x => k ⟨n, .leaf x⟩
    | .node a0 a1 a2 a3 a4 a5 a6 a7 => k ⟨n, .node a0 a1 a2 a3 a4 a5 a6 a7⟩)
theorem forceX_eq (X : XS) (k : XS → Prop) : forceX X k = k X := by
  obtain ⟨n, t⟩ := X
  cases t <;> simp [forceX, forceNat_eq]
noncomputable def stepS (P : Program) (cs : CSpec) (n : Nat) (o : Oper) (t : FS) (X : XS) (ih : FS → XS → Prop) : Prop :=
  opS P (sev n t) X (callS P cs (sev n t) X) o.op fun v X' => forceS v fun v => sputK n t o.dst v fun t => forceX X' fun X' => ih t X'
theorem stepS_eq (cs : CSpec) (n : Nat) (o : Oper) (t : FS) (X : XS) (ih : FS → XS → Prop) : stepS P cs n o t X ih = opS P (sev n t) X (callS P cs (sev n t) X) o.op fun v X' => ih (sput n t o.dst v) X' := by
  unfold stepS
  simp only [forceS_eq, sputK_eq, forceX_eq]
noncomputable def runS (P : Program) (cs : CSpec) (n : Nat) (ops : Array Oper) (K : FS → XS → Prop) (l : List Oper) : FS → XS → Prop :=
  List.rec (motive := fun _ => FS → XS → Prop) (fun t X => K t X)
    (fun o _ ih t X => match o.guard with
      | none => stepS P cs n o t X ih
      | some (j, want) => gvS ops n t j want (fun t => stepS P cs n o t X ih) (fun t => sputK n t o.dst uS fun t => ih t X)) l
theorem sev_aev (n : Nat) (t : FS) : aev (frD n t) = fun x => (sev n t x).den := funext (sev_den n t)
theorem stepS_spec {cs : CSpec} (hcs : SoundS P cs) {n : Nat} {o : Oper} {t : FS} {X : XS} {ih : FS → XS → Prop} (hX : X.n < 512) (h : stepS P cs n o t X ih) :
    ∃ (v : SV) (X' : XS), X'.n < 512 ∧ ih (sput n t o.dst v) X' ∧ aop P o (aev (frD n t)) X.den v.den X'.den ∧ (isFn o = true → X' = X ∧ ∀ xs, aop P o (aev (frD n t)) (X.den ++ xs) v.den (X.den ++ xs)) := by
  rw [sev_aev]
  have did : isFn o = false → DidS P o (sev n t) X (fun v X' => ih (sput n t o.dst v) X') → _ := fun hf ⟨v, X', h1, h2, h3⟩ => (⟨v, X', h2, h3, h1, fun h => by rw [hf] at h; cases h⟩ :
    ∃ (v : SV) (X' : XS), X'.n < 512 ∧ ih (sput n t o.dst v) X' ∧ aop P o (fun x => (sev n t x).den) X.den v.den X'.den ∧ (isFn o = true → X' = X ∧ ∀ xs, aop P o (fun x => (sev n t x).den) (X.den ++ xs) v.den (X.den ++ xs)))
  have call : ∀ c, o.op = .call c → callS P cs (sev n t) X (fun v X' => ih (sput n t o.dst v) X') c →
      ∃ (v : SV) (X' : XS), X'.n < 512 ∧ ih (sput n t o.dst v) X' ∧ aop P o (fun x => (sev n t x).den) X.den v.den X'.den ∧ (isFn o = true → X' = X ∧ ∀ xs, aop P o (fun x => (sev n t x).den) (X.den ++ xs) v.den (X.den ++ xs)) := by
    intro c hc h
    rcases callS_spec hcs hX hc h with ⟨h1, h2⟩ | ⟨h1, v, h2, h3⟩
    · exact did h1 h2
    · refine ⟨v, X, hX, h3, ?_, fun _ => ⟨rfl, h2⟩⟩
      have := h2 []
      simpa using this
  by_cases hf : ∃ c, o.op = .call c
  · obtain ⟨c, hc⟩ := hf
    refine call c hc ?_
    rw [stepS_eq, hc] at h
    exact h
  · rw [stepS_eq] at h
    rcases opS_spec hX h with h1 | ⟨c, hc, h1⟩
    · exact did (by unfold isFn; split; · rename_i c hc; exact absurd ⟨c, hc⟩ hf
                    · rfl) h1
    · exact absurd ⟨c, hc⟩ hf
theorem runS_G {cs : CSpec} (hcs : SoundS P cs) {L : List LoopV} {n : Nat} (hn : n ≤ 512) {ops : Array Oper} {K : FS → XS → Prop} {st : List LS} {K' : List LS → List AV → Store → Prop}
    (hK : ∀ t X, X.n < 512 → K t X → K' st (frD n t) X.den) : ∀ {l : List Oper} {t : FS} {X : XS}, X.n < 512 → runS P cs n ops K l t X → runG P L ops l K' st (frD n t) X.den
  | [], t, X, hX, h => hK t X hX h
  | o :: l, t, X, hX, h => by
    have step : ∀ t, stepS P cs n o t X (runS P cs n ops K l) → opG P L o (fun v st' ρ' => runG P L ops l K' st' (putA (frD n t) o.dst v) ρ') st (frD n t) X.den := by
      intro t h
      obtain ⟨v, X', h1, h2, h3, _⟩ := stepS_spec hcs hX h
      refine .inl ⟨v.den, X'.den, h3, ?_⟩
      show runG P L ops l K' st (putA (frD n t) o.dst v.den) X'.den
      rw [sput_den hn]
      exact runS_G hcs hn hK h1 h2
    have h : (match o.guard with
      | none => stepS P cs n o t X (runS P cs n ops K l)
      | some (j, want) => gvS ops n t j want (fun t => stepS P cs n o t X (runS P cs n ops K l)) (fun t => sputK n t o.dst uS fun t => runS P cs n ops K l t X)) := h
    unfold runG
    split at h
    · rename_i hg
      simp only [hg]
      exact step t h
    · rename_i j want hg
      obtain ⟨b, t', e, hb, h⟩ := gvS_spec hn h
      simp only [hg, hb]
      rcases h with ⟨rfl, h⟩ | ⟨rfl, h⟩
      · refine ⟨fun _ => ?_, fun h => by cases h⟩
        rw [← e]; exact step t' h
      · refine ⟨fun h => (by cases h), fun _ => ?_⟩
        rw [← e]
        have := sput_den hn t' o.dst uS
        rw [show uA = (uS : SV).den from rfl, this]
        rw [sputK_eq] at h
        exact runS_G hcs hn hK hX h
def qset (ops : Array Oper) : WS := match drawOKW [] ops with
  | true => []
  | false => ops.toList.filterMap fun o => (fnCall o).map fun d => (d, .q)
theorem qset_lookup {ops : Array Oper} {d : Nat} {m : MK} (h : (qset ops).lookup d = some m) : m = .q := by
  unfold qset at h
  split at h
  · cases h
  · generalize ops.toList = l at h
    induction l with
    | nil => cases h
    | cons o l ih =>
      simp only [List.filterMap_cons] at h
      cases hf : fnCall o with
      | none => simp only [hf, Option.map_none] at h; exact ih h
      | some d' =>
        simp only [hf, Option.map_some] at h
        rw [List.lookup_cons] at h
        split at h
        · cases h; rfl
        · exact ih h
theorem isW_q {ops : Array Oper} {o : Oper} {m : MK} (h : isW (qset ops) o = some m) : m = .q ∧ isFn o = true := by
  unfold isW at h
  cases hf : fnCall o with
  | none =>
    simp only [hf] at h
    split at h
    · split at h
      · rename_i hl
        have := qset_lookup hl
        cases this
      · cases h
    · cases h
  | some d =>
    simp only [hf] at h
    refine ⟨qset_lookup h, ?_⟩
    unfold fnCall at hf
    unfold isFn
    split at hf
    · rename_i c hc
      split at hf
      · rename_i f hcc; simp [hc, hcc]
      · rename_i r m hcc; simp [hc, hcc]
      · cases hf
    · cases hf
theorem runS_L {cs : CSpec} (hcs : SoundS P cs) {n : Nat} (hn : n ≤ 512) {ops : Array Oper} {K : FS → XS → Prop} {K' : List AV → Store → Prop}
    (hK : ∀ t X, X.n < 512 → K t X → K' (frD n t) X.den) : ∀ {l : List Oper} {t : FS} {X : XS}, X.n < 512 → runS P cs n ops K l t X → RunL P (qset ops) ops K' l (frD n t) X.den
  | [], t, X, hX, h => hK t X hX h
  | o :: l, t, X, hX, h => by
    have step : ∀ t, stepS P cs n o t X (runS P cs n ops K l) → ∃ v ρ', bop P (qset ops) o (aev (frD n t)) X.den v ρ' ∧ RunL P (qset ops) ops K' l (putA (frD n t) o.dst v) ρ' := by
      intro t h
      obtain ⟨v, X', h1, h2, h3, h4⟩ := stepS_spec hcs hX h
      refine ⟨v.den, X'.den, ?_, ?_⟩
      · cases hw : isW (qset ops) o with
        | none => exact .inl ⟨hw, h3⟩
        | some m =>
          obtain ⟨rfl, hf⟩ := isW_q hw
          obtain ⟨rfl, h5⟩ := h4 hf
          exact .inr (.inl ⟨hw, rfl, h5⟩)
      · rw [sput_den hn]
        exact runS_L hcs hn hK h1 h2
    have h : (match o.guard with
      | none => stepS P cs n o t X (runS P cs n ops K l)
      | some (j, want) => gvS ops n t j want (fun t => stepS P cs n o t X (runS P cs n ops K l)) (fun t => sputK n t o.dst uS fun t => runS P cs n ops K l t X)) := h
    unfold RunL
    split at h
    · rename_i hg
      obtain ⟨v, ρ', h1, h2⟩ := step t h
      exact ⟨v, ρ', by unfold stepV; simp only [hg]; exact h1, h2⟩
    · rename_i j want hg
      obtain ⟨b, t', e, hb, h⟩ := gvS_spec hn h
      rcases h with ⟨rfl, h⟩ | ⟨rfl, h⟩
      · rw [← e] at hb ⊢
        obtain ⟨v, ρ', h1, h2⟩ := step t' h
        exact ⟨v, ρ', by unfold stepV; simp only [hg]; exact ⟨true, hb, .inl ⟨rfl, h1⟩⟩, h2⟩
      · rw [← e] at hb ⊢
        refine ⟨uA, X.den, by unfold stepV; simp only [hg]; exact ⟨false, hb, .inr (by simp)⟩, ?_⟩
        have := sput_den hn t' o.dst uS
        rw [show uA = (uS : SV).den from rfl, this]
        rw [sputK_eq] at h
        exact runS_L hcs hn hK hX h
end Go.Lg

namespace Go.Lg
open Go.RowKit
variable {P:Program}

def okRowB (nr:Nat) (ms:Ms) (r r':Nat):Bool:=match Nat.blt r' nr with
 | true=>Nat.beq r r'
 | false=>(match ms[Nat.sub r' nr]? with
  | some (some m)=>Nat.beq m r
  | _=>false)
theorem okRowB_spec {nr ms r r'} (h:okRowB nr ms r r'=true):(r'<nr∧r=r')∨∃ i,r'=nr+i∧ms[i]?=some (some r):=by
 unfold okRowB at h
 split at h
 ·rename_i hb
  exact .inl ⟨by simpa [Nat.blt_eq] using hb,by simpa using h⟩
 ·rename_i hb
  split at h
  ·rename_i m hm
   simp only [Nat.beq_eq] at h
   subst h
   have hb:¬ r'<nr:=fun hlt=>by rw [show Nat.blt r' nr=true by simpa [Nat.blt_eq] using hlt] at hb; cases hb
   exact .inr ⟨r' - nr,by omega,hm⟩
  ·cases h
def newRowB (nr:Nat) (ms:Ms) (r':Nat):Bool:=Nat.ble nr r' && Nat.blt (Nat.sub r' nr) ms.length
theorem newRowB_spec {nr ms r'} (h:newRowB nr ms r'=true):∃ i,r'=nr+i∧i<ms.length:=by
 simp only [newRowB,Bool.and_eq_true,Nat.ble_eq,Nat.blt_eq] at h
 have h2:r' - nr<ms.length:=h.2
 exact ⟨r' - nr,by omega,h2⟩
def pureS:SV→Prop
 | .any | .int .. | .dec .. | .bool _ | .val _=>True
 | .lst _ n f=>∀ i,i<n→pureS (f i)
 | .agg c=>pureSL c
 | .ipt c=>pureSL c
 | .tup c=>pureSL c
 | .clo _ a b=>pureSL a∧pureSL b
 | .ifc _ v=>pureS v
 | _=>False
where pureSL:List SV→Prop
 | []=>True
 | x :: xs=>pureS x∧pureSL xs
theorem pureS_spec:∀ (v:SV),pureS v→Pure v.den
 | .any,_=>.any
 | .int ..,_=>.sc _
 | .dec ..,_=>.sc _
 | .bool _,_=>.sc _
 | .val _,_=>.sc _
 | .lst sz n f,h=>by
  have h:∀ i,i<n→pureS (f i):=by simpa [pureS] using h
  refine .isl _ _ fun i hi j hj=>?_
  have hi:i<n:=by simpa using hi
  rw [show ((List.range n).map fun i=>(f i).den).getD i .any=(f i).den by simp [List.getD,hi]]
  exact pure_cellsA (pureS_spec (f i) (h i hi)) j
 | .agg c,h=>.agg _ (specL c (by simpa [pureS] using h))
 | .ipt c,h=>.iptr _ (specL c (by simpa [pureS] using h))
 | .tup c,h=>.tup _ (specL c (by simpa [pureS] using h))
 | .clo fn a b,h=>by
  have h:pureS.pureSL a∧pureS.pureSL b:=by simpa [pureS] using h
  exact .clo _ _ _ (specL a h.1) (specL b h.2)
 | .ifc t v,h=>.ifc _ _ (pureS_spec v (by simpa [pureS] using h))
 | .ptr ..,h=>(by simp [pureS] at h)
 | .ptd ..,h=>(by simp [pureS] at h)
 | .ipd ..,h=>(by simp [pureS] at h)
 | .sl ..,h=>(by simp [pureS] at h)
 | .sub ..,h=>(by simp [pureS] at h)
 | .yld _,h=>(by simp [pureS] at h)
 | .mp _,h=>(by simp [pureS] at h)
where specL:∀ (c:List SV),pureS.pureSL c→∀ j,j<(SV.denL c).length→Pure ((SV.denL c).getD j .any)
 | [],_,j,hj=>by simp [SV.denL] at hj
 | x :: xs,h,j,hj=>by
  have h:pureS x∧pureS.pureSL xs:=by simpa [pureS.pureSL] using h
  cases j with
  | zero=>exact pureS_spec x h.1
  | succ j=>exact specL xs h.2 j (by simpa [SV.denL] using hj)

mutual
noncomputable def eqS:SV→SV→Prop→Prop
 | .int K' z',v,k=>(match v with
  | .int K z=>ifP (kindEq K K') (z=z'∧k)
  | _=>False)
 | .dec p' _,v,k=>(match v with
  | .dec p _=>(p↔p')∧k
  | .bool b=>(b=true↔p')∧k
  | _=>False)
 | .bool b',v,k=>(match v with
  | .dec p _=>(p↔b'=true)∧k
  | .bool b=>b=b'∧k
  | _=>False)
 | .val u',v,k=>(match v with
  | .val u=>u=u'∧k
  | _=>False)
 | .agg c',v,k=>(match v with
  | .agg c=>eqSL c' c k
  | _=>False)
 | .tup c',v,k=>(match v with
  | .tup c=>eqSL c' c k
  | _=>False)
 | _,_,_=>False
noncomputable def eqSL:List SV→List SV→Prop→Prop
 | [],c,k=>(match c with
  | []=>k
  | _=>False)
 | x' :: xs',c,k=>(match c with
  | x :: xs=>eqS x' x (eqSL xs' xs k)
  | []=>False)
end
mutual
theorem eqS_den:∀ (v' v:SV) {k:Prop},eqS v' v k→v.den=v'.den∧k
 | .int K' z',v,k,h=>by
  cases v <;> simp only [eqS] at h
  case int K z =>
   obtain ⟨h1,rfl,hk⟩:=ifP_spec h
   have:=kindEq_spec h1
   subst this
   exact ⟨rfl,hk⟩
 | .dec p' i',v,k,h=>by
  cases v <;> simp only [eqS] at h
  case dec p i=>exact ⟨by simp only [SV.den]; congr 2; simp [h.1],h.2⟩
  case bool b=>exact ⟨by simp only [SV.den]; congr 2; have:=h.1; cases b <;> simp_all,h.2⟩
 | .bool b',v,k,h=>by
  cases v <;> simp only [eqS] at h
  case dec p i=>exact ⟨by simp only [SV.den]; congr 2; have:=h.1; cases b' <;> simp_all,h.2⟩
  case bool b =>
   obtain ⟨rfl,hk⟩:=h
   exact ⟨rfl,hk⟩
 | .val u',v,k,h=>by
  cases v <;> simp only [eqS] at h
  case val u =>
   obtain ⟨rfl,hk⟩:=h
   exact ⟨rfl,hk⟩
 | .agg c',v,k,h=>by
  cases v <;> simp only [eqS] at h
  case agg c =>
   obtain ⟨h1,hk⟩:=eqSL_den c' c h
   exact ⟨by simp only [SV.den,h1],hk⟩
 | .tup c',v,k,h=>by
  cases v <;> simp only [eqS] at h
  case tup c =>
   obtain ⟨h1,hk⟩:=eqSL_den c' c h
   exact ⟨by simp only [SV.den,h1],hk⟩
 | .any,v,k,h=>by simp [eqS] at h
 | .ptr ..,v,k,h=>by simp [eqS] at h
 | .ptd ..,v,k,h=>by simp [eqS] at h
 | .ipd ..,v,k,h=>by simp [eqS] at h
 | .sl ..,v,k,h=>by simp [eqS] at h
 | .sub ..,v,k,h=>by simp [eqS] at h
 | .lst ..,v,k,h=>by simp [eqS] at h
 | .ipt _,v,k,h=>by simp [eqS] at h
 | .clo ..,v,k,h=>by simp [eqS] at h
 | .yld _,v,k,h=>by simp [eqS] at h
 | .mp _,v,k,h=>by simp [eqS] at h
 | .ifc ..,v,k,h=>by simp [eqS] at h
theorem eqSL_den:∀ (c' c:List SV) {k:Prop},eqSL c' c k→SV.denL c=SV.denL c'∧k
 | [],c,k,h=>by
  cases c with
  | nil=>exact ⟨rfl,by simpa [eqSL] using h⟩
  | cons x c=>simp [eqSL] at h
 | x' :: xs',c,k,h=>by
  cases c with
  | nil=>simp [eqSL] at h
  | cons x xs =>
   simp only [eqSL] at h
   obtain ⟨h1,h⟩:=eqS_den x' x h
   obtain ⟨h3,h⟩:=eqSL_den xs' xs h
   exact ⟨by simp only [SV.denL,h1,h3],h⟩
end
noncomputable def mapP (S R:SV) (k:Prop):Prop:=match S with
 | .lst _ c' g'=>(match R with
  | .lst _ c g=>c=c'∧(∀ i,i<c'→eqS (g' i) (g i) (pureS (g' i)))∧k
  | _=>False)
 | _=>False
theorem valA_bel {n:Nat} {a:AV} (h:Pure a):Bel n (valA a):=by
 unfold valA
 split
 ·cases h with
  | tup _ h=>exact .pure _ (h 1 (by simp))
 ·exact .pure _ .any
theorem mapP_spec {S R:SV} {k:Prop} {nr:Nat} (h:mapP S R k):(∃ o,mapOb S=some o∧mapOb R=some o∧BelQ nr (some o))∧k:=by
 unfold mapP at h
 split at h
 ·rename_i z' c' g'
  split at h
  ·rename_i z c g
   obtain ⟨rfl,h1,h2⟩:=h
   refine ⟨⟨.map (entsV c g') c,rfl,?_,fun x hx=>?_⟩,h2⟩
   ·have e:entsV c g=entsV c g':=List.map_congr_left fun i hi=>by rw [(eqS_den _ _ (h1 i (List.mem_range.1 hi))).1]
    show some (ObjA.map (entsV c g) c)=_
    rw [e]
   ·obtain ⟨i,hi,rfl⟩:=List.mem_map.1 hx
    exact valA_bel (pureS_spec _ (eqS_den _ _ (h1 i (List.mem_range.1 hi))).2)
  ·exact h.elim
 ·exact h.elim

def memB (r:Nat):Ms→Bool
 | []=>false
 | none :: q=>memB r q
 | some m :: q=>or (Nat.beq m r) (memB r q)
def deadB (nr:Nat) (ms:Ms) (r:Nat):Bool:=and (Nat.ble nr r) (not (memB r ms))
theorem memB_spec {r:Nat}:∀ {ms:Ms},some r ∈ ms→memB r ms=true
 | none :: q,h=>memB_spec (ms:=q) (by simpa using h)
 | some m :: q,h=>by
  simp only [memB,Bool.or_eq_true,Nat.beq_eq]
  rcases List.mem_cons.1 h with h | h
  ·cases h; exact .inl rfl
  ·exact .inr (memB_spec h)
theorem deadB_spec {nr:Nat} {ms:Ms} {r:Nat} (h:deadB nr ms r=true):nr≤r∧some r ∉ ms:=by
 simp only [deadB,Bool.and_eq_true,Nat.ble_eq,Bool.not_eq_true'] at h
 exact ⟨h.1,fun hm=>by rw [memB_spec hm] at h; cases h.2⟩
mutual
noncomputable def renS (fz:Bool) (Y:XS) (nr:Nat) (ms:Ms):SV→SV→Prop→Prop
 | .any,_,k=>k
 | .int K' z',v,k=>(match v with
  | .int K z=>ifP (kindEq K K') (z=z'∧k)
  | _=>False)
 | .dec p' _,v,k=>(match v with
  | .dec p _=>(p↔p')∧k
  | .bool b=>(b=true↔p')∧k
  | _=>False)
 | .bool b',v,k=>(match v with
  | .dec p _=>(p↔b'=true)∧k
  | .bool b=>b=b'∧k
  | _=>False)
 | .val u',v,k=>(match v with
  | .val u=>u=u'∧k
  | _=>False)
 | .ptr r' i' j',v,k=>(match v with
  | .ptr r i j=>ifP (okRowB nr ms r r') (i=i'∧j=j'∧k)
  | _=>False)
 | .ptd ..,_,_=>False
 | .ipd ..,_,_=>False
 | .sl r' o' n',v,k=>(match v with
  | .sl r o n=>ifP (okRowB nr ms r r') (o=o'∧n=n'∧k)
  | .val (.slice none 0 0)=>ifP (newRowB nr ms r') (0=o'∧0=n'∧k)
  | _=>False)
 | .sub r' i' j' s' n',v,k=>(match v with
  | .sub r i j s n=>ifP (okRowB nr ms r r') (i=i'∧j=j'∧s=s'∧n=n'∧k)
  | _=>False)
 | .lst sz' n' f',v,k=>(match v with
  | .lst sz n f=>ifP (Nat.beq sz sz') (n=n'∧(∀ i,i<n'→(f i).den=(f' i).den∧pureS (f' i))∧k)
  | .val (.slice none 0 0)=>ifP fz (0=n'∧k)
  | .sl r o n=>ifP (and fz (deadB nr ms r)) (match Y.row r with
   | some R=>ifP (Nat.beq R.sz sz') (n=n'∧o+n≤R.n∧(∀ i,i<n'→(R.f (i+o)).den=(f' i).den∧(f' i).cells.length=sz'∧pureS (f' i))∧k)
   | none=>False)
  | _=>False)
 | .agg c',v,k=>(match v with
  | .agg c=>renSL fz Y nr ms c' c k
  | _=>False)
 | .ipt c',v,k=>(match v with
  | .ipt c=>SV.denL c=SV.denL c'∧pureS.pureSL c'∧k
  | _=>False)
 | .clo fn' a' b',v,k=>(match v with
  | .clo fn a b=>fn=fn'∧renSL fz Y nr ms a' a (renSL fz Y nr ms b' b k)
  | _=>False)
 | .mp r',v,k=>(match v with
  | .mp r=>ifP (okRowB nr ms r r') k
  | _=>False)
 | .ifc t' x',v,k=>(match v with
  | .ifc t x=>ifP (Nat.beq t t') (renS fz Y nr ms x' x k)
  | _=>False)
 | .yld r',v,k=>(match v with
  | .yld r=>ifP (Nat.beq r r' && Nat.blt r' nr) k
  | _=>False)
 | .tup _,_,_=>False
noncomputable def renSL (fz:Bool) (Y:XS) (nr:Nat) (ms:Ms):List SV→List SV→Prop→Prop
 | [],c,k=>(match c with
  | []=>k
  | _=>False)
 | x' :: xs',c,k=>(match c with
  | x :: xs=>renS fz Y nr ms x' x (renSL fz Y nr ms xs' xs k)
  | []=>False)
end
section
variable {fz:Bool} {Y:XS} {nr:Nat} {ms:Ms}
theorem renRow {r r':Nat} (h:okRowB nr ms r r'=true) (f:Nat→AV) (h1:r<nr→Bel nr (f r)) (h2:∀ i,ms[i]?=some (some r)→RenV fz nr ms Y.den (f r) (f (nr+i))):RenV fz nr ms Y.den (f r) (f r'):=by
 rcases okRowB_spec h with ⟨h3,rfl⟩ | ⟨i,rfl,h3⟩
 ·exact .bel _ (h1 h3)
 ·exact h2 i h3
mutual
theorem renS_spec:∀ (v' v:SV) {k:Prop},renS fz Y nr ms v' v k→RenV fz nr ms Y.den v.den v'.den∧k
 | .any,v,k,h=>⟨.drop _,by simpa [renS] using h⟩
 | .int K' z',v,k,h=>by
  cases v <;> simp only [renS] at h
  case int K z =>
   obtain ⟨h1,rfl,hk⟩:=ifP_spec h
   have:=kindEq_spec h1
   subst this
   exact ⟨.bel _ (.pure _ (.sc _)),hk⟩
 | .dec p' i',v,k,h=>by
  cases v <;> simp only [renS] at h
  case dec p i =>
   refine ⟨?_,h.2⟩
   have e:decide p'=decide p:=by simp [h.1]
   simp only [SV.den]; rw [e]
   exact .bel _ (.pure _ (.sc _))
  case bool b =>
   refine ⟨?_,h.2⟩
   have e:decide p'=b:=by
    have:=h.1
    cases b <;> simp_all
   simp only [SV.den]; rw [e]
   exact .bel _ (.pure _ (.sc _))
 | .bool b',v,k,h=>by
  cases v <;> simp only [renS] at h
  case dec p i =>
   refine ⟨?_,h.2⟩
   have e:decide p=b':=by
    have:=h.1
    cases b' <;> simp_all
   simp only [SV.den]; rw [e]
   exact .bel _ (.pure _ (.sc _))
  case bool b =>
   obtain ⟨rfl,hk⟩:=h
   exact ⟨.bel _ (.pure _ (.sc _)),hk⟩
 | .val u',v,k,h=>by
  cases v <;> simp only [renS] at h
  case val u =>
   obtain ⟨rfl,hk⟩:=h
   exact ⟨.bel _ (.pure _ (.sc _)),hk⟩
 | .ptd ..,v,k,h=>by simp [renS] at h
 | .ipd ..,v,k,h=>by simp [renS] at h
 | .ptr r' i' j',v,k,h=>by
  cases v <;> simp only [renS] at h
  case ptr r i j =>
   obtain ⟨h1,rfl,rfl,hk⟩:=ifP_spec h
   exact ⟨renRow h1 (fun r=>.ptr r i j) (fun h=>.ptr _ _ _ h) (fun m hm=>.ptr _ _ _ _ hm),hk⟩
 | .sl r' o' n',v,k,h=>by
  cases v <;> simp only [renS] at h
  case sl r o n =>
   obtain ⟨h1,rfl,rfl,hk⟩:=ifP_spec h
   exact ⟨renRow h1 (fun r=>.sl r o n) (fun h=>.sl _ _ _ h) (fun m hm=>.sl _ _ _ _ hm),hk⟩
  case val u =>
   split at h
   ·rename_i hu; cases hu
   ·rename_i hu
    cases hu
    obtain ⟨h1,rfl,rfl,hk⟩:=ifP_spec h
    obtain ⟨i,rfl,h2⟩:=newRowB_spec h1
    exact ⟨.nil _ h2,hk⟩
   ·exact h.elim
 | .sub r' i' j' s' n',v,k,h=>by
  cases v <;> simp only [renS] at h
  case sub r i j s n =>
   obtain ⟨h1,rfl,rfl,rfl,rfl,hk⟩:=ifP_spec h
   exact ⟨renRow h1 (fun r=>.sub r i j s n) (fun h=>.sub _ _ _ _ _ h) (fun m hm=>.sub _ _ _ _ _ _ hm),hk⟩
 | .lst sz' n' f',v,k,h=>by
  cases v <;> simp only [renS] at h
  case lst sz n f =>
   obtain ⟨h1,rfl,h2,hk⟩:=ifP_spec h
   simp only [Nat.beq_eq] at h1
   subst h1
   refine ⟨?_,hk⟩
   have e:(SV.lst sz n f).den=(SV.lst sz n f').den:=by
    simp only [SV.den]; congr 1
    exact List.map_congr_left fun i hi=>(h2 i (by simpa using hi)).1
   rw [e]
   exact .bel _ (.pure _ (pureS_spec (.lst sz n f') (by simp only [pureS]; exact fun i hi=>(h2 i hi).2)))
  case val u =>
   split at h
   ·rename_i hu; cases hu
   ·rename_i hu; cases hu
    obtain ⟨h1,rfl,hk⟩:=ifP_spec h
    subst h1
    exact ⟨.snap _ _ (.nil _),hk⟩
   ·rename_i hu; cases hu
   ·exact h.elim
  case sl r o n =>
   obtain ⟨h1,g0⟩:=ifP_spec h
   clear h
   simp only [Bool.and_eq_true] at h1
   obtain ⟨rfl,hd⟩:=h1
   split at g0
   ·rename_i R hR
    obtain ⟨h1,rfl,h2,h3,hk⟩:=ifP_spec g0
    simp only [Nat.beq_eq] at h1
    subst h1
    refine ⟨.snap _ _ ?_,hk⟩
    have g:∀ i,i<n→((List.range n).map fun i=>(f' i).den).getD i .any=(f' i).den:=fun i hi=>by simp [List.getD,hi]
    refine .sl r o n R.den ((List.range n).map fun i=>(f' i).den) (Y.row_get hR) (by show o+n≤R.els.length; rw [els_length]; exact h2) (by simp) (fun i hi=>?_) (fun i hi j hj=>?_) ⟨rfl,deadB_spec hd⟩
    ·rw [g i hi,den_cells,denL_length]; exact (h3 i hi).2.1
    ·rw [g i hi]
     show SnapP _ _ ((R.els.getD (o+i) .any).cells.getD j .any) _
     rw [Nat.add_comm o i,els_get (by omega),(h3 i hi).1]
     exact .pure _ (pure_cellsA (pureS_spec _ (h3 i hi).2.2) j)
   ·exact g0.elim
 | .agg c',v,k,h=>by
  cases v <;> simp only [renS] at h
  case agg c =>
   obtain ⟨h1,h2,h3⟩:=renSL_spec c' c h
   exact ⟨.agg _ _ h1 h2,h3⟩
 | .ipt c',v,k,h=>by
  cases v <;> simp only [renS] at h
  case ipt c =>
   obtain ⟨h1,h2,h3⟩:=h
   refine ⟨?_,h3⟩
   have e:(SV.ipt c).den=(SV.ipt c').den:=by simp only [SV.den,h1]
   rw [e]
   exact .bel _ (.pure _ (pureS_spec (.ipt c') (by simpa [pureS] using h2)))
 | .clo fn' a' b',v,k,h=>by
  cases v <;> simp only [renS] at h
  case clo fn a b =>
   obtain ⟨rfl,hk⟩:=h
   obtain ⟨h1,h2,hk⟩:=renSL_spec a' a hk
   obtain ⟨h3,h4,hk⟩:=renSL_spec b' b hk
   exact ⟨.clo _ _ _ _ _ h1 h2 h3 h4,hk⟩
 | .mp r',v,k,h=>by
  cases v <;> simp only [renS] at h
  case mp r =>
   obtain ⟨h1,hk⟩:=ifP_spec h
   exact ⟨renRow h1 (fun r=>.mp r) (fun h=>.mp _ h) (fun m hm=>.mp _ _ hm),hk⟩
 | .ifc t' x',v,k,h=>by
  cases v <;> simp only [renS] at h
  case ifc t x =>
   obtain ⟨h1,hk⟩:=ifP_spec h
   have h1:t=t':=by simpa using h1
   subst h1
   obtain ⟨h2,hk⟩:=renS_spec x' x hk
   exact ⟨.ifc _ _ _ h2,hk⟩
 | .yld r',v,k,h=>by
  cases v <;> simp only [renS] at h
  case yld r =>
   obtain ⟨h1,hk⟩:=ifP_spec h
   simp only [Bool.and_eq_true,Nat.beq_eq,Nat.blt_eq] at h1
   obtain ⟨rfl,h1⟩:=h1
   exact ⟨.bel _ (.yld _ h1),hk⟩
 | .tup _,v,k,h=>by simp [renS] at h
theorem renSL_spec:∀ (c' c:List SV) {k:Prop},renSL fz Y nr ms c' c k →
  (SV.denL c').length=(SV.denL c).length∧(∀ j,j<(SV.denL c).length→RenV fz nr ms Y.den ((SV.denL c).getD j .any) ((SV.denL c').getD j .any))∧k
 | [],c,k,h=>by
  cases c with
  | nil=>exact ⟨rfl,fun j hj=>by simp [SV.denL] at hj,by simpa [renSL] using h⟩
  | cons x c=>simp [renSL] at h
 | x' :: xs',c,k,h=>by
  cases c with
  | nil=>simp [renSL] at h
  | cons x xs =>
   simp only [renSL] at h
   obtain ⟨h1,h⟩:=renS_spec x' x h
   obtain ⟨h2,h3,h⟩:=renSL_spec xs' xs h
   refine ⟨by simp [SV.denL,h2],fun j hj=>?_,h⟩
   cases j with
   | zero=>exact h1
   | succ j=>exact h3 j (by simpa [SV.denL] using hj)
end
end

noncomputable def renF (fz:Bool) (Y:XS) (n nr:Nat) (ms:Ms) (t' t:FS) (m:Nat) (k:Prop):Prop :=
 Nat.rec (motive:=fun _=>Prop→Prop) (fun k=>k) (fun i ih k=>ih (renS fz Y nr ms (sget n t' i) (sget n t i) k)) m k
theorem renF_spec {fz:Bool} {Y:XS} {n nr:Nat} {ms:Ms} {t' t:FS}:∀ {m:Nat} {k:Prop},renF fz Y n nr ms t' t m k→(∀ i,i<m→RenV fz nr ms Y.den (sget n t i).den (sget n t' i).den)∧k
 | 0,k,h=>⟨fun i hi=>by omega,h⟩
 | m+1,k,h=>by
  have h:renF fz Y n nr ms t' t m (renS fz Y nr ms (sget n t' m) (sget n t m) k):=h
  obtain ⟨h1,h⟩:=renF_spec h
  obtain ⟨h2,h⟩:=renS_spec _ _ h
  exact ⟨fun i hi=>by
   rcases Nat.lt_succ_iff_lt_or_eq.1 hi with h | rfl
   ·exact h1 i h
   ·exact h2,h⟩
theorem RenL.ofGet {b nr ms ρ}:∀ {A A':List AV},A'.length=A.length→(∀ i,i<A.length→RenV b nr ms ρ (A.getD i .any) (A'.getD i .any))→RenL b nr ms ρ A A'
 | [],[],_,_=>.nil
 | [],_ :: _,h,_=>by simp at h
 | _ :: _,[],h,_=>by simp at h
 | v :: A,v' :: A',hl,h=>.cons (h 0 (by simp)) (RenL.ofGet (by simpa using hl) fun i hi=>h (i+1) (by simpa using hi))
theorem frD_length (n:Nat) (t:FS):(frD n t).length=n:=by simp [frD,fL]
theorem renF_RenL {fz:Bool} {Y:XS} {n nr:Nat} {ms:Ms} {t' t:FS} {k:Prop} (h:renF fz Y n nr ms t' t n k):RenL fz nr ms Y.den (frD n t) (frD n t')∧k:=by
 obtain ⟨h1,h2⟩:=renF_spec h
 refine ⟨RenL.ofGet (by rw [frD_length,frD_length]) fun i hi=>?_,h2⟩
 rw [frD_length] at hi
 rw [sget_den,sget_den]; exact h1 i hi

noncomputable def rowP (fz:Bool) (Y:XS) (nr:Nat) (ms:Ms) (S R:Option SRow) (k:Prop):Prop:=match S with
 | none=>k
 | some S=>(match R with
  | none=>False
  | some R=>ifP (Nat.beq S.sz R.sz) (match S.var && R.var with
   | true=>(match Nat.beq S.n 0 with
    | true=>ifP (Nat.beq R.n 0) (mapP (S.f 0) (R.f 0) k)
    | false=>ifP (Nat.beq R.n 1 && Nat.beq S.n 1 && Nat.beq (S.f 0).cells.length (R.f 0).cells.length) (renS fz Y nr ms (S.f 0) (R.f 0) k))
   | false=>ifP (noMap S) (match fz with
    | true=>(match R.f 9223372036854775808 with
     | .tup [.lst _ n f,.lst _ m g]=>R.f=appP n m f g∧R.n=n+m∧n+m≤4611686018427387904∧S.n=R.n∧(∀ i,i<n→(S.f i).cells.length=(f i).cells.length∧renS fz Y nr ms (S.f i) (f i) True)∧(∀ i,i<m→(S.f (n+i)).cells.length=(g i).cells.length∧renS fz Y nr ms (S.f (n+i)) (g i) True)∧k
     | _=>S.n=R.n∧(∀ i,i<S.n→(S.f i).cells.length=(R.f i).cells.length∧renS fz Y nr ms (S.f i) (R.f i) True)∧k)
    | false=>S.n=R.n∧(∀ i,i<S.n→(S.f i).cells.length=(R.f i).cells.length∧renS fz Y nr ms (S.f i) (R.f i) True)∧k)))
theorem rowP_spec {fz:Bool} {Y:XS} {nr:Nat} {ms:Ms} {S R:Option SRow} {k:Prop} (h:rowP fz Y nr ms S R k):RenR fz nr ms Y.den (denR R) (denR S)∧k:=by
 unfold rowP at h
 split at h
 ·exact ⟨trivial,h⟩
 ·rename_i S
  split at h
  ·exact h.elim
  ·rename_i R
   obtain ⟨h1,h⟩:=ifP_spec h
   simp only [Nat.beq_eq] at h1
   have fin:∀ {k:Prop},S.obj=none→S.n=R.n→(∀ i,i<S.n→((S.f i).cells.length=(R.f i).cells.length∧RenV fz nr ms Y.den (R.f i).den (S.f i).den))→k→RenR fz nr ms Y.den (denR (some R)) (denR (some S))∧k:=by
    intro k h0 h2 h3 hk
    refine ⟨⟨R.den,rfl,h1,by show S.els.length=R.els.length; rw [els_length,els_length,h2],.inl h0,fun i hi=>?_⟩,hk⟩
    have hi:i<R.n:=by rw [← els_length]; exact hi
    have hi':i<S.n:=by omega
    show (S.els.getD i .any).cells.length=(R.els.getD i .any).cells.length∧RenV fz nr ms Y.den (R.els.getD i .any) (S.els.getD i .any)
    rw [els_get hi,els_get hi',den_cells,den_cells,denL_length,denL_length]
    exact h3 i hi'
   split at h
   ·rename_i hv
    simp only [Bool.and_eq_true] at hv
    split at h
    ·rename_i hS0
     have hS0:=Nat.eq_of_beq_eq_true hS0
     obtain ⟨hR0,h⟩:=ifP_spec h
     have hR0:=Nat.eq_of_beq_eq_true hR0
     obtain ⟨⟨o,o1,o2,o3⟩,h⟩:=mapP_spec (nr:=nr) h
     have oS:S.obj=some o:=by unfold SRow.obj; rw [hv.1,hS0]; exact o1
     have oR:R.obj=some o:=by unfold SRow.obj; rw [hv.2,hR0]; exact o2
     refine ⟨⟨R.den,rfl,h1,by show S.els.length=R.els.length; rw [els_length,els_length,hS0,hR0],.inr ⟨oS.trans oR.symm,?_⟩,fun i hi=>?_⟩,h⟩
     ·show BelQ nr R.obj
      rw [oR]; exact o3
     ·have hi:i<R.els.length:=hi
      rw [els_length] at hi; omega
    ·obtain ⟨h2,h⟩:=ifP_spec h
     simp only [Bool.and_eq_true,Nat.beq_eq] at h2
     obtain ⟨h3,h⟩:=renS_spec _ _ h
     exact fin (SRow.obj_n (by omega)) (by omega) (fun i hi=>by
      have:i=0:=by omega
      subst this
      exact ⟨h2.2,h3⟩) h
   ·obtain ⟨h0,h⟩:=ifP_spec h
    split at h
    ·split at h
     ·rename_i z1 n f z2 m g hR
      obtain ⟨e1,e2,e3,e4,h3,h5,h⟩:=h
      refine fin (noMap_spec h0) e4 (fun i hi=>?_) h
      rw [e1]
      by_cases hn:i<n
      ·rw [appP_lo e3 hn]
       exact ⟨(h3 i hn).1,(renS_spec _ _ (h3 i hn).2).1⟩
      ·have e:i=n+(i - n):=by omega
       rw [e,appP_hi e3 (by omega)]
       exact ⟨(h5 _ (by omega)).1,(renS_spec _ _ (h5 _ (by omega)).2).1⟩
     ·obtain ⟨h2,h3,h⟩:=h
      exact fin (noMap_spec h0) h2 (fun i hi=>⟨(h3 i hi).1,(renS_spec _ _ (h3 i hi).2).1⟩) h
    ·obtain ⟨h2,h3,h⟩:=h
     exact fin (noMap_spec h0) h2 (fun i hi=>⟨(h3 i hi).1,(renS_spec _ _ (h3 i hi).2).1⟩) h
noncomputable def lows (fz:Bool) (Y:XS) (nr:Nat) (ms:Ms) (X' X:XS) (m:Nat) (k:Prop):Prop :=
 Nat.rec (motive:=fun _=>Prop→Prop) (fun k=>k) (fun r ih k=>ih (rowP fz Y nr ms (X'.row r) (X.row r) k)) m k
theorem lows_spec {fz:Bool} {Y:XS} {nr:Nat} {ms:Ms} {X' X:XS}:∀ {m:Nat} {k:Prop},lows fz Y nr ms X' X m k→(∀ r,r<m→RenR fz nr ms Y.den (denR (X.row r)) (denR (X'.row r)))∧k
 | 0,k,h=>⟨fun i hi=>by omega,h⟩
 | m+1,k,h=>by
  have h:lows fz Y nr ms X' X m (rowP fz Y nr ms (X'.row m) (X.row m) k):=h
  obtain ⟨h1,h⟩:=lows_spec h
  obtain ⟨h2,h⟩:=rowP_spec h
  exact ⟨fun i hi=>by
   rcases Nat.lt_succ_iff_lt_or_eq.1 hi with h | rfl
   ·exact h1 i h
   ·exact h2,h⟩
noncomputable def freshP (S:Option SRow) (k:Prop):Prop:=match S with
 | some S=>ifP (not S.var) (S.n=0∧k)
 | none=>False
noncomputable def his (fz:Bool) (Y:XS) (nr:Nat) (ms:Ms) (X' X:XS) (k:Prop) (q:Ms):Nat→Prop :=
 List.rec (motive:=fun _=>Nat→Prop) (fun _=>k) (fun m _ ih i=>match m with
  | some m=>rowP fz Y nr ms (X'.row i) (X.row m) (ih (Nat.succ i))
  | none=>freshP (X'.row i) (ih (Nat.succ i))) q
def hiR (fz:Bool) (Y:XS) (nr:Nat) (ms:Ms) (X' X:XS) (i:Nat) (m:Option Nat):Prop:=match m with
 | some m=>RenR fz nr ms Y.den (denR (X.row m)) (denR (X'.row i))
 | none=>∃ sz,denR (X'.row i)=some ⟨sz,[],none⟩
theorem his_spec {fz:Bool} {Y:XS} {nr:Nat} {ms:Ms} {X' X:XS} {k:Prop}:∀ {q:Ms} {i:Nat},his fz Y nr ms X' X k q i→(∀ j m,q[j]?=some m→hiR fz Y nr ms X' X (i+j) m)∧k
 | [],i,h=>⟨fun j m hm=>by simp at hm,h⟩
 | m :: q,i,h=>by
  have go:∀ (h1:hiR fz Y nr ms X' X i m) (h2:his fz Y nr ms X' X k q (Nat.succ i)),(∀ j m',(m :: q)[j]?=some m'→hiR fz Y nr ms X' X (i+j) m')∧k:=fun hA hB=>by
   obtain ⟨h1,h2⟩:=his_spec hB
   refine ⟨fun j m' hm=>?_,h2⟩
   cases j with
   | zero=>simp at hm; subst hm; exact hA
   | succ j =>
    have:=h1 j m' (by simpa using hm)
    rw [show i+(j+1)=Nat.succ i+j by omega]; exact this
  cases m with
  | some m =>
   have h:rowP fz Y nr ms (X'.row i) (X.row m) (his fz Y nr ms X' X k q (Nat.succ i)):=h
   obtain ⟨h2,h⟩:=rowP_spec h
   exact go h2 h
  | none =>
   have h:freshP (X'.row i) (his fz Y nr ms X' X k q (Nat.succ i)):=h
   unfold freshP at h
   split at h
   ·rename_i S hS
    obtain ⟨hv,h⟩:=ifP_spec h
    refine go ⟨S.sz,?_⟩ h.2
    rw [hS]; simp [denR,SRow.den,SRow.els,h.1,SRow.obj_f (R:=S) (by simpa using hv)]
   ·exact h.elim
def msOK (nr n:Nat) (ms:Ms):Bool:=match ms with
 | []=>true
 | [some m]=>Nat.ble nr m && Nat.blt m n
 | [none]=>true
 | ms=>(ms.all fun m=>match m with
  | some m=>Nat.ble nr m && Nat.blt m n
  | none=>true) && decide (ms.filterMap id).Nodup
theorem msOK_spec {nr n:Nat} {ms:Ms} (h:msOK nr n ms=true):(∀ m,some m ∈ ms→nr≤m∧m<n)∧(ms.filterMap id).Nodup:=by
 unfold msOK at h
 split at h
 ·simp
 ·rename_i m
  simp only [Bool.and_eq_true,Nat.ble_eq,Nat.blt_eq] at h
  refine ⟨fun m' hm=>?_,by simp⟩
  simp at hm; subst hm; exact h
 ·exact ⟨fun m' hm=>by simp at hm,by simp⟩
 ·simp only [Bool.and_eq_true,decide_eq_true_eq,List.all_eq_true] at h
  refine ⟨fun m hm=>?_,h.2⟩
  have:=h.1 _ hm
  simpa [Nat.ble_eq,Nat.blt_eq] using this
noncomputable def normZ (fz:Bool) (n nr:Nat) (ms:Ms) (t':FS) (X':XS) (t:FS) (X:XS) (k:Prop):Prop :=
 ifP (Nat.ble nr X.n && msOK nr X.n ms && Nat.beq X'.n (Nat.add nr ms.length)) (renF fz X n nr ms t' t n (lows fz X nr ms X' X nr (his fz X nr ms X' X k ms nr)))
noncomputable def normP (n nr:Nat) (ms:Ms) (t':FS) (X':XS) (t:FS) (X:XS) (k:Prop):Prop:=normZ false n nr ms t' X' t X k
theorem row_at {X:XS} {r:Nat} (h:r<X.n):X.den[r]?=some (denR (X.row r)):=by
 have e:X.den[r]?=some (Tr.get none (path 3 r) X.rt.t):=by
  unfold XS.den RowT.L
  have:r<X.rt.n:=h
  simp [this]
 rw [e]
 unfold XS.row
 rw [show Nat.blt r X.n=true by simpa [Nat.blt_eq] using h]
 exact congrArg some (Tr.get_map denR none _ _)
theorem normZ_spec {fz:Bool} {n0 n nr:Nat} {ms:Ms} {t' t:FS} {X' X:XS} {k:Prop} (hC:n0≤nr) (h:normZ fz n nr ms t' X' t X k):NormD n0 fz (frD n t) X.den (frD n t') X'.den∧k:=by
 obtain ⟨hc,h⟩:=ifP_spec h
 simp only [Bool.and_eq_true,Nat.ble_eq,Nat.beq_eq] at hc
 obtain ⟨⟨c1,c2⟩,c3⟩:=hc
 have c3:X'.n=nr+ms.length:=c3
 obtain ⟨m1,m2⟩:=msOK_spec c2
 obtain ⟨h1,h⟩:=renF_RenL h
 obtain ⟨h2,h⟩:=lows_spec h
 obtain ⟨h3,h⟩:=his_spec h
 refine ⟨⟨nr,ms,hC,by rw [XS.length]; exact c1,fun m hm=>by rw [XS.length]; exact m1 m hm,m2,h1,by rw [XS.length]; exact c3,?_,?_⟩,h⟩
 ·intro r x y hr hx hy
  rw [row_at (by omega)] at hx
  rw [row_at (by omega)] at hy
  cases hx; cases hy
  exact h2 r hr
 ·intro i y hy
  have hi:nr+i<X'.n:=by
   have:=(List.getElem?_eq_some_iff.1 hy).1
   rwa [XS.length] at this
  rw [row_at hi] at hy
  cases hy
  obtain ⟨m,hm⟩:∃ m,ms[i]?=some m:=⟨_,List.getElem?_eq_getElem (by omega)⟩
  have:=h3 i m hm
  cases m with
  | none=>exact .inr ⟨hm,this⟩
  | some m =>
   have hm':=m1 m (List.mem_of_getElem? hm)
   exact .inl ⟨m,_,hm,row_at hm'.2,this⟩
theorem normP_spec {C:Ctx} {n nr:Nat} {ms:Ms} {t' t:FS} {X' X:XS} {k:Prop} (hC:C.n0≤nr) (h:normP n nr ms t' X' t X k):Norm C (frD n t) X.den (frD n t') X'.den∧k:=by
 obtain ⟨⟨nr,ms,h1,h2⟩,hk⟩:=normZ_spec hC h
 exact ⟨⟨false,nr,ms,by simp,h1,h2⟩,hk⟩
end Go.Lg
