import Derived.Test.YtblomfkinjmjdaaLtLt2Lt3
import Derived.Test.YtblomfkinjmjdaaNaNbNc
set_option linter.unusedVariables false
set_option linter.unusedSimpArgs false
namespace Go.Lg
variable {P : Program} {W : WS}


theorem aop_srelG' {C : Ctx} {L : List LoopV} {st : List LS} {a w A ρ} (hs : SRelG C L st a w A ρ) : ∃ C' : Ctx, C'.rd = C.rd ∧ SRel C' a w A ρ ∧ ∀ a' w' A' ρ', SRel C' a' w' A' ρ' → SRelG C L st a' w' A' ρ' := by
  obtain ⟨C', h1, h2, h3⟩ := hs.open
  exact ⟨C', h1.1, h2, h3⟩

def opXg (P : Program) (L : List LoopV) (ops : Array Oper) (o : Oper) (K : AV → List LS → Store → Prop) (Kp : Exit → List LS → Store → Prop) (st : List LS) (A : List AV) (ρ : Store) : Prop := match o.guard with
  | none => opX P L o K Kp st A ρ
  | some (j, want) => (match gvalS ops A j want with
    | some b => (b = true → opX P L o K Kp st A ρ) ∧ (b = false → K uA st ρ)
    | none => False)
def lowL (ops : Array Oper) (b : Nat) : List Nat := (List.range ops.size).filter fun i => Nat.blt i b
def highL (ops : Array Oper) (b : Nat) : List Nat := (List.range ops.size).filter fun i => Nat.blt b i
def barB (W : WS) (ops : Array Oper) (B : Array Nat) (b : Nat) : Bool := drawB W ops B && Nat.blt b ops.size && ((List.range b).all fun j => bitB B b j) && ((highL ops b).all fun i => bitB B i b)

section
variable {ops : Array Oper} {B : Array Nat} {b : Nat} (hB : drawB W ops B = true) (hb : b < ops.size) (hlo : ∀ j, j < b → bitB B b j = true) (hhi : ∀ i, b < i → i < ops.size → bitB B i b = true)
include hB hb hlo hhi

theorem any_soundB {C : Ctx} {L : List LoopV} {st : List LS} {K : List LS → List AV → Store → Prop} {Kp : Exit → List LS → List AV → Store → Prop} {Q : Exit → Act → World → Prop}
    (hQ : ∀ a w st A ρ, SRelG C L st a w A ρ → K st A ρ → Q .normal a w) (hP : ∀ e a w st A ρ, SRelG C L st a w A ρ → Kp e st A ρ → Q e a w) {C' : Ctx} (hrd : C'.rd = C.rd) (hback : ∀ a' w' A' ρ', SRel C' a' w' A' ρ' → SRelG C L st a' w' A' ρ') :
    ∀ (fuel : Nat) (listed : Array Bool) (A : List AV) (ρ : Store) (a : Act) (w : World), SRel C' a w A ρ → fuel = (remL ops listed).length → listed.size = ops.size → Closed ops listed → (∀ i, b ≤ i → i < ops.size → listed.getD i true = false) →
      RunL P W ops (fun A ρ => opXg P L ops (opAt ops b) (fun v st' ρ' => RunL P W ops (K st') ((highL ops b).map (opAt ops)) (putA A (opAt ops b).dst v) ρ') (fun e st' ρ' => Kp e st' A ρ') st A ρ) (((remL ops listed).filter fun i => Nat.blt i b).map (opAt ops)) A ρ →
      ∀ n, wpAnyIn (fz C.rd) n P .any ops Q fuel listed a w
  | 0, listed, A, ρ, a, w, hs, hf, hsz, hcl, hun, h => fun nn => by
    have hr : remL ops listed = [] := List.eq_nil_of_length_eq_zero hf.symm
    have : b ∈ remL ops listed := mem_remL.2 ⟨hb, hun b (Nat.le_refl _) hb⟩
    rw [hr] at this; cases this
  | fuel + 1, listed, A, ρ, a, w, hs, hf, hsz, hcl, hun, h => fun nn => by
    have notl : ∀ {j}, j < ops.size → listed.getD j true = false → ¬ listed.getD j false = true := fun {j} hj h h' => by
      have : j < listed.size := by omega
      simp [Array.getD, this] at h h'
      rw [h] at h'; cases h'
    refine ⟨fun hnone => ?_, fun i hi => ?_⟩
    · exfalso
      cases hr : remL ops listed with
      | nil => rw [hr] at hf; simp at hf
      | cons i r =>
        have hi : i ∈ remL ops listed := by rw [hr]; simp
        obtain ⟨h1, h2⟩ := mem_remL.1 hi
        have hsort := remL_sorted ops listed
        rw [hr, List.pairwise_cons] at hsort
        have : i ∈ Region.ready .any ops listed := mem_ready.2 ⟨h1, h2, fun e he hb => by
          have hlt := drawB_edge hB h1 he hb
          have hon : e.on < ops.size := by omega
          cases hl : listed.getD e.on true with
          | true =>
            have : e.on < listed.size := by omega
            simpa [Array.getD, this] using hl
          | false =>
            have hm : e.on ∈ remL ops listed := mem_remL.2 ⟨hon, hl⟩
            rw [hr] at hm
            rcases List.mem_cons.1 hm with h | h
            · omega
            · have := hsort.1 _ h; omega⟩
        rw [hnone] at this; cases this
    · obtain ⟨h1, h2, h3⟩ := mem_ready.1 hi
      have hmem : i ∈ remL ops listed := mem_remL.2 ⟨h1, h2⟩
      have hclS : ∀ k, k < ops.size → (listed.setIfInBounds i true).getD k true = true → ∀ e ∈ (opAt ops k).after.toList, Region.binds .any e = true → (listed.setIfInBounds i true).getD e.on false = true := by
        intro k hk hkl e he hb
        have mono : listed.getD e.on false = true → (listed.setIfInBounds i true).getD e.on false = true := by
          intro h
          by_cases hlt : e.on < listed.size
          · by_cases e2 : i = e.on
            · subst e2; simp [Array.getD, hlt]
            · rw [getD_set_ne _ _ _ _ _ e2]; exact h
          · simp [Array.getD, hlt] at h
        by_cases e2 : k = i
        · subst e2; exact mono (h3 e he hb)
        · refine mono (hcl k hk ?_ e he hb)
          rwa [getD_set_ne _ _ _ _ _ (fun h => e2 h.symm)] at hkl
      rcases Nat.lt_trichotomy i b with hlt | rfl | hgt
      · -- one before
        have hmemf : i ∈ (remL ops listed).filter fun i => Nat.blt i b := List.mem_filter.2 ⟨hmem, by simpa [Nat.blt_eq] using hlt⟩
        obtain ⟨pre, post, hsplit⟩ := List.append_of_mem hmemf
        have hsort := (remL_sorted ops listed).filter (fun i => Nat.blt i b)
        rw [hsplit, List.pairwise_append] at hsort
        rw [hsplit, List.map_append, List.map_cons] at h
        have hc : ∀ x ∈ pre.map (opAt ops), conflictB W ops x (opAt ops i) = false := by
          intro x hx
          obtain ⟨j, hj, rfl⟩ := List.mem_map.1 hx
          have hji : j < i := hsort.2.2 j hj i (by simp)
          have hju : listed.getD j true = false := (mem_remL.1 (List.mem_filter.1 (show j ∈ (remL ops listed).filter fun i => Nat.blt i b by rw [hsplit]; simp [hj])).1).2
          cases hcf : conflictB W ops (opAt ops j) (opAt ops i) with
          | false => rfl
          | true =>
            have hbb := (drawB_pair hB h1 hji).2 hcf
            exact absurd (before_listed hB hsz hcl i h1 h3 j hji hbb) (notl (by omega) hju)
        obtain ⟨v, ρ', hst, hrun⟩ := RunL.front _ _ _ _ hc h
        rw [← hrd]
        refine stepV_wp (opAt_get h1) hs hst (fun a' w' hs' => ?_) nn
        rw [hrd]
        obtain ⟨p1, p2, hsp⟩ := List.append_of_mem hmem
        have hrem := remL_set hsz hsp
        have hsortp := remL_sorted ops listed
        rw [hsp, List.pairwise_append] at hsortp
        refine any_soundB hQ hP hrd hback fuel (listed.setIfInBounds i true) _ ρ' a' w' hs' ?_ (by simpa using hsz) hclS ?_ ?_ nn
        · rw [hrem]; rw [hsp] at hf; simp at hf ⊢; omega
        · intro k hk hks
          rw [getD_set_ne _ _ _ _ _ (by omega)]; exact hun k hk hks
        · have e1 : ((remL ops (listed.setIfInBounds i true)).filter fun i => Nat.blt i b) = pre ++ post := by
            have e2 : (remL ops (listed.setIfInBounds i true)) = (remL ops listed).filter (fun j => j != i) := by
              rw [hrem, hsp, List.filter_append, List.filter_cons]
              obtain ⟨_, q2, q3⟩ := hsortp
              rw [List.pairwise_cons] at q2
              have f1 : p1.filter (fun j => j != i) = p1 := List.filter_eq_self.2 (fun j hj => by have := q3 j hj i (by simp); simp; omega)
              have f2 : p2.filter (fun j => j != i) = p2 := List.filter_eq_self.2 (fun j hj => by have := q2.1 j hj; simp; omega)
              rw [f1, f2]; simp
            rw [e2, List.filter_filter]
            have e3 : (remL ops listed).filter (fun j => Nat.blt j b && (j != i)) = ((remL ops listed).filter fun i => Nat.blt i b).filter (fun j => j != i) := by
              rw [List.filter_filter]
              apply List.filter_congr
              intro j _
              cases Nat.blt j b <;> cases (j != i) <;> rfl
            rw [e3, hsplit, List.filter_append, List.filter_cons]
            obtain ⟨_, q2, q3⟩ := hsort
            rw [List.pairwise_cons] at q2
            have f1 : pre.filter (fun j => j != i) = pre := List.filter_eq_self.2 (fun j hj => by have := q3 j hj i (by simp); simp; omega)
            have f2 : post.filter (fun j => j != i) = post := List.filter_eq_self.2 (fun j hj => by have := q2.1 j hj; simp; omega)
            rw [f1, f2]; simp
          rw [e1, List.map_append]; exact hrun
      · -- the one itself: all before it are done
        have hdone : ∀ j, j < i → listed.getD j false = true := fun j hj => before_listed hB hsz hcl i h1 h3 j hj (hlo j hj)
        have hnil : ((remL ops listed).filter fun j => Nat.blt j i) = [] := by
          rw [List.filter_eq_nil_iff]
          intro j hj hjb
          have hji : j < i := by simpa [Nat.blt_eq] using hjb
          obtain ⟨q1, q2⟩ := mem_remL.1 hj
          exact notl q1 q2 (hdone j hji)
        rw [hnil] at h
        replace h : opXg P L ops (opAt ops i) (fun v st' ρ' => RunL P W ops (K st') ((highL ops i).map (opAt ops)) (putA A (opAt ops i).dst v) ρ') (fun e st' ρ' => Kp e st' A ρ') st A ρ := h
        have hsg := hback _ _ _ _ hs
        have next : ∀ (v : AV) (st' : List LS) (ρ' : Store) (a' : Act) (w' : World), RunL P W ops (K st') ((highL ops i).map (opAt ops)) (putA A (opAt ops i).dst v) ρ' → SRelG C L st' a' w' (putA A (opAt ops i).dst v) ρ' → wpAnyIn (fz C.rd) nn P .any ops Q fuel (listed.setIfInBounds i true) a' w' := fun v st' ρ' a' w' hk hs' => by
          obtain ⟨C2, hrd2, hs2, hback2⟩ := aop_srelG' hs'
          have e1 : remL ops (listed.setIfInBounds i true) = highL ops i := by
            unfold remL highL
            apply List.filter_congr
            intro j hj
            simp at hj
            have hjl : j < listed.size := by omega
            by_cases hji : j < i
            · have e2 : listed.getD j true = true := by simpa [Array.getD, hjl] using hdone j hji
              rw [getD_set_ne _ _ _ _ _ (by omega), e2]
              have : Nat.blt i j = false := by
                cases hx : Nat.blt i j with
                | false => rfl
                | true => have : i < j := by simpa [Nat.blt_eq] using hx
                          omega
              rw [this]; rfl
            · by_cases hij : i = j
              · subst hij
                have e2 : (listed.setIfInBounds i true).getD i true = true := by simp [Array.getD, hjl]
                have : Nat.blt i i = false := by
                  cases hx : Nat.blt i i with
                  | false => rfl
                  | true => exact absurd (by rw [Nat.blt_eq] at hx; exact hx) (Nat.lt_irrefl i)
                rw [e2, this]; rfl
              · rw [getD_set_ne _ _ _ _ _ hij, hun j (by omega) hj]
                have : Nat.blt i j = true := by rw [Nat.blt_eq]; omega
                rw [this]; rfl
          have := any_sound (P := P) hB (C := C2) (K := K st') (Q := Q) (fun a w A ρ hs hk => hQ a w st' A ρ (hback2 _ _ _ _ hs) hk) fuel (listed.setIfInBounds i true) _ ρ' a' w' hs2 ?_ (by simpa using hsz) hclS (by rw [e1]; exact hk) nn
          · rw [hrd2] at this; exact this
          · obtain ⟨p1, p2, hsp⟩ := List.append_of_mem hmem
            rw [remL_set hsz hsp]; rw [hsp] at hf; simp at hf ⊢; omega
        unfold wpOpIn
        simp only [opAt_get h1]
        unfold opXg at h
        split at h
        · rename_i hgd
          rw [if_pos (by simp [Region.wanted, hgd])]
          exact opX_wp hsg h next (fun e st' ρ' w' hk hs' => hP e _ _ _ _ _ hs' hk) nn
        · rename_i j want hgd
          split at h
          · rename_i bb hb
            have hy := gvalS_specG hb hsg
            cases bb with
            | true =>
              rw [if_pos (by simp only [Region.wanted, hgd]; exact hy)]
              exact opX_wp hsg (h.1 rfl) next (fun e st' ρ' w' hk hs' => hP e _ _ _ _ _ hs' hk) nn
            | false =>
              rw [if_neg (by simp only [Region.wanted, hgd]; rw [hy]; simp)]
              exact ⟨fun _ _ => trivial, next _ _ _ _ _ (h.2 rfl) (hsg.skipU _)⟩
          · exact h.elim
      · -- one behind: it is not its turn
        exact absurd (before_listed hB hsz hcl i h1 h3 b hgt (hhi i hgt h1)) (notl hb (hun b (Nat.le_refl _) hb))
end

theorem SRelG.drawn {C : Ctx} {L : List LoopV} {st : List LS} {a w A ρ} (hs : SRelG C L st a w A ρ) : SRelG C L st a { w with drawn := w.drawn + 1 } A ρ := by
  obtain ⟨C', h1, h2, h3⟩ := hs.open
  exact h3 _ _ _ _ h2.drawn

theorem wpG_bar {C : Ctx} {L : List LoopV} {st : List LS} {Q : Exit → List LS → List AV → Store → Prop} {A : List AV} {ρ : Store} {id : Nat} {ops : Array Oper} {B : Array Nat} {b : Nat} (hm : P.follows .mixedOrders = true) (hB : barB W ops B b = true)
    (h : RunL P W ops (fun A ρ => opXg P L ops (opAt ops b) (fun v st' ρ' => RunL P W ops (Q .normal st') ((highL ops b).map (opAt ops)) (putA A (opAt ops b).dst v) ρ') (fun e st' ρ' => Q e st' A ρ') st A ρ) ((lowL ops b).map (opAt ops)) A ρ) : wpG P C L (.region id ops true) Q st A ρ := by
  intro a w hs nn
  unfold barB at hB
  simp only [Bool.and_eq_true, List.all_eq_true, List.mem_range] at hB
  obtain ⟨⟨⟨h1, h2⟩, h4⟩, h5⟩ := hB
  have h2 : b < ops.size := by simpa [Nat.blt_eq] using h2
  obtain ⟨C', hrd, hs', hback⟩ := aop_srelG' hs.drawn
  have hrem : remL ops (Array.replicate ops.size false) = List.range ops.size := List.filter_eq_self.2 (fun i hi => by
    have : i < ops.size := by simpa using hi
    simp [Array.getD, this])
  refine wpIn_region_any hm (any_soundB (P := P) h1 h2 h4 (fun i hi his => h5 i (by unfold highL; rw [List.mem_filter]; exact ⟨by simpa using his, by simpa [Nat.blt_eq] using hi⟩)) (K := fun st A ρ => Q .normal st A ρ) (Kp := Q)
    (fun a w st A ρ hs hq => ⟨st, A, ρ, hs, hq⟩) (fun e a w st A ρ hs hq => ⟨st, A, ρ, hs, hq⟩) hrd hback ops.size (Array.replicate ops.size false) A ρ a _ hs' ?_ (by simp) ?_ ?_ ?_ nn)
  · rw [hrem]; simp
  · intro i hi hl
    simp [Array.getD, hi] at hl
  · intro i _ hi; simp [Array.getD, hi]
  · rw [hrem]; exact h
end Go.Lg
