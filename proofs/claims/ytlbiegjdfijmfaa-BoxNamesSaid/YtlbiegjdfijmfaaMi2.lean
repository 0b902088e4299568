import Derived.Test.YtlbiegjdfijmfaaMi
set_option linter.unusedVariables false
namespace Go.Lg
open Go.RowKit
variable {P : Program}

/-- A QUIET CALL, where there are more rows -/
theorem DoesS.more {f : FuncId} {args : List AV} {ρ : Store} {v : AV} (h : DoesS P f args ρ (fun x s => x = v ∧ s = ρ)) (xs : List (Option Root)) (ha : ∀ a ∈ args, Bel ρ.length a)
    (hρ : ∀ (r : Nat) (R : Root), ρ[r]? = some (some R) → BelL ρ.length R.els ∧ BelQ ρ.length R.ob) : DoesS P f args (ρ ++ xs) (fun x s => x = v ∧ s = ρ ++ xs) := by
  intro w F I β vals hs hrel
  have old : ∀ (r : Nat) (y : Option Root), ρ[r]? = some y → r < ρ.length ∧ (ρ ++ xs)[r]? = some y := fun r y h => by
    have hr := (List.getElem?_eq_some_iff.1 h).1
    exact ⟨hr, by rw [List.getElem?_append_left hr]; exact h⟩
  let F' : Nat → Prop := fun b => F b ∨ ∃ (r : Nat) (R : Root) (l : Loc), ρ.length ≤ r ∧ (ρ ++ xs)[r]? = some (some R) ∧ β r = some l ∧ l.b = b
  have hs0 : SR w F' I β ρ := by
    constructor
    · intro r R l h1 h2
      obtain ⟨hr, h3⟩ := old r _ h1
      obtain ⟨a1, a2, a3, a4⟩ := hs.real r R l h3 h2
      refine ⟨a1, a2, a3, fun hF => ?_⟩
      rcases hF with hF | ⟨s, S, m, hge, h4, h5, h6⟩
      · exact a4 hF
      · have := hs.inj s r S R m l h4 h3 h5 h2 h6; omega
    · intro r R l h1 h2 i hi
      obtain ⟨hr, h3⟩ := old r _ h1
      obtain ⟨b1, b2⟩ := hs.cells r R l h3 h2 i hi
      refine ⟨b1, fun j hj => ?_⟩
      obtain ⟨u, h5, h6⟩ := b2 j hj
      exact ⟨u, h5, h6.bel (((hρ r R h1).1.get i).cells j)⟩
    · intro r R h1; exact hs.phantom r R (old r _ h1).2
    · intro r s R S l m h1 h2; exact hs.inj r s R S l m (old r _ h1).2 (old s _ h2).2
    · exact hs.ilt
    · intro b hb
      rcases hb with hb | ⟨s, S, m, _, h4, h5, rfl⟩
      · exact hs.flt b hb
      · exact (hs.real s S m h4 h5).2.1
    · intro r R l h1; exact hs.thaw r R l (old r _ h1).2
    · intro r R o h1 h2
      obtain ⟨e, l, x, h5, h6, h7⟩ := hs.obs r R o (old r _ h1).2 h2
      exact ⟨e, l, x, h5, h6, h7.bel (h2 ▸ (hρ r R h1).2)⟩
  have hrel0 : RelL (cellf w) I ρ.length β args vals.toList := ⟨hrel.1, fun j hj => (hrel.2 j hj).bel (ha _ (getD_memA hj))⟩
  refine (h w F' I β vals hs0 hrel0).mono ?_
  rintro e w' ⟨u, v', s, I', β', he, ⟨rfl, rfl⟩, hk, hg, hs', hr'⟩
  have up : ∀ {a y}, Rel (cellf w') I' s.length β' a y → Rel (cellf w') I' (s ++ xs).length β a y := fun h => h.mono (fun _ _ _ _ h => h) (fun _ _ h => h) (fun _ h => h) (by simp) (fun r hr => (hg.hβ r hr).symm)
  have keep : ∀ {a y}, Rel (cellf w) I (s ++ xs).length β a y → Rel (cellf w') I' (s ++ xs).length β a y := fun h => h.mono hg.hc hg.hs hg.hI (Nat.le_refl _) (fun _ _ => rfl)
  have hβ : ∀ r R l, s[r]? = some (some R) → β r = some l → β' r = some l := fun r R l h1 h2 => by rw [hg.hβ r (old r _ h1).1]; exact h2
  have part : ∀ (r : Nat) (R : Root), (s ++ xs)[r]? = some (some R) → s[r]? = some (some R) ∨ (s.length ≤ r) := fun r R h => by
    by_cases hr : r < s.length
    · left; rwa [List.getElem?_append_left hr] at h
    · right; omega
  have blk : ∀ r R l, s.length ≤ r → (s ++ xs)[r]? = some (some R) → β r = some l → w'.heap[l.b]? = w.heap[l.b]? := fun r R l hr h1 h2 => hk.block l.b (.inr ⟨r, R, l, hr, h1, h2, rfl⟩)
  refine ⟨u, v', s ++ xs, I', β, he, ⟨rfl, rfl⟩, hk.sub (fun b hb => .inl hb), ⟨hg.hc, hg.hs, hg.hI, Nat.le_refl _, fun _ _ => rfl, hg.hI2, hg.hz⟩, ?_, up hr'⟩
  constructor
  · intro r R l h1 h2
    rcases part r R h1 with h3 | h3
    · obtain ⟨a1, a2, a3, a4⟩ := hs'.real r R l h3 (hβ r R l h3 h2)
      exact ⟨a1, a2, a3, fun hF => a4 (.inl hF)⟩
    · obtain ⟨a1, a2, a3, a4⟩ := hs.real r R l h1 h2
      refine ⟨a1, Nat.lt_of_lt_of_le a2 hg.hz, fun hi => ?_, a4⟩
      rcases hg.hI2 _ hi with hi | hi
      · exact a3 hi
      · omega
  · intro r R l h1 h2 i hi
    rcases part r R h1 with h3 | h3
    · obtain ⟨b1, b2⟩ := hs'.cells r R l h3 (hβ r R l h3 h2) i hi
      refine ⟨b1, fun j hj => ?_⟩
      obtain ⟨x, h5, h6⟩ := b2 j hj
      exact ⟨x, h5, up h6⟩
    · obtain ⟨b1, b2⟩ := hs.cells r R l h1 h2 i hi
      refine ⟨b1, fun j hj => ?_⟩
      obtain ⟨x, h5, h6⟩ := b2 j hj
      exact ⟨x, by rw [World.cell?_of_block (w := w) (a := ⟨l.b, _, none⟩) (blk r R l h3 h1 h2) |> (fun h => (show cellf w' l.b _ = cellf w l.b _ from h))]; exact h5, keep h6⟩
  · intro r R h1 h2
    rcases part r R h1 with h3 | h3
    · exact hs.phantom r R h1 h2
    · exact hs.phantom r R h1 h2
  · exact fun r q R S l m h1 h2 h3 h4 he => hs.inj r q R S l m h1 h2 h3 h4 he
  · exact hs'.ilt
  · intro b hb; exact hs'.flt b (.inl hb)
  · intro r R l h1 h2 k
    rcases part r R h1 with h3 | h3
    · exact hs'.thaw r R l h3 (hβ r R l h3 h2) k
    · rw [World.frozen?_of_block (w := w) (a := ⟨l.b, k, none⟩) (blk r R l h3 h1 h2)]; exact hs.thaw r R l h1 h2 k
  · intro r R o h1 h2
    rcases part r R h1 with h3 | h3
    · obtain ⟨e, l, x, h5, h6, h7⟩ := hs'.obs r R o h3 h2
      exact ⟨e, l, x, by rw [← hg.hβ r (old r _ h3).1]; exact h5, h6, h7.mono fun _ _ => up⟩
    · obtain ⟨e, l, x, h5, h6, h7⟩ := hs.obs r R o h1 h2
      exact ⟨e, l, x, h5, by rw [blk r R l h3 h1 h5]; exact h6, h7.mono fun _ _ => keep⟩
end Go.Lg
