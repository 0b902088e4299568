import Derived.Test.YtmjbflifegmmnaaMaMbMc
import Derived.Test.YtmjbflifegmmnaaLu
set_option linter.unusedVariables false
set_option linter.unusedSimpArgs false
namespace Go.Lg
open Go.RowKit
variable {P:Program}

section
variable {C:Ctx} {L:List LoopV} {Q:Exit→List LS→List AV→Store→Prop} {st:List LS} {A:List AV} {ρ:Store}

theorem SRelG.skip {a w} (hs:SRelG C L st a w A ρ) (dst:Option Tmp):SRelG C L st (a.put dst undef) w (putA A dst .any) ρ:=by
 obtain ⟨C',hC,h1,h2⟩:=hs.open
 exact h2 _ _ _ _ (h1.skip dst)
theorem SRelG.skipU {a w} (hs:SRelG C L st a w A ρ) (dst:Option Tmp):SRelG C L st (a.put dst undef) w (putA A dst uA) ρ:=by
 obtain ⟨C',hC,h1,h2⟩:=hs.open
 exact h2 _ _ _ _ (h1.skipU dst)
theorem gvalS_specG {ops:Array Oper} {a w j want b} (h:gvalS ops A j want=some b) (hs:SRelG C L st a w A ρ):(yielded ops a.tmps j == some want)=b:=by
 obtain ⟨C',hC,h1,h2⟩:=hs.open
 exact gvalS_spec h h1
end

theorem SR.trim {w F I β ρ} (hs:SR w F I β ρ) (n:Nat) (hn:n≤ρ.length) (h:BelS n (ρ.take n)):SR w F I β (ρ.take n):=by
 have hlen:(ρ.take n).length=n:=by simp; omega
 have old:∀ (r:Nat) (R:Root),(ρ.take n)[r]?=some (some R)→r<n∧ρ[r]?=some (some R):=by
  intro r R h
  have h1:r<(ρ.take n).length:=(List.getElem?_eq_some_iff.1 h).1
  rw [hlen] at h1
  rw [List.getElem?_take_of_lt h1] at h
  exact ⟨h1,h⟩
 constructor
 ·intro r R l h1 h2; exact hs.real r R l (old r R h1).2 h2
 ·intro r R l h1 h2 i hi
  obtain ⟨h3,h4⟩:=old r R h1
  obtain ⟨b1,b2⟩:=hs.cells r R l h4 h2 i hi
  refine ⟨b1,fun j hj=>?_⟩
  obtain ⟨u,h5,h6⟩:=b2 j hj
  exact ⟨u,h5,by rw [hlen]; exact h6.bel (((h.get r R h1).1.get i).cells j)⟩
 ·intro r R h1; exact hs.phantom r R (old r R h1).2
 ·intro r s R S l m h1 h2; exact hs.inj r s R S l m (old r R h1).2 (old s S h2).2
 ·exact hs.ilt
 ·exact hs.flt
 ·intro r R l h1; exact hs.thaw r R l (old r R h1).2
 ·intro r R o h1 h2
  obtain ⟨h3,h4⟩:=old r R h1
  obtain ⟨e,l,x,h5,h6,h7⟩:=hs.obs r R o h4 h2
  exact ⟨e,l,x,h5,h6,by rw [hlen]; exact h7.bel (h2 ▸ (h.get r R h1).2)⟩

theorem DoesG.trim {L f args st ρ} {R R':AV→List LS→Store→Prop} (h:DoesG P L f args st ρ R)
  (hR:∀ v st' ρ',R v st' ρ'→ρ.length≤ρ'.length→R' v st' ρ'∨(Bel ρ.length v∧BelS ρ.length (ρ'.take ρ.length)∧R' v st' (ρ'.take ρ.length))):DoesG P L f args st ρ R':=by
 intro w F I β vals h1 h2 h3 h4
 refine (h w F I β vals h1 h2 h3 h4).mono ?_
 rintro e w' ⟨u,v,st',ρ',I',β',he,hr,hk,hg,hs,hd,hv⟩
 rcases hR v st' ρ' hr hg.hN with h5 | ⟨h5,h6,h7⟩
 ·exact ⟨u,v,st',ρ',I',β',he,h5,hk,hg,hs,hd,hv⟩
 ·have hlen:(ρ'.take ρ.length).length=ρ.length:=by have:=hg.hN; simp; omega
  exact ⟨u,v,st',_,I',β',he,h7,hk,by rw [hlen]; exact hg.cut _ (Nat.le_refl _),hs.trim _ hg.hN h6,hd,by rw [hlen]; exact hv.bel h5⟩
end Go.Lg
