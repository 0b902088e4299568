import Derived.Test.YtegbnbgbjhgnpaaQhQhVQiQjQjVQk
set_option linter.unusedVariables false
set_option linter.unusedSimpArgs false
set_option maxRecDepth 100000
namespace Go.Proofs.Ytegbnbgbjhgnpaa
open Go Go.Lg
attribute [local irreducible] funS bodyH
theorem lf_ua (M:Ms):∀ k,lf M k=sumJ (uaI M) k - sumJ (uoI M) k
 | 0=>rfl
 | k+1=>by
  rw [lf_s,uo_s,ua_s,lf_ua M k]
  unfold dl uoI uaI
  split <;> omega
theorem ua_mono {M:Ms} {c:Int} (hM:okMs c M) {j:Nat}:∀ {d:Nat},j+d≤M.n→sumJ (uaI M) j≤sumJ (uaI M) (j+d)∧sumJ (uoI M) j≤sumJ (uoI M) (j+d)
 | 0,_=>⟨Int.le_refl _,Int.le_refl _⟩
 | d+1,h=>by
  have ih:=ua_mono hM (j:=j) (d:=d) (by omega)
  have m:=(hM.h (j+d) (by omega)).t0
  rw [← Nat.add_assoc,ua_s,uo_s]
  unfold uaI uoI at *
  split <;> omega
theorem dn_mono {M:Ms} {j:Nat}:∀ {d:Nat},dn M j≤dn M (j+d)
 | 0=>Nat.le_refl _
 | d+1=>by
  have ih:=dn_mono (M:=M) (j:=j) (d:=d)
  rw [← Nat.add_assoc]
  by_cases h:(M.f (j+d)).co=-1
  ·rw [dn_y h]; omega
  ·rw [dn_n h]; exact ih
theorem dn_le2 {M:Ms} {j k:Nat} (h:j≤k):dn M j≤dn M k:=by
 obtain ⟨d,rfl⟩:∃ d,k=j+d:=⟨k - j,by omega⟩
 exact dn_mono
theorem ds_first {M:Ms} {k:Nat}:∀ m,m≤k→ds M (dn M k) m=sumJ (uoI M) m
 | 0,_=>rfl
 | m+1,h=>by
  rw [ds_s,uo_s,ds_first m (by omega)]
  unfold dsI uoI
  by_cases hd:(M.f m).co=-1
  ·have:=dn_le2 (M:=M) (j:=m+1) (k:=k) (by omega)
   rw [dn_y hd] at this
   rw [if_pos hd,if_pos hd,if_pos (by omega)]
  ·rw [if_neg hd,if_neg hd]
theorem ds_all {M:Ms} {k:Nat}:∀ d,ds M (dn M k) (k+d)=sumJ (uoI M) k
 | 0=>ds_first k (Nat.le_refl _)
 | d+1=>by
  rw [← Nat.add_assoc,ds_s,ds_all d]
  have:=dn_mono (M:=M) (j:=k) (d:=d)
  unfold dsI
  split
  ·rw [if_neg (by omega)]; omega
  ·omega
theorem ds_to {M:Ms} {k m:Nat} (h:k≤m):ds M (dn M k) m=sumJ (uoI M) k:=by
 obtain ⟨d,rfl⟩:∃ d,m=k+d:=⟨m - k,by omega⟩
 exact ds_all d
theorem add_to (l:La) (m:Mv):(l.add m).to=l.to+m.tn∧(l.add m).fr=l.fr:=⟨rfl,rfl⟩
theorem cu_to (M:Ms):∀ k,(cuL M k).to=sumJ (uaI M) k
 | 0=>rfl
 | k+1=>by
  rw [ua_s,← cu_to M k]
  unfold uaI
  by_cases hd:(M.f k).co=-1
  ·rw [(cu_d hd).1,if_pos hd]; omega
  ·rw [if_neg hd]
   by_cases hj:jnM M (k+1)
   ·rw [(cu_j hd hj).1]; rfl
   ·rw [(cu_e hd hj).1]; rfl
theorem cu_closed (M:Ms):∀ k,¬ jnM M k→(cuL M k).fr=(cuL M k).to
 | 0,_=>rfl
 | k+1,h=>by
  by_cases hd:(M.f k).co=-1
  ·rw [(cu_d hd).1]
   exact cu_closed M k fun h2=>h2.2.1 hd
  ·rw [(cu_e hd h).1]; rfl
end Go.Proofs.Ytegbnbgbjhgnpaa

set_option maxRecDepth 100000
namespace Go.Proofs.Ytegbnbgbjhgnpaa
open Go Go.Lg
attribute [local irreducible] funS bodyH
structure Swp (M M':Ms) (i:Nat):Prop where
 n:M'.n=M.n
 i1:1≤i
 i2:i<M.n
 a:M'.f (i - 1)=M.f i
 b:M'.f i=M.f (i - 1)
 o:∀ k,k≠i - 1→k≠i→M'.f k=M.f k
 ha:¬ (M.f (i - 1)).co=-1
 hb:¬ (M.f i).co=-1
 h:(M.f (i - 1)).hr=(M.f i).hr
theorem Swp.symm {M M':Ms} {i:Nat} (h:Swp M M' i):Swp M' M i:=⟨h.n.symm,h.i1,by rw [h.n]; exact h.i2,h.b.symm,h.a.symm,fun k h1 h2=>(h.o k h1 h2).symm,by rw [h.a]; exact h.hb,by rw [h.b]; exact h.ha,by rw [h.a,h.b]; exact h.h.symm⟩
section
variable {M M':Ms} {i:Nat} (h:Swp M M' i)
include h
theorem Swp.hr (k:Nat):(M'.f k).hr=(M.f k).hr:=by
 by_cases e:k=i - 1
 ·subst e; rw [h.a,h.h]
 ·by_cases e2:k=i
  ·subst e2; rw [h.b,h.h]
  ·rw [h.o k e e2]
theorem Swp.dr (k:Nat):(M'.f k).co=-1↔(M.f k).co=-1:=by
 by_cases e:k=i - 1
 ·subst e; rw [h.a]; exact ⟨fun h2=>absurd h2 h.hb,fun h2=>absurd h2 h.ha⟩
 ·by_cases e2:k=i
  ·subst e2; rw [h.b]; exact ⟨fun h2=>absurd h2 h.ha,fun h2=>absurd h2 h.hb⟩
  ·rw [h.o k e e2]
theorem Swp.pv (k:Nat):Go.Proofs.Ytegbnbgbjhgnpaa.pv M' k=Go.Proofs.Ytegbnbgbjhgnpaa.pv M k:=by
 cases k with
 | zero=>rfl
 | succ k=>exact h.hr k
theorem Swp.dn:∀ k,Go.Proofs.Ytegbnbgbjhgnpaa.dn M' k=Go.Proofs.Ytegbnbgbjhgnpaa.dn M k
 | 0=>rfl
 | k+1=>by
  by_cases hd:(M.f k).co=-1
  ·rw [dn_y hd,dn_y ((h.dr k).2 hd),Swp.dn k]
  ·rw [dn_n hd,dn_n fun h2=>hd ((h.dr k).1 h2),Swp.dn k]
theorem Swp.same {k:Nat} (hd:(M.f k).co=-1):M'.f k=M.f k:=by
 refine h.o k (fun e=>?_) (fun e=>?_)
 ·subst e; exact h.ha hd
 ·subst e; exact h.hb hd
theorem Swp.ds (a:Int):∀ k,Go.Proofs.Ytegbnbgbjhgnpaa.ds M' a k=Go.Proofs.Ytegbnbgbjhgnpaa.ds M a k
 | 0=>rfl
 | k+1=>by
  rw [ds_s,ds_s,Swp.ds a k]
  congr 1
  unfold dsI
  by_cases hd:(M.f k).co=-1
  ·rw [if_pos hd,if_pos ((h.dr k).2 hd),h.dn,h.same hd]
  ·rw [if_neg hd,if_neg fun h2=>hd ((h.dr k).1 h2)]
theorem Swp.jn (k:Nat):jnM M' k↔jnM M k:=by
 unfold jnM
 rw [h.n,h.hr,h.hr]
 exact ⟨fun h2=>⟨h2.1,fun h3=>h2.2.1 ((h.dr k).2 h3),h2.2.2⟩,fun h2=>⟨h2.1,fun h3=>h2.2.1 ((h.dr k).1 h3),h2.2.2⟩⟩
theorem Swp.step {k:Nat} (e:M'.f k=M.f k) (hc:cuL M' k=cuL M k∧lyL M' k=lyL M k):cuL M' (k+1)=cuL M (k+1)∧lyL M' (k+1)=lyL M (k+1):=by
 by_cases hd:(M.f k).co=-1
 ·have hd':=(h.dr k).2 hd
  rw [(cu_d hd).1,(cu_d hd).2,(cu_d hd').1,(cu_d hd').2]; exact hc
 ·have hd':¬ (M'.f k).co=-1:=fun h2=>hd ((h.dr k).1 h2)
  by_cases hj:jnM M (k+1)
  ·have hj':=(h.jn (k+1)).2 hj
   rw [(cu_j hd hj).1,(cu_j hd hj).2,(cu_j hd' hj').1,(cu_j hd' hj').2,hc.1,hc.2,e]; exact ⟨rfl,rfl⟩
  ·have hj':¬ jnM M' (k+1):=fun h2=>hj ((h.jn (k+1)).1 h2)
   rw [(cu_e hd hj).1,(cu_e hd hj).2,(cu_e hd' hj').1,(cu_e hd' hj').2,hc.1,hc.2,e]; exact ⟨rfl,rfl⟩
end
end Go.Proofs.Ytegbnbgbjhgnpaa
