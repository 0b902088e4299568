import Derived.Test.YtegbnbgbjhgnpaaQeQfQfVQg
set_option linter.unusedVariables false
set_option linter.unusedSimpArgs false
namespace Go.Proofs.Ytegbnbgbjhgnpaa
open Go Go.Lg
attribute [local irreducible] bodyH funS
structure Gr where
  co : Int
  gv : Int
def Gr.sv (g : Gr) : SV := .agg [i6 g.co, i6 g.gv]
def cmpI (x y : Int) : Int := if x < y then -1 else if y < x then 1 else 0
def cmW (w : Nat) (a b : Gr) : Int := match w with
  | 0 => cmpI a.gv b.gv
  | _ => cmpI b.gv a.gv
def swp (f : Nat → Gr) (j : Nat) : Nat → Gr := fun k => if k = j - 1 then f j else if k = j then f (j - 1) else f k
open Classical in
noncomputable def inF (w : Nat) : (Nat → Gr) → Nat → (Nat → Gr)
  | f, 0 => f
  | f, j + 1 => if cmW w (f (j + 1)) (f j) < 0 then inF w (swp f (j + 1)) j else f
noncomputable def stF (w : Nat) (g : Nat → Gr) : Nat → (Nat → Gr)
  | 0 => g
  | i + 1 => inF w (stF w g i) i
structure in1 (q w : Nat) (g : Nat → Gr) (x : Nat × (Nat → Gr)) : Prop where
  a : 1 ≤ x.1
  b : x.1 ≤ max 1 q
  f : ∀ k, k < q → x.2 k = stF w g x.1 k
structure in2 (q w : Nat) (g : Nat → Gr) (x : Nat × Nat × (Nat → Gr)) : Prop where
  a : 1 ≤ x.1
  b : x.1 < q
  c : x.2.1 ≤ x.1
  f : ∀ k, k < q → inF w x.2.2 x.2.1 k = stF w g (x.1 + 1) k
structure in3 (q w : Nat) (g : Nat → Gr) (x : Nat × Nat × (Nat → Gr)) : Prop where
  a : 1 ≤ x.1
  b : x.1 < q
  c : x.2.1 ≤ x.1
  d : 1 ≤ x.2.1
  f : ∀ k, k < q → inF w x.2.2 (x.2.1 - 1) k = stF w g (x.1 + 1) k
end Go.Proofs.Ytegbnbgbjhgnpaa

set_option maxRecDepth 100000
namespace Go.Proofs.Ytegbnbgbjhgnpaa
open Go Go.Lg
end Go.Proofs.Ytegbnbgbjhgnpaa

set_option maxRecDepth 100000
namespace Go.Proofs.Ytegbnbgbjhgnpaa
open Go Go.Lg
attribute [local irreducible] funS bodyH
end Go.Proofs.Ytegbnbgbjhgnpaa

namespace Go.Proofs.Ytegbnbgbjhgnpaa
open Go Go.Lg
attribute [local irreducible] bodyH funS
structure okGr (n:Nat) (f:Nat→Gr):Prop where
 m:n≤6
 h:∀ i,i<n→0≤(f i).co∧(f i).co<6∧0≤(f i).gv∧(f i).gv≤100000
noncomputable def ylP (Y:Yd) (a b:Int):List Pn:=poS' Y.m (drS Y a b)
structure ylI (Y:Yd) (a b w:Int) (k:Nat):Prop where
 e:drE Y a b=0
 w0:0≤w
 w3:w≤3
 k:k≤(ylP Y a b).length
def eqT (n:Nat) (f g:Nat→Tw):Prop:=∀ i,i<n→(f i).lo=(g i).lo∧(f i).hi=(g i).hi
noncomputable def ltC (g:FuncId):Ctr:=⟨g,fun args k=>match args with
 | [.lst 2 n f,.lst 2 m h]=>SV.lst 2 n f=twL n (fun i=>tOf (f i))∧SV.lst 2 m h=twL m (fun i=>tOf (h i))∧n≤1000∧k (.dec (n=m∧eqT n (fun i=>tOf (f i)) fun i=>tOf (h i)) (Classical.propDecidable _))
 | _=>False⟩
noncomputable def ltG (n:Nat) (f:Nat→Tw) (m:Nat) (h:Nat→Tw):Prop:=funH Try.prog (ctrs []) noX (ictrs [])
 (oneL 0 (natH (fun k=>k≤n∧n=m∧eqT k f h) (fun k=>n - k) 0 (fun k=>mkF 26 [(0,twL n f),(1,twL m h),(5,i6 k)]) (fun _=>mkX []) fun _=>none)) noL 15 [twL n f,twL m h] (.dec (n=m∧eqT n f h) (Classical.propDecidable _))
noncomputable def ltG' (n:Nat) (f:Nat→Tw) (m:Nat) (h:Nat→Tw):Prop:=funH Try.prog (ctrs []) noX (ictrs [])
 (oneL 0 (natH (fun k=>k≤n∧n=m∧eqT k f h) (fun k=>n - k) 0 (fun k=>mkF 26 [(0,twL n f),(1,twL m h),(5,i6 k)]) (fun _=>mkX []) fun _=>none)) noL 20 [twL n f,twL m h] (.dec (n=m∧eqT n f h) (Classical.propDecidable _))
end Go.Proofs.Ytegbnbgbjhgnpaa

set_option maxRecDepth 100000
namespace Go.Proofs.Ytegbnbgbjhgnpaa
open Go Go.Lg
theorem ltG_vc (n:Nat) (f:Nat→Tw) (m:Nat) (h:Nat→Tw):ltG n f m h =
((¬(↑n:Int)=(↑m:Int)→(false=true↔n=m∧eqT n f h)∧True)∧(¬¬(↑n:Int)=(↑m:Int)→(∃ (z:Nat),(z≤n∧n=m∧eqT z f h)∧n=n∧(∀ (i:Nat),i<n→rE ((f i).sv.den)∧True∧True∧True)∧m=m∧(∀ (i:Nat),i<m→rE ((h i).sv.den)∧True∧True∧True)∧(0:Int)=(↑z:Int)∧True)∧∀ (z:Nat),z≤n∧n=m∧eqT z f h→((↑z:Int)<(↑n:Int)→(0:Int)≤(↑z:Int)∧(↑z:Int)<(↑n:Int)∧(0:Int)≤(↑z:Int)∧(↑z:Int)<(↑m:Int)∧(¬((f (↑z:Int).toNat).1=(h (↑z:Int).toNat).1∧(f (↑z:Int).toNat).2=(h (↑z:Int).toNat).2)→(false=true↔n=m∧eqT n f h)∧True)∧(¬¬((f (↑z:Int).toNat).1=(h (↑z:Int).toNat).1∧(f (↑z:Int).toNat).2=(h (↑z:Int).toNat).2)→rI ((↑z:Int)+(1:Int))∧∃ (z_1:Nat),(z_1≤n∧n=m∧eqT z_1 f h)∧n - z_1<n - z∧n=n∧(∀ (i:Nat),i<n→rE ((f i).sv.den)∧True
∧ True∧True)∧m=m∧(∀ (i:Nat),i<m→rE ((h i).sv.den)∧True∧True∧True)∧(↑z:Int)+(1:Int)=(↑z_1:Int)∧True))∧(¬(↑z:Int)<(↑n:Int)→(rE true↔n=m∧eqT n f h)∧True))):=by kernel_rfl
theorem ltG'_vc (n:Nat) (f:Nat→Tw) (m:Nat) (h:Nat→Tw):ltG' n f m h =
((¬(↑n:Int)=(↑m:Int)→(false=true↔n=m∧eqT n f h)∧True)∧(¬¬(↑n:Int)=(↑m:Int)→(∃ (z:Nat),(z≤n∧n=m∧eqT z f h)∧n=n∧(∀ (i:Nat),i<n→rE ((f i).sv.den)∧True∧True∧True)∧m=m∧(∀ (i:Nat),i<m→rE ((h i).sv.den)∧True∧True∧True)∧(0:Int)=(↑z:Int)∧True)∧∀ (z:Nat),z≤n∧n=m∧eqT z f h→((↑z:Int)<(↑n:Int)→(0:Int)≤(↑z:Int)∧(↑z:Int)<(↑n:Int)∧(0:Int)≤(↑z:Int)∧(↑z:Int)<(↑m:Int)∧(¬((f (↑z:Int).toNat).1=(h (↑z:Int).toNat).1∧(f (↑z:Int).toNat).2=(h (↑z:Int).toNat).2)→(false=true↔n=m∧eqT n f h)∧True)∧(¬¬((f (↑z:Int).toNat).1=(h (↑z:Int).toNat).1∧(f (↑z:Int).toNat).2=(h (↑z:Int).toNat).2)→rI ((↑z:Int)+(1:Int))∧∃ (z_1:Nat),(z_1≤n∧n=m∧eqT z_1 f h)∧n - z_1<n - z∧n=n∧(∀ (i:Nat),i<n→rE ((f i).sv.den)∧True
∧ True∧True)∧m=m∧(∀ (i:Nat),i<m→rE ((h i).sv.den)∧True∧True∧True)∧(↑z:Int)+(1:Int)=(↑z_1:Int)∧True))∧(¬(↑z:Int)<(↑n:Int)→(rE true↔n=m∧eqT n f h)∧True))):=by kernel_rfl
end Go.Proofs.Ytegbnbgbjhgnpaa

set_option maxRecDepth 100000
namespace Go.Proofs.Ytegbnbgbjhgnpaa
open Go Go.Lg
attribute [local irreducible] funS bodyH
theorem lt_core {n:Nat} {f:Nat→Tw} {m:Nat} {h:Nat→Tw} (hn:n≤1000):ltG n f m h∧ltG' n f m h:=by
 rw [ltG_vc,ltG'_vc]
 simp only [rI,rE,tt3,tt4,tt5,tt13,tt14,and_true,true_and,Nat.zero_lt_one,and_self,implies_true,Int.toNat_natCast,Nat.zero_add,Nat.add_zero,Nat.one_mul,Nat.mul_one,Classical.not_not,iff_self,Bool.false_eq_true,imp_false,and_imp,true_implies,forall_const]
 refine ⟨fun hne=>⟨False.elim,fun h2=>hne (by rw [h2.1])⟩,fun he=>⟨⟨0,⟨by omega,by omega,fun i hi=>by omega⟩,rfl⟩,fun z hz hnm hq=>⟨fun hl=>⟨by omega,hl,by omega,by omega,fun hx=>⟨False.elim,fun h2=>hx (h2.2 z (by omega))⟩,fun h1 h2=>⟨by omega,z+1,⟨by omega,hnm,fun i hi=>?_⟩,by omega,by omega⟩⟩,fun hl=>⟨fun _=>⟨hnm,fun i hi=>hq i (by omega)⟩,fun _=>trivial⟩⟩⟩⟩
 by_cases k:i<z
 ·exact hq i k
 ·have:i=z:=by omega
  subst this; exact ⟨h1,h2⟩
theorem lt_ok:(ltC 15).Ok Try.prog:=by
 refine ⟨by kernel_rfl,fun x k hk=>?_⟩
 simp only [ltC] at hk
 split at hk
 ·rename_i n f m h
  obtain ⟨h1,h2,hn,hk⟩:=hk
  have hh:=(lt_core (f:=fun i=>tOf (f i)) (m:=m) (h:=fun i=>tOf (h i)) hn).1
  unfold ltG at hh
  rw [← h1,← h2] at hh
  exact ⟨_,plainD nilS_cs nilS_x nilS_ic hh trivial,hk⟩
 ·exact hk.elim
end Go.Proofs.Ytegbnbgbjhgnpaa
