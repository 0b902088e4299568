import Derived.Test.YtfiaadlgfjokjaaUdTaTaVTbTcTdTdVTeVTeTfTgTgVTh
import Derived.Test.YtfiaadlgfjokjaaUeUeVUfTjTkTl
import Derived.Test.YtfiaadlgfjokjaaQhQhVQiQjQjVQk
set_option linter.unusedVariables false
set_option linter.unusedSimpArgs false
namespace Go.Proofs.Ytfiaadlgfjokjaa
open Go Go.Lg
attribute [local irreducible] bodyH bodyZ funS
noncomputable def gR (c:Nat→Int) (σ:Nat→Nat) (t:Int):Nat→Int
 | 0=>t
 | k+1=>gR c σ t k - min (gR c σ t k) (c (σ k))
noncomputable def gG (c e:Nat→Int) (σ:Nat→Nat) (t:Int):Nat→Int
 | 0=>0
 | k+1=>gG c e σ t k+min (gR c σ t k) (c (σ k))*e (σ k)
open Classical in
noncomputable def tkF (c:Nat→Int) (σ:Nat→Nat) (t:Int) (i k:Nat):Int:=sumJ (fun q=>if σ q=i then min (gR c σ t q) (c i) else 0) k
noncomputable def lcF (c:Nat→Int) (σ:Nat→Nat) (t:Int) (k i:Nat):Int:=c i - tkF c σ t i k
open Classical in
noncomputable def bstF (L e:Nat→Int):Nat→Int
 | 0=>-1
 | i+1=>if 0<L i∧(bstF L e i<0∨e i<e (bstF L e i).toNat) then (i:Int) else bstF L e i
structure okO (n:Nat) (e:Nat→Int) (σ:Nat→Nat):Prop where
 s:∀ p q,p<q→q<n→e (σ p)<e (σ q)∨(e (σ p)=e (σ q)∧σ p<σ q)
 b:∀ p,p<n→σ p<n
 r:∀ i,i<n→∃ p,p<n∧σ p=i
structure leP (n:Nat) (c e:Nat→Int) (σ:Nat→Nat) (t:Int):Prop where
 m:n≤6
 h:∀ i,i<n→0≤c i∧c i≤335544320∧-100000≤e i∧e i≤100000
 t0:0≤t
 t1:t≤sumJ c n
 o:okO n e σ
noncomputable def inL (n:Nat) (c:Nat→Int):SV:=.lst 1 n fun i=>i6 (c i)
noncomputable def exH (nr:Nat) (inv:Nat→Prop) (μ:Nat→Nat) (t:Nat→FS) (X:Nat→XS):HSpec :=
 { toLSpec:={ σ:=Nat,inv:=inv,μ:=μ,nr:=nr,ms:=fun _ _=>[],t:=t,X:=X,rd:=fun _ _ k=>∃ s:Nat,k s,rdOK:=fun _ _ _ h=>h } }
noncomputable def ex2H (n s nr:Nat) (inv:Nat × Nat→Prop) (μ:Nat × Nat→Nat) (t:Nat × Nat→FS) (X:Nat × Nat→XS):HSpec :=
 { toLSpec:={ σ:=Nat × Nat,inv:=inv,μ:=μ,nr:=nr,ms:=fun _ _=>[],t:=t,X:=X,rd:=fun _ _ k=>∃ s:Nat × Nat,k s,rdOK:=fun _ _ _ h=>h },par:=some ⟨fun _ _ k=>∃ y:Nat,k y,fun _ _ _ h=>h⟩,kinv:=fun y s=>s.1=y }
structure leI (n:Nat) (c:Nat→Int) (σ:Nat→Nat) (t:Int) (k:Nat):Prop where
 kn:k≤n
 z:0<gR c σ t k→∀ q,q<k→c (σ q)≤gR c σ t q
structure leI2 (n:Nat) (c:Nat→Int) (σ:Nat→Nat) (t:Int) (s:Nat × Nat):Prop where
 a:leI n c σ t s.1
 p:0<gR c σ t s.1
 kn:s.2≤n
noncomputable def leG (n:Nat) (c e:Nat→Int) (σ:Nat→Nat) (t:Int):Prop:=funH Try.prog (ctrs []) noX (ictrs [])
 (twoL 0 (exH 2 (leI n c σ t) (fun k=>n - k) (fun k=>mkF 71 [(1,inL n e),(2,i6 (gR c σ t k)),(7,.sl 1 0 n),(8,i6 (gG c e σ t k))]) (fun k=>mkX [none,rw' 1 n fun i=>i6 (lcF c σ t k i)])) <|
 oneL 2 (ex2H 71 10 2 (leI2 n c σ t) (fun s=>n - s.2) (fun s=>mkF 71 [(1,inL n e),(2,i6 (gR c σ t s.1)),(7,.sl 1 0 n),(8,i6 (gG c e σ t s.1)),(9,i6 (bstF (lcF c σ t s.1) e s.2)),(10,i6 s.2)]) (fun s=>mkX [none,rw' 1 n fun i=>i6 (lcF c σ t s.1 i)]))) noL 45 [inL n c,inL n e,i6 t] (i6 (gG c e σ t n))
noncomputable def leC:Ctr:=⟨45,fun args k=>match args with
 | [.lst 1 n f,.lst 1 m g,.int .i64 t]=>SV.lst 1 n f=(tnOf n f).sv∧SV.lst 1 m g=(tnOf m g).sv∧m=n∧∃ σ:Nat→Nat,leP n (tnOf n f).f (tnOf n g).f σ t∧k (i6 (gG (tnOf n f).f (tnOf n g).f σ t n))
 | _=>False⟩
end Go.Proofs.Ytfiaadlgfjokjaa

set_option maxRecDepth 100000
namespace Go.Proofs.Ytfiaadlgfjokjaa
open Go Go.Lg
theorem leG_vc (n:Nat) (c:Nat→Int) (e:Nat→Int) (σ:Nat→Nat) (t:Int):leG n c e σ t =
((∀ (i:Nat),i<n→rE true)∧rE (0:Nat)∧rE (0:Nat)∧(∀ (i:Nat),rE true)∧((0:Nat)+n)*(8:Nat)≤(140737488355328:Nat)∧(0:Nat)+n≤(4611686018427387904:Nat)∧(∃ s,leI n c σ t s∧n=n∧(∀ (i:Nat),i<n→rE ((i6 (e i)).den)∧True)∧t=gR c σ t s∧rE (0:Nat)∧(0:Nat)+n=n∧(0:Int)=gG c e σ t s∧n=(0:Nat)+n∧(∀ (i:Nat),i<n→rE (1:Nat)∧(if i<(0:Nat) then (0:Int) else c (i - (0:Nat)))=lcF c σ t s i∧True)∧True)∧∀ (z:Nat),leI n c σ t z→((0:Int)<gR c σ t z→∃ y,(∃ s,(leI2 n c σ t s∧s.1=y)∧n=n∧(∀ (i:Nat),i<n→rE ((i6 (e i)).den)∧True)∧gR c σ t z=gR c σ t s.1∧rE (0:Nat)∧n=n∧gG c e σ t z=gG c e σ t s.1∧(-1:Int)=bstF (lcF c σ t s.fst) e s.2∧(0:Int)=(↑s.2:Int)∧n=n∧(∀ (i:Nat),i<n→rE (1:Nat)∧lcF c σ t z i=lcF c σ t s.1 i∧True) ∧
True)∧∀ (z_1:Nat × Nat),leI2 n c σ t z_1∧z_1.1=y→((↑z_1.2:Int)<(↑n:Int)→(0:Int)≤(↑z_1.2:Int)∧(↑z_1.2:Int)<(↑n:Int)∧(0:Nat)+(↑z_1.2:Int).toNat<n∧((0:Int)<lcF c σ t z_1.1 ((0:Nat)+(↑z_1.2:Int).toNat)→(bstF (lcF c σ t z_1.fst) e z_1.2<(0:Int)→rI ((↑z_1.2:Int)+(1:Int))∧∃ s,(leI2 n c σ t s∧s.1=y)∧n - s.2<n - z_1.2∧n=n∧(∀ (i:Nat),i<n→rE ((i6 (e i)).den)∧True)∧gR c σ t z_1.1=gR c σ t s.1∧rE (0:Nat)∧n=n∧gG c e σ t z_1.1=gG c e σ t s.1∧(↑z_1.2:Int)=bstF (lcF c σ t s.fst) e s.2∧(↑z_1.2:Int)+(1:Int)=(↑s.2:Int)∧n=n∧(∀ (i:Nat),i<n→rE (1:Nat)∧lcF c σ t z_1.1 i=lcF c σ t s.1 i∧True)∧True)∧(¬bstF (lcF c σ t z_1.fst) e z_1.2<(0:Int)→(0:Int)≤(↑z_1.2:Int)∧(↑z_1.2:Int)<(↑n:Int)∧(0:Int)≤bstF (lcF c σ t z_1.fst) e z_1.2∧bstF (lcF
c σ t z_1.fst) e z_1.2<(↑n:Int)∧(e (↑z_1.2:Int).toNat<e (bstF (lcF c σ t z_1.fst) e z_1.2).toNat→rI ((↑z_1.2:Int)+(1:Int))∧∃ s,(leI2 n c σ t s∧s.1=y)∧n - s.2<n - z_1.2∧n=n∧(∀ (i:Nat),i<n→rE ((i6 (e i)).den)∧True)∧gR c σ t z_1.1=gR c σ t s.1∧rE (0:Nat)∧n=n∧gG c e σ t z_1.1=gG c e σ t s.1∧(↑z_1.2:Int)=bstF (lcF c σ t s.fst) e s.2∧(↑z_1.2:Int)+(1:Int)=(↑s.2:Int)∧n=n∧(∀ (i:Nat),i<n→rE (1:Nat)∧lcF c σ t z_1.1 i=lcF c σ t s.1 i∧True)∧True)∧(¬e (↑z_1.2:Int).toNat<e (bstF (lcF c σ t z_1.fst) e z_1.2).toNat→rI ((↑z_1.2:Int)+(1:Int))∧∃ s,(leI2 n c σ t s∧s.1=y)∧n - s.2<n - z_1.2∧n=n∧(∀ (i:Nat),i<n→rE ((i6 (e i)).den)∧True)∧gR c σ t z_1.1=gR c σ t s.1∧rE (0:Nat)∧n=n∧gG c e σ t z_1.1=gG c e σ t s.1∧bstF (lcF c σ t z_1.fst) e z_1.2=bstF (lcF
c σ t s.fst) e s.2∧(↑z_1.2:Int)+(1:Int)=(↑s.2:Int)∧n=n∧(∀ (i:Nat),i<n→rE (1:Nat)∧lcF c σ t z_1.1 i=lcF c σ t s.1 i∧True)∧True)))∧(¬(0:Int)<lcF c σ t z_1.1 ((0:Nat)+(↑z_1.2:Int).toNat)→rI ((↑z_1.2:Int)+(1:Int))∧∃ s,(leI2 n c σ t s∧s.1=y)∧n - s.2<n - z_1.2∧n=n∧(∀ (i:Nat),i<n→rE ((i6 (e i)).den)∧True)∧gR c σ t z_1.1=gR c σ t s.1∧rE (0:Nat)∧n=n∧gG c e σ t z_1.1=gG c e σ t s.1∧bstF (lcF c σ t z_1.fst) e z_1.2=bstF (lcF c σ t s.fst) e s.2∧(↑z_1.2:Int)+(1:Int)=(↑s.2:Int)∧n=n∧(∀ (i:Nat),i<n→rE (1:Nat)∧lcF c σ t z_1.1 i=lcF c σ t s.1 i∧True)∧True))∧(¬(↑z_1.2:Int)<(↑n:Int)→(0:Int)≤bstF (lcF c σ t z_1.fst) e z_1.2∧bstF (lcF c σ t z_1.fst) e z_1.2<(↑n:Int)∧(0:Nat)+(bstF (lcF c σ t z_1.fst) e z_1.2).toNat<n∧(0:Int)≤bstF (lcF c σ t
z_1.fst) e z_1.2∧bstF (lcF c σ t z_1.fst) e z_1.2<(↑n:Int)∧rI (min (gR c σ t z_1.1) (lcF c σ t z_1.1 ((0:Nat)+(bstF (lcF c σ t z_1.fst) e z_1.2).toNat))*e (bstF (lcF c σ t z_1.fst) e z_1.2).toNat)∧rI (gG c e σ t z_1.1+min (gR c σ t z_1.1) (lcF c σ t z_1.1 ((0:Nat)+(bstF (lcF c σ t z_1.fst) e z_1.2).toNat))*e (bstF (lcF c σ t z_1.fst) e z_1.2).toNat)∧(0:Int)≤bstF (lcF c σ t z_1.fst) e z_1.2∧bstF (lcF c σ t z_1.fst) e z_1.2<(↑n:Int)∧(0:Nat)+(bstF (lcF c σ t z_1.fst) e z_1.2).toNat<n∧rI (lcF c σ t z_1.1 ((0:Nat)+(bstF (lcF c σ t z_1.fst) e z_1.2).toNat) - min (gR c σ t z_1.1) (lcF c σ t z_1.1 ((0:Nat)+(bstF (lcF c σ t z_1.fst) e z_1.2).toNat)))∧(0:Int)≤bstF (lcF c σ t z_1.fst) e z_1.2∧bstF (lcF c σ t z_1.fst) e z_1.2<(↑n:Int)∧(0:Nat)+(1:Nat)≤(1:Nat)∧(0:Nat)+(bstF (lcF c σ t z_1.fst) e z_1.2).toNat<n∧(∀
(i':Nat),rE true)∧rI (gR c σ t z_1.1 - min (gR c σ t z_1.1) (lcF c σ t z_1.1 ((0:Nat)+(bstF (lcF c σ t z_1.fst) e z_1.2).toNat)))∧∃ s,leI n c σ t s∧n - s<n - z∧n=n∧(∀ (i:Nat),i<n→rE ((i6 (e i)).den)∧True)∧gR c σ t z_1.1 - min (gR c σ t z_1.1) (lcF c σ t z_1.1 ((0:Nat)+(bstF (lcF c σ t z_1.fst) e z_1.2).toNat))=gR c σ t s∧rE (0:Nat)∧n=n∧gG c e σ t z_1.1+min (gR c σ t z_1.1) (lcF c σ t z_1.1 ((0:Nat)+(bstF (lcF c σ t z_1.fst) e z_1.2).toNat))*e (bstF (lcF c σ t z_1.fst) e z_1.2).toNat=gG c e σ t s∧n=n∧(∀ (i:Nat),i<n→rE (1:Nat)∧(if i=(0:Nat)+(bstF (lcF c σ t z_1.fst) e z_1.2).toNat then lcF c σ t z_1.1 ((0:Nat)+(bstF (lcF c σ t z_1.fst) e z_1.2).toNat) - min (gR c σ t z_1.1) (lcF c σ t z_1.1 ((0:Nat)+(bstF (lcF c σ t z_1.fst) e z_1.2).toNat)) else lcF c σ t z_1.1 i)=lcF c σ t s i∧True)∧True)) ∧
(¬(0:Int)<gR c σ t z→gG c e σ t z=gG c e σ t n∧True)):=by kernel_rfl
end Go.Proofs.Ytfiaadlgfjokjaa

set_option maxRecDepth 100000
namespace Go.Proofs.Ytfiaadlgfjokjaa
open Go Go.Lg
attribute [local irreducible] funS bodyH bodyZ
theorem sum_swp (F:Nat→Nat→Int) (n:Nat):∀ m,sumJ (fun p=>sumJ (fun i=>F p i) n) m=sumJ (fun i=>sumJ (fun p=>F p i) m) n
 | 0=>(sum_z fun i hi=>rfl).symm
 | m+1=>by
  show sumJ (fun p=>sumJ (fun i=>F p i) n) m+sumJ (fun i=>F m i) n=_
  rw [sum_swp F n m,← sum_add]
  rfl
section
variable {n:Nat} {c e:Nat→Int} {σ:Nat→Nat} {t:Int}
theorem o_ne (h:okO n e σ) {p q:Nat} (hp:p<n) (hq:q<n) (hs:σ p=σ q):p=q:=by
 rcases Nat.lt_trichotomy p q with x | x | x
 ·have:=h.s p q x hq
  rw [hs] at this; omega
 ·exact x
 ·have:=h.s q p x hp
  rw [hs] at this; omega
open Classical in
theorem one_at {g:Nat→Int} {j:Nat}:∀ {m:Nat},j<m→(∀ i,i<m→i≠j→g i=0)→sumJ g m=g j
 | 0,h,_=>by omega
 | m+1,h,h2=>by
  show sumJ g m+g m=g j
  by_cases x:j=m
  ·subst x
   rw [sum_z fun i hi=>h2 i (by omega) (by omega)]
   omega
  ·rw [one_at (by omega:j<m) fun i hi hj=>h2 i (by omega) hj,h2 m (by omega) (by omega)]
   omega
theorem o_sum (h:okO n e σ) (c:Nat→Int):sumJ (fun p=>c (σ p)) n=sumJ c n:=by
 have a:=sum_swp (fun p i=>if σ p=i then c i else 0) n n
 have b:sumJ (fun p=>sumJ (fun i=>if σ p=i then c i else 0) n) n=sumJ (fun p=>c (σ p)) n:=sumJ_congr fun p hp=>by
  rw [one_at (j:=σ p) (h.b p hp) fun i hi hne=>if_neg fun x=>hne x.symm,if_pos rfl]
 have d:sumJ (fun i=>sumJ (fun p=>if σ p=i then c i else 0) n) n=sumJ c n:=sumJ_congr fun i hi=>by
  obtain ⟨p,hp,hpi⟩:=h.r i hi
  rw [one_at (j:=p) hp fun q hq hne=>if_neg fun x=>hne (o_ne h hq hp (by rw [x,hpi])),if_pos hpi]
 rw [← b,a,d]
theorem gR_is (h:leP n c e σ t):∀ k,k≤n→gR c σ t k=max 0 (t - sumJ (fun p=>c (σ p)) k)
 | 0,_=>by
  have:=h.t0
  show t=max 0 (t - 0)
  omega
 | k+1,hk=>by
  have i:=gR_is h k (by omega)
  have b:=(h.h (σ k) (h.o.b k (by omega))).1
  show gR c σ t k - min (gR c σ t k) (c (σ k))=max 0 (t - (sumJ (fun p=>c (σ p)) k+c (σ k)))
  omega
theorem gR_nn (h:leP n c e σ t) {k:Nat} (hk:k≤n):0≤gR c σ t k∧gR c σ t k≤t:=by
 have a:=gR_is h k hk
 have b:∀ k,k≤n→0≤sumJ (fun p=>c (σ p)) k:=by
  intro k
  induction k with
  | zero=>intro _; exact Int.le_refl _
  | succ k ih =>
   intro hk
   have:=ih (by omega)
   have:=(h.h (σ k) (h.o.b k (by omega))).1
   show 0≤sumJ (fun p=>c (σ p)) k+c (σ k)
   omega
 have:=b k hk
 have:=h.t0
 omega
theorem gR_n (h:leP n c e σ t):gR c σ t n=0:=by
 have a:=gR_is h n (Nat.le_refl _)
 have b:=o_sum h.o c
 have:=h.t1
 omega
theorem gR_z (h:leP n c e σ t) {k:Nat} (hk:gR c σ t k=0):∀ d,k+d≤n→gR c σ t (k+d)=0∧gG c e σ t (k+d)=gG c e σ t k
 | 0,_=>⟨hk,rfl⟩
 | d+1,hd=>by
  obtain ⟨a,b⟩:=gR_z h hk d (by omega)
  have x:=(h.h (σ (k+d)) (h.o.b _ (by omega))).1
  have m:min (gR c σ t (k+d)) (c (σ (k+d)))=0:=by omega
  refine ⟨?_,?_⟩
  ·show gR c σ t (k+d) - min (gR c σ t (k+d)) (c (σ (k+d)))=0
   omega
  ·show gG c e σ t (k+d)+min (gR c σ t (k+d)) (c (σ (k+d)))*e (σ (k+d))=_
   rw [m,b]; omega
theorem mn_bd {a b T G:Int} (h1:0≤a) (h2:a≤T) (h3:-G≤b) (h4:b≤G) (hG:0≤G):-(T*G)≤a*b∧a*b≤T*G:=by
 have p:a*b≤a*G:=Int.mul_le_mul_of_nonneg_left h4 h1
 have q:a*G≤T*G:=Int.mul_le_mul_of_nonneg_right h2 hG
 have r:a*(-G)≤a*b:=Int.mul_le_mul_of_nonneg_left h3 h1
 have s:a*(-G)=-(a*G):=Int.mul_neg a G
 omega
theorem gI_bd (h:leP n c e σ t) {k:Nat} (hk:k<n):-33554432000000≤min (gR c σ t k) (c (σ k))*e (σ k)∧min (gR c σ t k) (c (σ k))*e (σ k)≤33554432000000:=by
 have a:=gR_nn h (k:=k) (by omega)
 have b:=h.h (σ k) (h.o.b k hk)
 have:=mn_bd (a:=min (gR c σ t k) (c (σ k))) (b:=e (σ k)) (T:=335544320) (G:=100000) (by omega) (by omega) (by omega) (by omega) (by omega)
 omega
theorem gG_bd (h:leP n c e σ t):∀ k,k≤n→-(33554432000000*(k:Int))≤gG c e σ t k∧gG c e σ t k≤33554432000000*k
 | 0,_=>by simp [gG]
 | k+1,hk=>by
  have i:=gG_bd h k (by omega)
  have j:=gI_bd h (k:=k) (by omega)
  show _≤gG c e σ t k+min (gR c σ t k) (c (σ k))*e (σ k)∧gG c e σ t k+min (gR c σ t k) (c (σ k))*e (σ k)≤_
  have e1:33554432000000*((k+1:Nat):Int)=33554432000000*k+33554432000000:=by push_cast; omega
  rw [e1]
  omega
theorem lc_is (h:leP n c e σ t) {k p:Nat} (hI:leI n c σ t k) (hp0:0<gR c σ t k) (hp:p<n):lcF c σ t k (σ p)=if p<k then 0 else c (σ p):=by
 have hk:=hI.kn
 unfold lcF tkF
 by_cases x:p<k
 ·rw [if_pos x,one_at (j:=p) x fun q hq hne=>if_neg fun y=>hne (o_ne h.o (by omega) hp y),if_pos rfl]
  have:=hI.z hp0 p x
  omega
 ·rw [if_neg x,sum_z fun q hq=>if_neg fun y=>by have:=o_ne h.o (by omega) hp y; omega]
  omega
theorem bst_ok {L:Nat→Int}:∀ i,(bstF L e i=-1∧∀ j,j<i→L j≤0)∨∃ b:Nat,bstF L e i=b∧b<i∧0<L b∧∀ j,j<i→0<L j→e b<e j∨(e b=e j∧b≤j)
 | 0=>.inl ⟨rfl,fun j hj=>by omega⟩
 | i+1=>by
  rcases bst_ok (L:=L) i with ⟨h1,h2⟩ | ⟨b,h1,h2,h3,h4⟩
  ·by_cases hl:0<L i
   ·refine .inr ⟨i,?_,by omega,hl,fun j hj h=>?_⟩
    ·simp only [bstF]; rw [if_pos ⟨hl,.inl (by omega)⟩]
    ·by_cases x:j=i
     ·subst x; exact .inr ⟨rfl,Nat.le_refl _⟩
     ·have:=h2 j (by omega); omega
   ·refine .inl ⟨?_,fun j hj=>?_⟩
    ·simp only [bstF]; rw [if_neg fun x=>hl x.1]; exact h1
    ·by_cases x:j=i
     ·subst x; omega
     ·exact h2 j (by omega)
  ·by_cases hl:0<L i∧e i<e b
   ·refine .inr ⟨i,?_,by omega,hl.1,fun j hj h=>?_⟩
    ·simp only [bstF]; rw [h1,if_pos ⟨hl.1,.inr (by simpa using hl.2)⟩]
    ·by_cases x:j=i
     ·subst x; exact .inr ⟨rfl,Nat.le_refl _⟩
     ·have:=h4 j (by omega) h; omega
   ·refine .inr ⟨b,?_,by omega,h3,fun j hj h=>?_⟩
    ·simp only [bstF]; rw [h1,if_neg fun x=>hl ⟨x.1,by have:=x.2; simp at this; omega⟩]
    ·by_cases x:j=i
     ·subst x
      have:¬ e j<e b:=fun y=>hl ⟨h,y⟩
      omega
     ·exact h4 j (by omega) h
theorem le_st (h:leP n c e σ t) {k:Nat} (hI:leI n c σ t k) (h0:0<gR c σ t k):∃ p,k≤p∧p<n∧bstF (lcF c σ t k) e n=(σ p:Nat)∧lcF c σ t k (σ p)=c (σ p)∧gR c σ t k=gR c σ t p∧gG c e σ t k=gG c e σ t p ∧
  leI n c σ t (p+1)∧∀ i,i<n→lcF c σ t (p+1) i=if i=σ p then lcF c σ t k i - min (gR c σ t p) (c (σ p)) else lcF c σ t k i:=by
 have hk:=hI.kn
 rcases bst_ok (L:=lcF c σ t k) (e:=e) n with ⟨h1,h2⟩ | ⟨b,h1,h2,h3,h4⟩
 ·exfalso
  have z:∀ d,k+d≤n→gR c σ t (k+d)=gR c σ t k:=by
   intro d
   induction d with
   | zero=>intro _; rfl
   | succ d ih =>
    intro hd
    have i:=ih (by omega)
    have a:=h2 (σ (k+d)) (h.o.b _ (by omega))
    rw [lc_is h hI h0 (by omega),if_neg (by omega)] at a
    have x:=(h.h (σ (k+d)) (h.o.b _ (by omega))).1
    show gR c σ t (k+d) - min (gR c σ t (k+d)) (c (σ (k+d)))=_
    omega
  have a:=z (n - k) (by omega)
  rw [show k+(n - k)=n by omega,gR_n h] at a
  omega
 ·obtain ⟨p,hp,rfl⟩:=h.o.r b h2
  have hL:=lc_is h hI h0 hp
  have hkp:k≤p:=by
   refine Classical.byContradiction fun hn=>?_
   rw [hL,if_pos (by omega)] at h3
   omega
  rw [if_neg (by omega)] at hL
  have hz:∀ q,k≤q→q<p→c (σ q)=0:=fun q a1 a2=>by
   have x:=(h.h (σ q) (h.o.b _ (by omega))).1
   refine Classical.byContradiction fun hn=>?_
   have l:=lc_is h hI h0 (p:=q) (by omega)
   rw [if_neg (by omega)] at l
   have:=h4 (σ q) (h.o.b _ (by omega)) (by omega)
   have:=h.o.s q p a2 hp
   omega
  have st:∀ d,k+d≤p→gR c σ t (k+d)=gR c σ t k∧gG c e σ t (k+d)=gG c e σ t k∧∀ i,tkF c σ t i (k+d)=tkF c σ t i k:=by
   intro d
   induction d with
   | zero=>intro _; exact ⟨rfl,rfl,fun _=>rfl⟩
   | succ d ih =>
    intro hd
    obtain ⟨i1,i2,i3⟩:=ih (by omega)
    have x:=hz (k+d) (by omega) (by omega)
    have m:min (gR c σ t (k+d)) (c (σ (k+d)))=0:=by omega
    refine ⟨?_,?_,fun i=>?_⟩
    ·show gR c σ t (k+d) - min (gR c σ t (k+d)) (c (σ (k+d)))=_
     omega
    ·show gG c e σ t (k+d)+min (gR c σ t (k+d)) (c (σ (k+d)))*e (σ (k+d))=_
     rw [m]; omega
    ·show tkF c σ t i (k+d)+(if σ (k+d)=i then min (gR c σ t (k+d)) (c i) else 0)=_
     rw [i3]
     by_cases y:σ (k+d)=i
     ·subst y; rw [if_pos rfl,m]; omega
     ·rw [if_neg y]; omega
  obtain ⟨s1,s2,s3⟩:=st (p - k) (by omega)
  rw [show k+(p - k)=p by omega] at s1 s2 s3
  refine ⟨p,hkp,hp,h1,hL,s1.symm,s2.symm,⟨by omega,fun g0 q hq=>?_⟩,fun i hi=>?_⟩
  ·by_cases a:q<k
   ·exact hI.z h0 q a
   ·by_cases b:q=p
    ·subst b
     have:gR c σ t (q+1)=gR c σ t q - min (gR c σ t q) (c (σ q)):=rfl
     omega
    ·rw [hz q (by omega) (by omega)]
     exact (gR_nn h (k:=q) (by omega)).1
  ·show c i - (tkF c σ t i p+(if σ p=i then min (gR c σ t p) (c i) else 0))=_
   rw [s3]
   by_cases y:i=σ p
   ·subst y; rw [if_pos rfl,if_pos rfl]; unfold lcF; omega
   ·rw [if_neg (fun z=>y z.symm),if_neg y]; unfold lcF; omega
end
end Go.Proofs.Ytfiaadlgfjokjaa

set_option maxRecDepth 100000
namespace Go.Proofs.Ytfiaadlgfjokjaa
open Go Go.Lg
attribute [local irreducible] funS bodyH bodyZ
theorem le_true {n:Nat} {c e:Nat→Int} {σ:Nat→Nat} {t:Int} (h:leP n c e σ t):leG n c e σ t:=by
 rw [leG_vc]
 have hm:=h.m
 simp only [rI,rE,tA,tB,tC,tD,and_true,true_and,Nat.zero_lt_one,and_self,implies_true,Int.toNat_natCast,Classical.not_not,Nat.zero_add,Nat.add_zero,Nat.sub_zero,Bool.false_eq_true,false_iff,if_true,true_iff,Nat.not_lt_zero,if_false]
 refine ⟨by omega,by omega,⟨0,⟨by omega,fun _ q hq=>by omega⟩,rfl,rfl,fun i hi=>?_⟩,fun z hz=>⟨fun h0=>⟨z,⟨(z,0),⟨⟨hz,h0,Nat.zero_le _⟩,rfl⟩,rfl,rfl,rfl,rfl,fun _ _=>rfl⟩,?_⟩,fun h0=>?_⟩⟩
 ·show c i=c i - 0
  omega
 ·rintro ⟨k,i⟩ ⟨h2,rfl⟩
  have hk:=h2.a.kn
  have hi:=h2.kn
  have h0:=h2.p
  dsimp only at hk hi h0 ⊢
  refine ⟨fun hl=>?_,fun hl=>?_⟩
  ·have b:bstF (lcF c σ t k) e i=-1∨0≤bstF (lcF c σ t k) e i∧bstF (lcF c σ t k) e i<i:=by
    rcases bst_ok (L:=lcF c σ t k) (e:=e) i with ⟨h1,_⟩ | ⟨b,h1,h2,_⟩
    ·exact .inl h1
    ·right; omega
   have fin:∀ v:Int,v=bstF (lcF c σ t k) e (i+1)→∃ s:Nat × Nat,(leI2 n c σ t s∧s.1=k)∧n - s.2<n - i∧gR c σ t k=gR c σ t s.1∧gG c e σ t k=gG c e σ t s.1∧v=bstF (lcF c σ t s.1) e s.2∧(i:Int)+1=(s.2:Int)∧∀ j,j<n→lcF c σ t k j=lcF c σ t s.1 j:=fun v hv =>
    ⟨(k,i+1),⟨⟨h2.a,h0,by show i+1≤n; omega⟩,rfl⟩,by show n - (i+1)<_; omega,rfl,rfl,hv,by show (i:Int)+1=((i+1:Nat):Int); omega,fun _ _=>rfl⟩
   refine ⟨by omega,hl,by omega,fun hp=>⟨fun hb=>⟨by omega,fin _ ?_⟩,fun hb=>⟨by omega,hl,by omega,by omega,fun he=>⟨by omega,fin _ ?_⟩,fun he=>⟨by omega,fin _ ?_⟩⟩⟩,fun hp=>⟨by omega,fin _ ?_⟩⟩
   ·simp only [bstF]; rw [if_pos ⟨hp,.inl hb⟩]
   ·simp only [bstF]; rw [if_pos ⟨hp,.inr he⟩]
   ·simp only [bstF]; rw [if_neg fun x=>by rcases x.2 with y | y <;> contradiction]
   ·simp only [bstF]; rw [if_neg fun x=>hp x.1]
  ·obtain rfl:i=n:=by omega
   obtain ⟨p,p1,p2,p3,p4,p5,p6,p7,p8⟩:=le_st h h2.a h0
   have hb:=h.o.b p p2
   have hc:=h.h (σ p) hb
   have g1:=gR_nn h (k:=p) (by omega)
   have g2:=gI_bd h p2
   have g3:=gG_bd h p (by omega)
   have ht:=h.t1
   have hs:=sj_bd (g:=c) (B:=335544320) (m:=i) fun j hj=>⟨(h.h j hj).1,(h.h j hj).2.1⟩
   rw [p3,p5,p6]
   simp only [Int.toNat_natCast,p4]
   refine ⟨by omega,by omega,by omega,by omega,by omega,by omega,by omega,by omega,by omega,by omega,by omega,by omega,by omega,by omega,by omega,by omega,p+1,p7,by omega,rfl,rfl,fun j hj=>?_⟩
   rw [p8 j hj]
   by_cases x:j=σ p
   ·subst x; rw [if_pos rfl,if_pos rfl,p4]
   ·rw [if_neg x,if_neg x]
 ·have:=(gR_nn h (k:=z) hz.kn).1
  have:=(gR_z h (k:=z) (by omega) (n - z) (by have:=hz.kn; omega)).2
  rw [show z+(n - z)=n by have:=hz.kn; omega] at this
  exact this.symm
theorem le_ok:leC.Ok Try.prog:=by
 refine ⟨by kernel_rfl,fun x k hk=>?_⟩
 simp only [leC] at hk
 split at hk
 ·rename_i n f m g t
  obtain ⟨h1,h2,h3,σ,h4,hk⟩:=hk
  subst h3
  have hh:=le_true h4
  unfold leG inL at hh
  have e1:SV.lst 1 m f=SV.lst 1 m fun i=>i6 ((tnOf m f).f i):=h1
  have e2:SV.lst 1 m g=SV.lst 1 m fun i=>i6 ((tnOf m g).f i):=h2
  rw [← e1,← e2] at hh
  exact ⟨_,plainD nilS_cs nilS_x nilS_ic hh trivial,hk⟩
 ·exact hk.elim
end Go.Proofs.Ytfiaadlgfjokjaa

namespace Go.Proofs.Ytfiaadlgfjokjaa
open Go Go.Lg
attribute [local irreducible] bodyH bodyZ funS
noncomputable def ofC:Ctr:=⟨44,fun args k=>match args with
 | [.agg [.int .i64 a,.int .i64 b,.int .i64 c,.int .i64 d,.int .i64 e,.int .i64 f,.int .i64 g,.int .i64 h],.int .i64 w]=>(0≤w∧w≤3)∧k (spT w.toNat ⟨a,b,c,d,e,f,g,h⟩).sv
 | _=>False⟩
noncomputable def ofG (c:Co) (w:Nat):Prop:=funH Try.prog (ctrs []) noX (ictrs []) noL noL 44 [c.sv,i6 w] (spT w c).sv
noncomputable def of0 (c:Co):Prop:=ofG c 0
noncomputable def of1 (c:Co):Prop:=ofG c 1
noncomputable def of2 (c:Co):Prop:=ofG c 2
noncomputable def of3 (c:Co):Prop:=ofG c 3
noncomputable def ctE (Y:Yd) (q i:Nat):Int:=ctF Y.m q Y.m.n i
noncomputable def rbF (Y:Yd) (d k i:Nat):Tw:=⟨sumJ (fun q=>max 0 (oJ Y d q - (csJ Y Y.m.n q - ctE Y q i))) k,sumJ (fun q=>min (oJ Y d q) (ctE Y q i)) k⟩
open Classical in
noncomputable def rbN (Y:Yd) (a:Int):Nat:=if rdE Y a=0 then Y.c.n else 0
noncomputable def rbR (Y:Yd) (a:Int):SV:=.tup [twL (rbN Y a) (rbF Y a.toNat (lnJ Y.m)),i6 (rdE Y a)]
structure rbI (Y:Yd) (a:Int) (k:Nat):Prop where
 e:rdE Y a=0
 kn:k≤lnJ Y.m
structure rbI2 (Y:Yd) (a:Int) (s:Nat × Nat):Prop where
 e:rdE Y a=0
 k:s.1<lnJ Y.m
 i:s.2≤Y.c.n
noncomputable def rbM (Y:Yd) (a:Int) (k j i:Nat):Tw:=if i<j then rbF Y a.toNat (k+1) i else rbF Y a.toNat k i
noncomputable def rbS (Y:Yd) (a:Int) (k:Nat) (l:List (Nat × SV)):FS:=mkF 97 ([(1,i6 a),(2,.ptr 0 0 0),(6,ooL Y (stN Y)),(8,.sl 1 0 Y.c.n),(9,i6 k)] ++ l)
noncomputable def rbG (Y:Yd) (a:Int):Prop:=funN Try.prog (ctrsF [stC] (ctrs [inC,l7C,c8C,smC])) noX (ictrs [])
 (twoL 0 (natH (rbI Y a) (fun k=>lnJ Y.m - k) 2 (fun k=>rbS Y a k []) (fun k=>mkX [vr 2 Y.sv,rw' 2 Y.c.n fun i=>(rbF Y a.toNat k i).sv]) fun _=>none) <|
 oneL 2 (twH 97 9 11 2 (rbI2 Y a) (fun s=>Y.c.n - s.2) (fun s=>rbS Y a s.1 [(10,inL Y.c.n (ctE Y s.1)),(11,i6 s.2)]) (fun s=>mkX [vr 2 Y.sv,rw' 2 Y.c.n fun i=>(rbM Y a s.1 s.2 i).sv]))) noL 17 [Y.sv,i6 a] (rbR Y a)
noncomputable def rbC:Ctr:=⟨17,fun args k=>match args with
 | [.agg [.lst 8 n f,.lst 3 m g],.int .i64 a]=>SV.lst 8 n f=(clOf n f).sv∧SV.lst 3 m g=(msOf m g).sv∧(n≤1000∧m≤1000)∧k (rbR ⟨clOf n f,msOf m g⟩ a)
 | _=>False⟩
noncomputable def eA (w:Nat) (C:Cl) (i:Nat):Int:=(spT w (C.f i)).lo
noncomputable def eB (w:Nat) (C:Cl) (i:Nat):Int:=-(spT w (C.f i)).hi
noncomputable def sA (w:Nat) (C:Cl) (p:Nat):Nat:=(stA w C p).co.toNat
noncomputable def sB (w:Nat) (C:Cl) (p:Nat):Nat:=(stB w C p).co.toNat
noncomputable def rnF (Y:Yd) (a d q:Nat):Int:=sumJ (fun j=>oJ Y j q) d - sumJ (fun j=>oJ Y j q) a
open Classical in
noncomputable def ryE (Y:Yd) (a b w:Int):Int:=if stE Y=0 then (if a<0∨b<a∨(dn Y.m Y.m.n:Int)≤b∨¬ (0≤w∧w≤3) then 2 else 0) else stE Y
noncomputable def ryF (Y:Yd) (a b:Nat) (w k:Nat):Tw:=⟨sumJ (fun q=>gG (ctE Y q) (eA w Y.c) (sA w Y.c) (rnF Y a (b+1) q) Y.c.n) k,sumJ (fun q=>-(gG (ctE Y q) (eB w Y.c) (sB w Y.c) (rnF Y a (b+1) q) Y.c.n)) k⟩
open Classical in
noncomputable def ryS (Y:Yd) (a b w:Int):Tw:=if ryE Y a b w=0 then ryF Y a.toNat b.toNat w.toNat (lnJ Y.m) else ⟨0,0⟩
noncomputable def ryR (Y:Yd) (a b w:Int):SV:=.tup [(ryS Y a b w).sv,i6 (ryE Y a b w)]
structure ryI (Y:Yd) (a b w:Int):Prop where
 e:ryE Y a b w=0
structure ryI0 (Y:Yd) (a b w:Int) (k:Nat):Prop where
 i:ryI Y a b w
 kn:k≤Y.c.n
structure ryI2 (Y:Yd) (a b w:Int) (k:Nat):Prop where
 i:ryI Y a b w
 kn:k≤lnJ Y.m
structure ryI4 (Y:Yd) (a b w:Int) (s:Nat × Nat):Prop where
 i:ryI Y a b w
 k:s.1<lnJ Y.m
 d0:a≤s.2
 d1:(s.2:Int)≤b+1
noncomputable def ryT (Y:Yd) (a b:Int) (l:List (Nat × SV)):FS:=mkF 118 ([(1,i6 a),(2,i6 b),(4,.ptr 0 0 0),(8,.ptr 1 0 0),(10,ooL Y (stN Y))] ++ l)
noncomputable def ryX (Y:Yd) (l:List (Option SRow)):XS:=mkX ([vr 2 Y.sv,vr 2 (Tw.sv ⟨0,0⟩)] ++ l)
noncomputable def ry0 (Y:Yd) (a b w:Int):HSpec :=
 { toLSpec:={ σ:=Nat,inv:=ryI0 Y a b w,μ:=fun k=>Y.c.n - k,nr:=2,ms:=(fun t _=>[match sget 118 t 12 with
         | .sl r _ _=>some r
         | _=>none,match sget 118 t 13 with
         | .sl r _ _=>some r
         | _=>none]),t:=fun k=>ryT Y a b [(3,i6 w),(12,.sl 2 0 k),(13,.sl 3 0 k),(14,i6 k)],X:=fun k=>ryX Y [rw' 1 k fun i=>i6 (eA w.toNat Y.c i),rw' 1 k fun i=>i6 (eB w.toNat Y.c i)],rd:=fun _ _ k=>∃ z,k z,rdOK:=fun _ _ _ h=>h } }
noncomputable def ryX2 (Y:Yd) (a b w:Int) (k:Nat):XS:=ryX Y [rw' 1 Y.c.n fun i=>i6 (eA w.toNat Y.c i),rw' 1 Y.c.n fun i=>i6 (eB w.toNat Y.c i),vr 2 (ryF Y a.toNat b.toNat w.toNat k).sv]
noncomputable def ryT2 (Y:Yd) (a b:Int) (l:List (Nat × SV)):FS:=ryT Y a b ([(12,.sl 2 0 Y.c.n),(13,.sl 3 0 Y.c.n),(16,.ptr 4 0 0)] ++ l)
noncomputable def ryG (Y:Yd) (a b w:Int):Prop:=funH Try.prog (ctrsF [stC] (ctrs [inC,ofC,l7C,c8C,leC])) noX (ictrs [])
 (twoL 0 (ry0 Y a b w) <|
 twoL 2 (natH (ryI2 Y a b w) (fun k=>lnJ Y.m - k) 5 (fun k=>ryT2 Y a b [(17,i6 k)]) (ryX2 Y a b w) fun _=>none) <|
 oneL 4 (twH 118 17 19 5 (ryI4 Y a b w) (fun s=>b.toNat+1 - s.2) (fun s=>ryT2 Y a b [(17,i6 s.1),(18,i6 (rnF Y a.toNat s.2 s.1)),(19,i6 s.2)]) (fun s=>ryX2 Y a b w s.1))) noL 19 [Y.sv,i6 a,i6 b,i6 w] (ryR Y a b w)
noncomputable def ryC:Ctr:=⟨19,fun args k=>match args with
 | [.agg [.lst 8 n f,.lst 3 m g],.int .i64 a,.int .i64 b,.int .i64 w]=>SV.lst 8 n f=(clOf n f).sv∧SV.lst 3 m g=(msOf m g).sv∧(n≤1000∧m≤1000)∧k (ryR ⟨clOf n f,msOf m g⟩ a b w)
 | _=>False⟩
end Go.Proofs.Ytfiaadlgfjokjaa

set_option maxRecDepth 100000
namespace Go.Proofs.Ytfiaadlgfjokjaa
open Go Go.Lg
theorem of0_vc (c:Co):of0 c =
((0:Nat)<(1:Nat) ∧
 (0:Nat)<(1:Nat) ∧
  (0:Nat)<(1:Nat) ∧
   (0:Nat)<(1:Nat) ∧
    ((∀ (i:Nat),true=true)∧(∀ (i:Nat),true=true)∧(∀ (i:Nat),true=true)∧True) ∧
     (0:Int)≤(↑(0:Nat):Int) ∧
      (↑(0:Nat):Int)<(↑(4:Nat):Int) ∧
       (0:Nat)<(1:Nat) ∧
        (if (↑(0:Nat):Int).toNat=(0:Nat) then c.1
          else
           if (↑(0:Nat):Int).toNat - (1:Nat)=(0:Nat) then c.3
           else if (↑(0:Nat):Int).toNat - (1:Nat) - (1:Nat)=(0:Nat) then c.5 else c.7) =
          c.1 ∧
         (if (↑(0:Nat):Int).toNat=(0:Nat) then c.2
           else
            if (↑(0:Nat):Int).toNat - (1:Nat)=(0:Nat) then c.4
            else if (↑(0:Nat):Int).toNat - (1:Nat) - (1:Nat)=(0:Nat) then c.6 else c.8) =
           c.2 ∧
          True):=by kernel_rfl
theorem of1_vc (c:Co):of1 c =
((0:Nat)<(1:Nat) ∧
 (0:Nat)<(1:Nat) ∧
  (0:Nat)<(1:Nat) ∧
   (0:Nat)<(1:Nat) ∧
    ((∀ (i:Nat),true=true)∧(∀ (i:Nat),true=true)∧(∀ (i:Nat),true=true)∧True) ∧
     (0:Int)≤(↑(1:Nat):Int) ∧
      (↑(1:Nat):Int)<(↑(4:Nat):Int) ∧
       (0:Nat)<(1:Nat) ∧
        (if (↑(1:Nat):Int).toNat=(0:Nat) then c.1
          else
           if (↑(1:Nat):Int).toNat - (1:Nat)=(0:Nat) then c.3
           else if (↑(1:Nat):Int).toNat - (1:Nat) - (1:Nat)=(0:Nat) then c.5 else c.7) =
          c.3 ∧
         (if (↑(1:Nat):Int).toNat=(0:Nat) then c.2
           else
            if (↑(1:Nat):Int).toNat - (1:Nat)=(0:Nat) then c.4
            else if (↑(1:Nat):Int).toNat - (1:Nat) - (1:Nat)=(0:Nat) then c.6 else c.8) =
           c.4 ∧
          True):=by kernel_rfl
theorem of2_vc (c:Co):of2 c =
((0:Nat)<(1:Nat) ∧
 (0:Nat)<(1:Nat) ∧
  (0:Nat)<(1:Nat) ∧
   (0:Nat)<(1:Nat) ∧
    ((∀ (i:Nat),true=true)∧(∀ (i:Nat),true=true)∧(∀ (i:Nat),true=true)∧True) ∧
     (0:Int)≤(↑(2:Nat):Int) ∧
      (↑(2:Nat):Int)<(↑(4:Nat):Int) ∧
       (0:Nat)<(1:Nat) ∧
        (if (↑(2:Nat):Int).toNat=(0:Nat) then c.1
          else
           if (↑(2:Nat):Int).toNat - (1:Nat)=(0:Nat) then c.3
           else if (↑(2:Nat):Int).toNat - (1:Nat) - (1:Nat)=(0:Nat) then c.5 else c.7) =
          c.5 ∧
         (if (↑(2:Nat):Int).toNat=(0:Nat) then c.2
           else
            if (↑(2:Nat):Int).toNat - (1:Nat)=(0:Nat) then c.4
            else if (↑(2:Nat):Int).toNat - (1:Nat) - (1:Nat)=(0:Nat) then c.6 else c.8) =
           c.6 ∧
          True):=by kernel_rfl
theorem of3_vc (c:Co):of3 c =
((0:Nat)<(1:Nat) ∧
 (0:Nat)<(1:Nat) ∧
  (0:Nat)<(1:Nat) ∧
   (0:Nat)<(1:Nat) ∧
    ((∀ (i:Nat),true=true)∧(∀ (i:Nat),true=true)∧(∀ (i:Nat),true=true)∧True) ∧
     (0:Int)≤(↑(3:Nat):Int) ∧
      (↑(3:Nat):Int)<(↑(4:Nat):Int) ∧
       (0:Nat)<(1:Nat) ∧
        (if (↑(3:Nat):Int).toNat=(0:Nat) then c.1
          else
           if (↑(3:Nat):Int).toNat - (1:Nat)=(0:Nat) then c.3
           else if (↑(3:Nat):Int).toNat - (1:Nat) - (1:Nat)=(0:Nat) then c.5 else c.7) =
          c.7 ∧
         (if (↑(3:Nat):Int).toNat=(0:Nat) then c.2
           else
            if (↑(3:Nat):Int).toNat - (1:Nat)=(0:Nat) then c.4
            else if (↑(3:Nat):Int).toNat - (1:Nat) - (1:Nat)=(0:Nat) then c.6 else c.8) =
           c.8 ∧
          True):=by kernel_rfl
end Go.Proofs.Ytfiaadlgfjokjaa

set_option maxRecDepth 100000
namespace Go.Proofs.Ytfiaadlgfjokjaa
open Go Go.Lg
theorem rbG_vc (Y:Yd) (a:Int):rbG Y a=((0:Nat)<(1:Nat)∧tA Y∧tB Y∧tC Y∧tD Y∧(Y.c.1≤(1000:Nat)∧Y.m.1≤(1000:Nat))∧(¬stE Y=(0:Int)→(0:Nat)=rbN Y a∧stE Y=rdE Y a∧True)∧(¬¬stE Y=(0:Int)→rI ((↑(stN Y):Int) - (1:Int))∧(¬((0:Int)≤a∧a≤(↑(stN Y):Int) - (1:Int))→(0:Nat)=rbN Y a∧(2:Int)=rdE Y a∧True)∧(¬¬((0:Int)≤a∧a≤(↑(stN Y):Int) - (1:Int))→(0:Nat)<(1:Nat)∧(0:Int)≤(↑Y.c.1:Int)∧(↑Y.c.1:Int)≤(↑Y.c.1:Int)∧(↑Y.c.1:Int)≤(1048576:Int)∧(↑Y.c.1:Int)*(↑(16:Nat):Int)≤(140737488355328:Int)∧(∃ (z:Nat),rbI Y a z∧a=a∧rE (0:Nat)∧rE (0:Nat)∧stN Y=stN Y∧(∀ (i:Nat),i<stN Y→(SV.lst (1:Nat) (lnJ Y.m) fun k=>i6 (oJ Y i k)).den=(SV.lst (1:Nat) (lnJ Y.m) fun k=>i6 (oJ Y i k)).den∧∀ (i:Nat),i<lnJ Y.m→True)∧rE (0:Nat)∧(↑Y.c.1:Int).toNat=Y.c.1∧(0:Int)=(↑z:Int)∧rE Y.c.1∧(∀ (i:Nat),i<Y.c.1→rE ((Y.c.f i).sv.den)∧True∧True∧True∧True∧True∧True∧True∧True∧True)∧rE Y.m.1∧(∀ (i:Nat),i<Y.m.1→rE ((Y.m.f i).sv.den)∧True∧True∧True∧True)∧Y.c.1=(↑Y.c.1:Int).toNat∧(∀ (i:Nat),i<Y.c.1→rE (2:Nat)∧(0:Int)=sumJ (fun q=>max (0:Int) (oJ Y a.toNat q - (csJ Y Y.m.n q - ctE Y q i))) z∧(0:Int)=sumJ (fun q=>min (oJ Y a.toNat q) (ctE Y q i)) z∧True)∧True)∧∀ (z:Nat),rbI Y a z→(0:Nat)<(1:Nat)∧tA Y∧tB Y∧tC Y∧tD Y ∧
Y.m.1≤(1000:Nat)∧((↑z:Int)<snF Y.m Y.m.1+(1:Int)→(0:Nat)<(1:Nat)∧(0:Nat)<(1:Nat)∧tA Y∧tB Y∧tC Y∧tD Y∧((0:Int)≤(↑Y.m.1:Int)∧(↑Y.m.1:Int)≤(↑Y.m.1:Int)∧okCl Y.c∧okMs (↑Y.c.n:Int) Y.m)∧((rbI2 Y a ((↑z:Int).toNat,Int.toNat (0:Int))∧z=(↑z:Int).toNat)∧a=a∧rE (0:Nat)∧rE (0:Nat)∧rE (stN Y)∧(∀ (i:Nat),i<stN Y→rE ((SV.lst (1:Nat) (lnJ Y.m) fun k=>i6 (oJ Y i k)).den)∧∀ (i:Nat),i<lnJ Y.m→True)∧rE (0:Nat)∧rE Y.c.1∧rE (↑z:Int)∧rE Y.c.1∧(∀ (i:Nat),i<Y.c.1→(i6 (ctF Y.m (↑z:Int) (↑Y.m.n:Int).toNat i)).den=(i6 (ctE Y (↑z:Int).toNat i)).den∧True)∧(0:Int)=(↑(0:Nat):Int)∧rE Y.c.1∧(∀ (i:Nat),i<Y.c.1→rE ((Y.c.f i).sv.den)∧True∧True∧True∧True∧True∧True∧True∧True∧True)∧rE Y.m.1∧(∀ (i:Nat),i<Y.m.1→rE ((Y.m.f i).sv.den)∧True∧True∧True∧True)∧rE Y.c.1∧(∀ (i:Nat),i<Y.c.1→rE (2:Nat)∧rE (sumJ (fun q=>max (0:Int) (oJ Y a.toNat q - (csJ Y Y.m.n q - ctE Y q i))) z)∧rE (sumJ (fun q=>min (oJ Y a.toNat q) (ctE Y q i)) z)∧True)∧True)∧∀ (z_1:Nat × Nat),rbI2 Y a z_1∧z_1.1=(↑z:Int).toNat→((↑z_1.2:Int)<(↑Y.c.1:Int)→(0:Int)≤(↑z_1.2:Int)∧(↑z_1.2:Int)<(↑Y.c.1:Int)∧(0:Nat)+(↑z_1.2:Int).toNat<Y.c.1∧(0:Int)≤a∧a<(↑(stN Y):Int)∧(0:Int)≤(↑z_1.1:Int)∧(↑z_1.1:Int)<(↑(lnJ Y.m):Int)∧(∀ (i:Nat),i<Y.c.1→True) ∧
(SV.lst (1:Nat) Y.c.n fun i=>i6 (ctE Y z_1.fst i))=(tnOf Y.c.n fun i=>i6 (ctE Y z_1.fst i)).sv∧(Y.c.1≤(1000:Nat)∧∀ (i:Nat),i<Y.c.1→(-1099511627776:Int)≤ctE Y z_1.1 i∧ctE Y z_1.1 i≤(1099511627776:Int))∧(0:Int)≤(↑z_1.2:Int)∧(↑z_1.2:Int)<(↑Y.c.1:Int)∧rI (sumJ (tnOf Y.c.n fun i=>i6 (ctE Y z_1.fst i)).f Y.c.1 - ctE Y z_1.1 (↑z_1.2:Int).toNat)∧rI (oJ Y a.toNat (↑z_1.1:Int).toNat - (sumJ (tnOf Y.c.n fun i=>i6 (ctE Y z_1.fst i)).f Y.c.1 - ctE Y z_1.1 (↑z_1.2:Int).toNat))∧rI ((rbM Y a z_1.fst z_1.snd ((0:Nat)+(↑z_1.snd:Int).toNat)).1+max (0:Int) (oJ Y a.toNat (↑z_1.1:Int).toNat - (sumJ (tnOf Y.c.n fun i=>i6 (ctE Y z_1.fst i)).f Y.c.1 - ctE Y z_1.1 (↑z_1.2:Int).toNat)))∧(0:Int)≤(↑z_1.2:Int)∧(↑z_1.2:Int)<(↑Y.c.1:Int)∧(0:Nat)+(1:Nat)≤(2:Nat)∧(0:Nat)+(↑z_1.2:Int).toNat<Y.c.1∧(∀ (i':Nat),rE true)∧(0:Int)≤(↑z_1.2:Int)∧(↑z_1.2:Int)<(↑Y.c.1:Int)∧(0:Nat)+(↑z_1.2:Int).toNat<Y.c.1∧(0:Int)≤a∧a<(↑(stN Y):Int)∧(0:Int)≤(↑z_1.1:Int)∧(↑z_1.1:Int)<(↑(lnJ Y.m):Int)∧(0:Int)≤(↑z_1.2:Int)∧(↑z_1.2:Int)<(↑Y.c.1:Int)∧rI ((if (0:Nat)+(↑z_1.2:Int).toNat=(0:Nat)+(↑z_1.2:Int).toNat then (rbM Y a z_1.fst z_1.snd ((0:Nat)+(↑z_1.snd:Int).toNat)).2 else (rbM Y a z_1.fst z_1.snd ((0:Nat)+(↑z_1.snd:Int).toNat)).2)+min (oJ Y a.toNat (↑z_1.1:Int).toNat) (ctE Y z_1.1 (↑z_1.2:Int).toNat)) ∧
(0:Int)≤(↑z_1.2:Int)∧(↑z_1.2:Int)<(↑Y.c.1:Int)∧(1:Nat)+(1:Nat)≤(2:Nat)∧(0:Nat)+(↑z_1.2:Int).toNat<Y.c.1∧(∀ (i':Nat),rE true)∧rI ((↑z_1.2:Int)+(1:Int))∧(rbI2 Y a ((↑z_1.fst:Int).toNat,((↑z_1.snd:Int)+(1:Int)).toNat)∧(↑z_1.1:Int).toNat=(↑z:Int).toNat)∧Y.c.1 - ((↑z_1.2:Int)+(1:Int)).toNat<Y.c.1 - z_1.2∧a=a∧rE (0:Nat)∧rE (0:Nat)∧rE (stN Y)∧(∀ (i:Nat),i<stN Y→rE ((SV.lst (1:Nat) (lnJ Y.m) fun k=>i6 (oJ Y i k)).den)∧∀ (i:Nat),i<lnJ Y.m→True)∧rE (0:Nat)∧rE Y.c.1∧(↑z_1.1:Int)=(↑(↑z_1.1:Int).toNat:Int)∧rE Y.c.1∧(∀ (i:Nat),i<Y.c.1→(i6 (ctE Y z_1.fst i)).den=(i6 (ctE Y (↑z_1.fst:Int).toNat i)).den∧True)∧(↑z_1.2:Int)+(1:Int)=(↑((↑z_1.2:Int)+(1:Int)).toNat:Int)∧rE Y.c.1∧(∀ (i:Nat),i<Y.c.1→rE ((Y.c.f i).sv.den)∧True∧True∧True∧True∧True∧True∧True∧True∧True)∧rE Y.m.1∧(∀ (i:Nat),i<Y.m.1→rE ((Y.m.f i).sv.den)∧True∧True∧True∧True)∧rE Y.c.1∧(∀ (i:Nat),i<Y.c.1→rE (2:Nat) ∧
(if i=(0:Nat)+(↑z_1.2:Int).toNat then if i=(0:Nat)+(↑z_1.2:Int).toNat then (rbM Y a z_1.fst z_1.snd ((0:Nat)+(↑z_1.snd:Int).toNat)).1+max (0:Int) (oJ Y a.toNat (↑z_1.1:Int).toNat - (sumJ (tnOf Y.c.n fun i=>i6 (ctE Y z_1.fst i)).f Y.c.1 - ctE Y z_1.1 (↑z_1.2:Int).toNat)) else (rbM Y a z_1.fst z_1.snd i).1 else if i=(0:Nat)+(↑z_1.2:Int).toNat then (rbM Y a z_1.fst z_1.snd ((0:Nat)+(↑z_1.snd:Int).toNat)).1+max (0:Int) (oJ Y a.toNat (↑z_1.1:Int).toNat - (sumJ (tnOf Y.c.n fun i=>i6 (ctE Y z_1.fst i)).f Y.c.1 - ctE Y z_1.1 (↑z_1.2:Int).toNat)) else (rbM Y a z_1.fst z_1.snd i).1)=(rbM Y a (↑z_1.fst:Int).toNat ((↑z_1.snd:Int)+(1:Int)).toNat i).1∧(if i=(0:Nat)+(↑z_1.2:Int).toNat then (if (0:Nat)+(↑z_1.2:Int).toNat=(0:Nat)+(↑z_1.2:Int).toNat then (rbM Y a z_1.fst z_1.snd ((0:Nat)+(↑z_1.snd:Int).toNat)).2 else (rbM Y a z_1.fst z_1.snd ((0:Nat)+(↑z_1.snd:Int).toNat)).2)+min (oJ Y a.toNat (↑z_1.1:Int).toNat) (ctE Y z_1.1 (↑z_1.2:Int).toNat) else if i=(0:Nat)+(↑z_1.2:Int).toNat then (rbM Y a z_1.fst z_1.snd i).2 else (rbM Y a z_1.fst z_1.snd i).2)=(rbM Y a (↑z_1.fst:Int).toNat ((↑z_1.snd:Int)+(1:Int)).toNat i).2∧True)∧True)∧(¬(↑z_1.2:Int)<(↑Y.c.1:Int)→rI ((↑z_1.1:Int)+(1:Int))∧∃ (z_2:Nat),rbI Y a z_2∧lnJ Y.m - z_2<lnJ Y.m - z∧a=a∧rE (0:Nat)∧rE (0:Nat)∧rE (stN Y) ∧
(∀ (i:Nat),i<stN Y→rE ((SV.lst (1:Nat) (lnJ Y.m) fun k=>i6 (oJ Y i k)).den)∧∀ (i:Nat),i<lnJ Y.m→True)∧rE (0:Nat)∧rE Y.c.1∧(↑z_1.1:Int)+(1:Int)=(↑z_2:Int)∧rE Y.c.1∧(∀ (i:Nat),i<Y.c.1→rE ((Y.c.f i).sv.den)∧True∧True∧True∧True∧True∧True∧True∧True∧True)∧rE Y.m.1∧(∀ (i:Nat),i<Y.m.1→rE ((Y.m.f i).sv.den)∧True∧True∧True∧True)∧rE Y.c.1∧(∀ (i:Nat),i<Y.c.1→rE (2:Nat)∧(rbM Y a z_1.fst z_1.snd i).1=sumJ (fun q=>max (0:Int) (oJ Y a.toNat q - (csJ Y Y.m.n q - ctE Y q i))) z_2∧(rbM Y a z_1.fst z_1.snd i).2=sumJ (fun q=>min (oJ Y a.toNat q) (ctE Y q i)) z_2∧True)∧True))∧(¬(↑z:Int)<snF Y.m Y.m.1+(1:Int)→Y.c.1=rbN Y a∧(0:Nat)+rbN Y a≤Y.c.1∧(∀ (i:Nat),i<rbN Y a→rE (2:Nat)∧rE (2:Nat)∧sumJ (fun q=>max (0:Int) (oJ Y a.toNat q - (csJ Y Y.m.n q - ctE Y q (i+(0:Nat))))) z=sumJ (fun q=>max (0:Int) (oJ Y a.toNat q - (csJ Y Y.m.n q - ctE Y q i))) (lnJ Y.m)∧sumJ (fun q=>min (oJ Y a.toNat q) (ctE Y q (i+(0:Nat)))) z=sumJ (fun q=>min (oJ Y a.toNat q) (ctE Y q i)) (lnJ Y.m)∧True)∧(0:Int)=rdE Y a∧True)))):=by kernel_rfl
end Go.Proofs.Ytfiaadlgfjokjaa

set_option maxRecDepth 100000
namespace Go.Proofs.Ytfiaadlgfjokjaa
open Go Go.Lg
def ryG0 (Y:Yd):Prop:=(∀ (i:Nat),i<Y.c.1→rE ((Y.c.f i).sv.den)∧True∧True∧True∧True∧True∧True∧True∧True∧True)
def ryG1 (Y:Yd):Prop:=(∀ (i:Nat),i<stN Y→rE ((SV.lst (1:Nat) (lnJ Y.m) fun k=>i6 (oJ Y i k)).den)∧∀ (i:Nat),i<lnJ Y.m→True)
def ryG2 (Y:Yd):Prop:=(∀ (i:Nat),i<Y.m.1→rE ((Y.m.f i).sv.den)∧True∧True∧True∧True)
theorem ryG_vc (Y:Yd) (a:Int) (b:Int) (w:Int):ryG Y a b w=((0:Nat)<(1:Nat)∧tA Y∧tB Y∧tC Y∧tD Y∧(Y.c.1≤(1000:Nat)∧Y.m.1≤(1000:Nat))∧(¬stE Y=(0:Int)→(0:Nat)<(1:Nat)∧(0:Int)=(ryS Y a b w).1∧(0:Int)=(ryS Y a b w).2∧stE Y=ryE Y a b w∧True)∧(¬¬stE Y=(0:Int)→(a<(0:Int)→(0:Nat)<(1:Nat)∧(0:Int)=(ryS Y a b w).1∧(0:Int)=(ryS Y a b w).2∧(2:Int)=ryE Y a b w∧True)∧(¬a<(0:Int)→(b<a→(0:Nat)<(1:Nat)∧(0:Int)=(ryS Y a b w).1∧(0:Int)=(ryS Y a b w).2∧(2:Int)=ryE Y a b w∧True)∧(¬b<a→((↑(stN Y):Int)≤b→(0:Nat)<(1:Nat)∧(0:Int)=(ryS Y a b w).1∧(0:Int)=(ryS Y a b w).2∧(2:Int)=ryE Y a b w∧True)∧(¬(↑(stN Y):Int)≤b→(¬((0:Int)≤w∧w≤(3:Int))→(0:Nat)<(1:Nat)∧(0:Int)=(ryS Y a b w).1∧(0:Int)=(ryS Y a b w).2∧(2:Int)=ryE Y a b w∧True)∧(¬¬((0:Int)≤w∧w≤(3 :
Int))→(∃ (z:Nat),ryI0 Y a b w z∧a=a∧b=b∧w=w∧rE (0:Nat)∧rE (0:Nat)∧rE (0:Nat)∧rE (0:Nat)∧stN Y=stN Y∧(∀ (i:Nat),i<stN Y→(SV.lst (1:Nat) (lnJ Y.m) fun k=>i6 (oJ Y i k)).den=(SV.lst (1:Nat) (lnJ Y.m) fun k=>i6 (oJ Y i k)).den∧∀ (i:Nat),i<lnJ Y.m→True)∧rE (0:Nat)∧(0:Nat)=z∧rE (0:Nat)∧(0:Nat)=z∧(0:Int)=(↑z:Int)∧rE Y.c.1∧(ryG0 Y)∧rE Y.m.1∧(ryG2 Y)∧rE (0:Int)∧rE (0:Int)∧z=(0:Nat)∧z=(0:Nat)∧True)∧∀ (z:Nat),ryI0 Y a b w z→(0:Nat)<(1:Nat)∧((↑z:Int)<(↑Y.c.1:Int)→(0:Nat)<(1:Nat)∧(0:Int)≤(↑z:Int)∧(↑z:Int)<(↑Y.c.1:Int)∧((0:Int)≤w∧w≤(3:Int))∧(0:Nat)<(1:Nat)∧True∧(∀ (i:Nat),i<(1:Nat)→rE true)∧rE (0:Nat)∧z=z∧(∀ (i:Nat),rE true)∧(z+(1:Nat))*(8:Nat)≤(140737488355328:Nat)∧z+(1 :
Nat)≤(4611686018427387904:Nat)∧(0:Nat)<(1:Nat)∧rI ((0:Int) - (spT w.toNat (Co.mk (Y.c.f (↑z:Int).toNat).g0 (Y.c.f (↑z:Int).toNat).g1 (Y.c.f (↑z:Int).toNat).t0 (Y.c.f (↑z:Int).toNat).t1 (Y.c.f (↑z:Int).toNat).s0 (Y.c.f (↑z:Int).toNat).s1 (Y.c.f (↑z:Int).toNat).k0 (Y.c.f (↑z:Int).toNat).k1)).2)∧True∧(∀ (i:Nat),i<(1:Nat)→rE true)∧rE (0:Nat)∧z=z∧(∀ (i:Nat),rE true)∧(z+(1:Nat))*(8:Nat)≤(140737488355328:Nat)∧z+(1:Nat)≤(4611686018427387904:Nat)∧rI ((↑z:Int)+(1:Int))∧∃ (z_1:Nat),ryI0 Y a b w z_1∧Y.c.1 - z_1<Y.c.1 - z∧a=a∧b=b∧w=w∧rE (0:Nat)∧rE (0:Nat)∧rE (0:Nat)∧rE (0:Nat)∧rE (stN Y)∧(ryG1 Y)∧rE (0:Nat)∧z+(1:Nat)=z_1∧rE (0:Nat)∧z+(1:Nat)=z_1∧(↑z:Int)+(1:Int)=(↑z_1:Int)∧rE Y.c.1∧(ryG0 Y)∧rE Y.m.1∧(ryG2 Y)∧rE (0:Int)∧rE
(0:Int)∧z_1=z+(1:Nat)∧(∀ (i_2:Nat),i_2<z_1→rE (1:Nat)∧(if i_2<z then eA w.toNat Y.c i_2 else (spT w.toNat (Co.mk (Y.c.f (↑z:Int).toNat).g0 (Y.c.f (↑z:Int).toNat).g1 (Y.c.f (↑z:Int).toNat).t0 (Y.c.f (↑z:Int).toNat).t1 (Y.c.f (↑z:Int).toNat).s0 (Y.c.f (↑z:Int).toNat).s1 (Y.c.f (↑z:Int).toNat).k0 (Y.c.f (↑z:Int).toNat).k1)).1)=eA w.toNat Y.c i_2∧True)∧z_1=z+(1:Nat)∧(∀ (i_2:Nat),i_2<z_1→rE (1:Nat)∧(if i_2<z then eB w.toNat Y.c i_2 else (0:Int) - (spT w.toNat (Co.mk (Y.c.f (↑z:Int).toNat).g0 (Y.c.f (↑z:Int).toNat).g1 (Y.c.f (↑z:Int).toNat).t0 (Y.c.f (↑z:Int).toNat).t1 (Y.c.f (↑z:Int).toNat).s0 (Y.c.f (↑z:Int).toNat).s1 (Y.c.f (↑z:Int).toNat).k0 (Y.c.f (↑z:Int).toNat).k1)).2)=eB w.toNat Y.c i_2∧True)∧True)∧(¬(↑z:Int)<(↑Y.c.1:Int)→(∃ (z_1:Nat),ryI2 Y a b w z_1∧a=a∧b=b∧rE (0:Nat)
∧ rE (0:Nat)∧rE (0:Nat)∧rE (0:Nat)∧rE (stN Y)∧(ryG1 Y)∧rE (0:Nat)∧z=Y.c.1∧rE (0:Nat)∧z=Y.c.1∧rE (0:Nat)∧rE (0:Nat)∧(0:Int)=(↑z_1:Int)∧rE Y.c.1∧(ryG0 Y)∧rE Y.m.1∧(ryG2 Y)∧rE (0:Int)∧rE (0:Int)∧Y.c.1=z∧(∀ (i:Nat),i<Y.c.1→rE (1:Nat)∧rE (eA w.toNat Y.c i)∧True)∧Y.c.1=z∧(∀ (i:Nat),i<Y.c.1→rE (1:Nat)∧rE (eB w.toNat Y.c i)∧True)∧(0:Int)=sumJ (fun q=>gG (ctE Y q) (eA w.toNat Y.c) (sA w.toNat Y.c) (rnF Y a.toNat (b.toNat+(1:Nat)) q) Y.c.n) z_1∧(0:Int)=sumJ (fun q=>-gG (ctE Y q) (eB w.toNat Y.c) (sB w.toNat Y.c) (rnF Y a.toNat (b.toNat+(1:Nat)) q) Y.c.n) z_1∧True)∧∀ (z:Nat),ryI2 Y a b w z→(0:Nat)<(1:Nat)∧tA Y∧tB Y∧tC Y∧tD Y∧Y.m.1≤(1000:Nat)∧((↑z:Int)<snF Y.m Y.m.1+(1:Int)→((ryI4 Y a b w ((↑z:Int).toNat,a.toNat)∧z=(↑z :
Int).toNat)∧a=a∧b=b∧rE (0:Nat)∧rE (0:Nat)∧rE (0:Nat)∧rE (0:Nat)∧rE (stN Y)∧(ryG1 Y)∧rE (0:Nat)∧rE Y.c.1∧rE (0:Nat)∧rE Y.c.1∧rE (0:Nat)∧rE (0:Nat)∧rE (↑z:Int)∧(0:Int)=rnF Y a.toNat a.toNat z∧a=(↑a.toNat:Int)∧rE Y.c.1∧(ryG0 Y)∧rE Y.m.1∧(ryG2 Y)∧rE (0:Int)∧rE (0:Int)∧rE Y.c.1∧(∀ (i:Nat),i<Y.c.1→rE (1:Nat)∧rE (eA w.toNat Y.c i)∧True)∧rE Y.c.1∧(∀ (i:Nat),i<Y.c.1→rE (1:Nat)∧rE (eB w.toNat Y.c i)∧True)∧rE (sumJ (fun q=>gG (ctE Y q) (eA w.toNat Y.c) (sA w.toNat Y.c) (rnF Y a.toNat (b.toNat+(1:Nat)) q) Y.c.n) z)∧rE (sumJ (fun q=>-gG (ctE Y q) (eB w.toNat Y.c) (sB w.toNat Y.c) (rnF Y a.toNat (b.toNat+(1:Nat)) q) Y.c.n) z)∧True)∧∀ (zp9_1:Nat × Nat),ryI4 Y a b w zp9_1∧zp9_1.1=(↑z:Int).toNat→((↑zp9_1.2:Int)≤b→(0:Int)≤(↑zp9_1.2:Int)∧(↑zp9_1.2 :
Int)<(↑(stN Y):Int)∧(0:Int)≤(↑zp9_1.1:Int)∧(↑zp9_1.1:Int)<(↑(lnJ Y.m):Int)∧rI (rnF Y a.toNat zp9_1.2 zp9_1.1+oJ Y (↑zp9_1.2:Int).toNat (↑zp9_1.1:Int).toNat)∧rI ((↑zp9_1.2:Int)+(1:Int))∧(ryI4 Y a b w ((↑zp9_1.fst:Int).toNat,((↑zp9_1.snd:Int)+(1:Int)).toNat)∧(↑zp9_1.1:Int).toNat=(↑z:Int).toNat)∧b.toNat+(1:Nat) - ((↑zp9_1.2:Int)+(1:Int)).toNat<b.toNat+(1:Nat) - zp9_1.2∧a=a∧b=b∧rE (0:Nat)∧rE (0:Nat)∧rE (0:Nat)∧rE (0:Nat)∧rE (stN Y)∧(ryG1 Y)∧rE (0:Nat)∧rE Y.c.1∧rE (0:Nat)∧rE Y.c.1∧rE (0:Nat)∧rE (0:Nat)∧(↑zp9_1.1:Int)=(↑(↑zp9_1.1:Int).toNat:Int)∧rnF Y a.toNat zp9_1.2 zp9_1.1+oJ Y (↑zp9_1.2:Int).toNat (↑zp9_1.1:Int).toNat=rnF Y a.toNat ((↑zp9_1.2:Int)+(1:Int)).toNat (↑zp9_1.1:Int).toNat∧(↑zp9_1.2:Int)+(1:Int)=(↑((↑zp9_1.2:Int)+(1 :
Int)).toNat:Int)∧rE Y.c.1∧(ryG0 Y)∧rE Y.m.1∧(ryG2 Y)∧rE (0:Int)∧rE (0:Int)∧rE Y.c.1∧(∀ (i:Nat),i<Y.c.1→rE (1:Nat)∧rE (eA w.toNat Y.c i)∧True)∧rE Y.c.1∧(∀ (i:Nat),i<Y.c.1→rE (1:Nat)∧rE (eB w.toNat Y.c i)∧True)∧sumJ (fun q=>gG (ctE Y q) (eA w.toNat Y.c) (sA w.toNat Y.c) (rnF Y a.toNat (b.toNat+(1:Nat)) q) Y.c.n) zp9_1.1=sumJ (fun q=>gG (ctE Y q) (eA w.toNat Y.c) (sA w.toNat Y.c) (rnF Y a.toNat (b.toNat+(1:Nat)) q) Y.c.n) (↑zp9_1.1:Int).toNat∧sumJ (fun q=>-gG (ctE Y q) (eB w.toNat Y.c) (sB w.toNat Y.c) (rnF Y a.toNat (b.toNat+(1:Nat)) q) Y.c.n) zp9_1.1=sumJ (fun q=>-gG (ctE Y q) (eB w.toNat Y.c) (sB w.toNat Y.c) (rnF Y a.toNat (b.toNat+(1:Nat)) q) Y.c.n) (↑zp9_1.1:Int).toNat∧True)∧(¬(↑zp9_1.2:Int)≤b→(0:Nat)<(1:Nat)∧(0:Nat)<(1:Nat)∧tA Y∧tB Y∧tC Y∧tD Y∧((0:Int) ≤
(↑Y.m.1:Int)∧(↑Y.m.1:Int)≤(↑Y.m.1:Int)∧okCl Y.c∧okMs (↑Y.c.n:Int) Y.m)∧(0:Nat)<(1:Nat)∧(∀ (i:Nat),i<Y.c.1→True)∧(0:Nat)+Y.c.1≤Y.c.1∧(∀ (i:Nat),i<Y.c.1→rE (1:Nat)∧True)∧(SV.lst (1:Nat) Y.c.n fun i=>i6 (ctF Y.m (↑zp9_1.fst:Int) (↑Y.m.n:Int).toNat i))=(tnOf Y.c.n fun i=>i6 (ctF Y.m (↑zp9_1.fst:Int) (↑Y.m.n:Int).toNat i)).sv∧(SV.lst (1:Nat) Y.c.n fun i=>i6 (eA w.toNat Y.c (i+(0:Nat))))=(tnOf Y.c.n fun i=>i6 (eA w.toNat Y.c (i+(0:Nat)))).sv∧rE Y.c.1∧∃ σ,leP Y.c.n (tnOf Y.c.n fun i=>i6 (ctF Y.m (↑zp9_1.fst:Int) (↑Y.m.n:Int).toNat i)).f (tnOf Y.c.n fun i=>i6 (eA w.toNat Y.c (i+(0:Nat)))).f σ (rnF Y a.toNat zp9_1.snd zp9_1.fst)∧rI (sumJ (fun q=>gG (ctE Y q) (eA w.toNat Y.c) (sA w.toNat Y.c) (rnF Y a.toNat (b.toNat+(1:Nat)) q) Y.c.n) zp9_1.1+gG (tnOf Y.c.n fun i=>i6 (ctF Y.m
(↑zp9_1.fst:Int) (↑Y.m.n:Int).toNat i)).f (tnOf Y.c.n fun i=>i6 (eA w.toNat Y.c (i+(0:Nat)))).f σ (rnF Y a.toNat zp9_1.2 zp9_1.1) Y.c.1)∧(0:Nat)<(1:Nat)∧(∀ (i:Nat),i<Y.c.1→True)∧(0:Nat)+Y.c.1≤Y.c.1∧(∀ (i:Nat),i<Y.c.1→rE (1:Nat)∧True)∧(SV.lst (1:Nat) Y.c.n fun i=>i6 (ctF Y.m (↑zp9_1.fst:Int) (↑Y.m.n:Int).toNat i))=(tnOf Y.c.n fun i=>i6 (ctF Y.m (↑zp9_1.fst:Int) (↑Y.m.n:Int).toNat i)).sv∧(SV.lst (1:Nat) Y.c.n fun i=>i6 (eB w.toNat Y.c (i+(0:Nat))))=(tnOf Y.c.n fun i=>i6 (eB w.toNat Y.c (i+(0:Nat)))).sv∧rE Y.c.1∧∃ σ_1,leP Y.c.n (tnOf Y.c.n fun i=>i6 (ctF Y.m (↑zp9_1.fst:Int) (↑Y.m.n:Int).toNat i)).f (tnOf Y.c.n fun i=>i6 (eB w.toNat Y.c (i+(0:Nat)))).f σ_1 (rnF Y a.toNat zp9_1.snd zp9_1.fst)∧rI (sumJ (fun q=>-gG (ctE Y q) (eB w.toNat Y.c) (sB w.toNat Y.c) (rnF Y a.toNat (b.toNat+(1 :
Nat)) q) Y.c.n) zp9_1.1 - gG (tnOf Y.c.n fun i=>i6 (ctF Y.m (↑zp9_1.fst:Int) (↑Y.m.n:Int).toNat i)).f (tnOf Y.c.n fun i=>i6 (eB w.toNat Y.c (i+(0:Nat)))).f σ_1 (rnF Y a.toNat zp9_1.2 zp9_1.1) Y.c.1)∧rI ((↑zp9_1.1:Int)+(1:Int))∧∃ (z_2:Nat),ryI2 Y a b w z_2∧lnJ Y.m - z_2<lnJ Y.m - z∧a=a∧b=b∧rE (0:Nat)∧rE (0:Nat)∧rE (0:Nat)∧rE (0:Nat)∧rE (stN Y)∧(ryG1 Y)∧rE (0:Nat)∧rE Y.c.1∧rE (0:Nat)∧rE Y.c.1∧rE (0:Nat)∧rE (0:Nat)∧(↑zp9_1.1:Int)+(1:Int)=(↑z_2:Int)∧rE Y.c.1∧(ryG0 Y)∧rE Y.m.1∧(ryG2 Y)∧rE (0:Int)∧rE (0:Int)∧rE Y.c.1∧(∀ (i:Nat),i<Y.c.1→rE (1:Nat)∧rE (eA w.toNat Y.c i)∧True)∧rE Y.c.1∧(∀ (i:Nat),i<Y.c.1→rE (1:Nat)∧rE (eB w.toNat Y.c i)∧True)∧sumJ (fun q=>gG (ctE Y q) (eA w.toNat Y.c) (sA w.toNat Y.c) (rnF Y a.toNat (b.toNat+(1:Nat)) q) Y.c.n) zp9_1.1
+ gG (tnOf Y.c.n fun i=>i6 (ctF Y.m (↑zp9_1.fst:Int) (↑Y.m.n:Int).toNat i)).f (tnOf Y.c.n fun i=>i6 (eA w.toNat Y.c (i+(0:Nat)))).f σ (rnF Y a.toNat zp9_1.2 zp9_1.1) Y.c.1=sumJ (fun q=>gG (ctE Y q) (eA w.toNat Y.c) (sA w.toNat Y.c) (rnF Y a.toNat (b.toNat+(1:Nat)) q) Y.c.n) z_2∧sumJ (fun q=>-gG (ctE Y q) (eB w.toNat Y.c) (sB w.toNat Y.c) (rnF Y a.toNat (b.toNat+(1:Nat)) q) Y.c.n) zp9_1.1 - gG (tnOf Y.c.n fun i=>i6 (ctF Y.m (↑zp9_1.fst:Int) (↑Y.m.n:Int).toNat i)).f (tnOf Y.c.n fun i=>i6 (eB w.toNat Y.c (i+(0:Nat)))).f σ_1 (rnF Y a.toNat zp9_1.2 zp9_1.1) Y.c.1=sumJ (fun q=>-gG (ctE Y q) (eB w.toNat Y.c) (sB w.toNat Y.c) (rnF Y a.toNat (b.toNat+(1:Nat)) q) Y.c.n) z_2∧True))∧(¬(↑z:Int)<snF Y.m Y.m.1+(1:Int)→(0:Nat)<(1:Nat)∧(0:Nat)<(1:Nat)∧sumJ (fun q=>gG (ctE Y q) (eA w.toNat Y.c) (sA w.toNat Y.c) (rnF Y a.toNat
(b.toNat+(1:Nat)) q) Y.c.n) z=(ryS Y a b w).1∧sumJ (fun q=>-gG (ctE Y q) (eB w.toNat Y.c) (sB w.toNat Y.c) (rnF Y a.toNat (b.toNat+(1:Nat)) q) Y.c.n) z=(ryS Y a b w).2∧(0:Int)=ryE Y a b w∧True)))))))):=by kernel_rfl
end Go.Proofs.Ytfiaadlgfjokjaa
