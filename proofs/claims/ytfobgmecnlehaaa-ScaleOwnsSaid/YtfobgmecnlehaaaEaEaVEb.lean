import Derived.Test.YtfobgmecnlehaaaDcDcVDdDeDg
import Derived.Test.YtfobgmecnlehaaaYb
set_option linter.unusedVariables false
set_option linter.unusedSimpArgs false
namespace Go.Proofs.Ytfobgmecnlehaaa
open Go Go.Lg
attribute [local irreducible] bodyH funS
def sumJ (g:Nat→Int):Nat→Int
 | 0=>0
 | j+1=>sumJ g j+g j
def mJ (f:Nat→Int) (m:Int):Nat→Int
 | 0=>m
 | k+1=>mJ f m k - min (f k) (mJ f m k)
def lJ (f:Nat→Int) (m:Int) (k:Nat):Int:=f k - min (f k) (mJ f m k)
structure Pay where
 rt:Int
 du:Int
 pd:Int
 ar:Int
 rs:Int
 rb:Int
def Pay.sv (p:Pay):SV:=.agg [i6 p.rt,i6 p.du,i6 p.pd,i6 p.ar,i6 p.rs,i6 p.rb]
structure Lg where
 ba:Int
 o:Nat
 n:Nat
 F:Nat→Int
def arF (s:Lg) (i:Nat):Int:=s.F (s.o+i)
def duA (a:Act) (y:Yr):Int:=y.cp*rtA a y.pr / 10000
def pdA (a:Act) (s:Lg) (y:Yr):Int:=max (min (duA a y+sumJ (arF s) s.n) (s.ba+y.pf)) 0
def odA (a:Act) (s:Lg) (y:Yr):Int:=min (duA a y) (pdA a s y)
def nF (a:Act) (s:Lg) (y:Yr) (i:Nat):Int:=if i<s.n then lJ (arF s) (pdA a s y - odA a s y) i else duA a y - odA a s y
def nN (a:Act) (s:Lg):Nat:=min (s.n+1) a.ba.toNat
def nB (a:Act) (s:Lg) (y:Yr):Int:=min (s.ba+y.pf - pdA a s y) a.mo
def nx (a:Act) (s:Lg) (y:Yr):Lg:=⟨nB a s y,s.n+1 - nN a s,nN a s,nF a s y⟩
def arS (a:Act) (s:Lg) (y:Yr):Int:=sumJ (arF (nx a s y)) (nN a s)
def py (a:Act) (s:Lg) (y:Yr):Pay:=⟨rtA a y.pr,duA a y,pdA a s y,arS a s y,nB a s y,s.ba+y.pf - pdA a s y - nB a s y⟩
def stJ (a:Act) (f:Nat→Yr):Nat→Lg
 | 0=>⟨0,0,0,fun _=>0⟩
 | j+1=>nx a (stJ a f j) (f j)
def pyJ (a:Act) (f:Nat→Yr) (j:Nat):Pay:=py a (stJ a f j) (f j)
def nnB (x:Int):Prop:=bt 0 1099511627776 x
def nnL (n:Nat) (g:Nat→Int):Prop:=∀ i,i<n→nnB (g i)
noncomputable def sumH (nt:Nat) (n:Nat) (g:Nat→Int) (s:Nat) (sl:List (Nat × SV)) (i:Nat):Nat→Option HSpec :=
 oneL 0 (natH (fun k=>k≤n) (fun k=>n - k) 0 (fun k=>mkF nt (sl ++ [(s,i6 (sumJ g k)),(i,i6 k)])) (fun _=>mkX []) fun _=>none)
noncomputable def suG (n:Nat) (g:Nat→Int):Prop:=funH Try.prog (ctrs []) noX (ictrs []) (sumH 17 n g 3 [(6,inL n g),(7,i6 n)] 8) noL 63 [inL n g] (i6 (sumJ g n))
noncomputable def suC (f:FuncId):Ctr:=⟨f,fun args k=>match args with
 | [.lst 1 n f]=>SV.lst 1 n f=inL n (iOf f)∧n≤10∧nnL n (iOf f)∧k (i6 (sumJ (iOf f) n))
 | _=>False⟩
noncomputable def duG (a:Act) (y:Yr):Prop:=funH Try.prog (ctrs [rtC 31]) noX (ictrs []) noL noL 52 [a.sv,y.sv] (two (rtA a y.pr) (duA a y))
noncomputable def duC:Ctr:=⟨52,fun args k=>match args with
 | [.agg [.int .i64 a,.int .i64 b,.int .i64 c,.int .i64 d,.int .i64 e,.int .i64 f],.agg [.int .i64 p,.int .i64 q,.int .i64 r]]=>okA ⟨a,b,c,d,e,f⟩∧okY ⟨p,q,r⟩∧k (two (rtA ⟨a,b,c,d,e,f⟩ p) (duA ⟨a,b,c,d,e,f⟩ ⟨p,q,r⟩))
 | _=>False⟩
def okYs (n:Nat) (f:Nat→Yr):Prop:=∀ i,i<n→okY (f i)
noncomputable def vyG (n:Nat) (f:Nat→Yr):Prop:=funH Try.prog (ctrs [afC]) noX (ictrs []) (cntX 31 5 (yrL n f) n (fun k=>okYs k f) [] []) noL 50 [yrL n f] (.dec (okYs n f) (Classical.propDecidable _))
noncomputable def vyC:Ctr:=⟨50,fun args k=>match args with
 | [.lst 3 n f]=>SV.lst 3 n f=yrL n (yrF f)∧n<1000∧k (.dec (okYs n (yrF f)) (Classical.propDecidable _))
 | _=>False⟩
open Classical in
noncomputable def erA (a:Act) (n:Nat) (f:Nat→Yr):Int:=if ¬ okA a then 1 else if 16<(n:Int) then 3 else if ¬ okYs n f then 2 else 0
noncomputable def faG (a:Act) (n:Nat) (f:Nat→Yr):Prop:=funH Try.prog (ctrs [vaC 29,vyC]) noX (ictrs []) noL noL 36 [a.sv,yrL n f] (i6 (erA a n f))
noncomputable def erC (g:FuncId):Ctr:=⟨g,fun args k=>match args with
 | [.agg [.int .i64 a,.int .i64 b,.int .i64 c,.int .i64 d,.int .i64 e,.int .i64 f],.lst 3 n h]=>SV.lst 3 n h=yrL n (yrF h)∧n<1000∧k (i6 (erA ⟨a,b,c,d,e,f⟩ n (yrF h)))
 | _=>False⟩
end Go.Proofs.Ytfobgmecnlehaaa

set_option maxRecDepth 100000
namespace Go.Proofs.Ytfobgmecnlehaaa
open Go Go.Lg
theorem suG_vc (n:Nat) (g:Nat→Int):suG n g =
((∃ (z:Nat),
  z≤n ∧
   (0:Int)=sumJ g z ∧
    n=n ∧
     (∀ (i:Nat),i<n→(i6 (g i)).den=(i6 (g i)).den∧True) ∧
      (↑n:Int)=(↑n:Int)∧(0:Int)=(↑z:Int)∧True) ∧
 ∀ (z:Nat),
  z≤n →
   ((↑z:Int)<(↑n:Int) →
     (0:Int)≤(↑z:Int) ∧
      (↑z:Int)<(↑n:Int) ∧
       ((-9223372036854775808:Int)≤sumJ g z+g (↑z:Int).toNat ∧
         sumJ g z+g (↑z:Int).toNat≤(9223372036854775807:Int)) ∧
        ((-9223372036854775808:Int)≤(↑z:Int)+(1:Int) ∧
          (↑z:Int)+(1:Int)≤(9223372036854775807:Int)) ∧
         ∃ (z_1:Nat),
          z_1≤n ∧
           n - z_1<n - z ∧
            sumJ g z+g (↑z:Int).toNat=sumJ g z_1 ∧
             n=n ∧
              (∀ (i:Nat),i<n→(i6 (g i)).den=(i6 (g i)).den∧True) ∧
               (↑n:Int)=(↑n:Int)∧(↑z:Int)+(1:Int)=(↑z_1:Int)∧True) ∧
    (¬(↑z:Int)<(↑n:Int)→sumJ g z=sumJ g n∧True)):=by kernel_rfl
theorem duG_vc (a:Ytfobgmecnlehaaa.Act) (y:Yr):duG a y =
((0:Nat)<(1:Nat) ∧
 (0:Nat)<(1:Nat) ∧
  okA (Ytfobgmecnlehaaa.Act.mk a.pr a.dv a.st a.gn a.mo a.ba) ∧
   bt (0:Int) (100000:Int) y.pr ∧
    (0:Nat)<(1:Nat) ∧
     ((-9223372036854775808:Int)≤y.2*rtA (Ytfobgmecnlehaaa.Act.mk a.pr a.dv a.st a.gn a.mo a.ba) y.1 ∧
       y.2*rtA (Ytfobgmecnlehaaa.Act.mk a.pr a.dv a.st a.gn a.mo a.ba) y.1≤(9223372036854775807:Int)) ∧
      ((10000:Int)=(0:Int)→False) ∧
       ((-9223372036854775808:Int) ≤
          (y.2*rtA (Ytfobgmecnlehaaa.Act.mk a.pr a.dv a.st a.gn a.mo a.ba) y.1).tdiv (10000:Int) ∧
         (y.2*rtA (Ytfobgmecnlehaaa.Act.mk a.pr a.dv a.st a.gn a.mo a.ba) y.1).tdiv (10000:Int) ≤
          (9223372036854775807:Int)) ∧
        rtA (Ytfobgmecnlehaaa.Act.mk a.pr a.dv a.st a.gn a.mo a.ba) y.1=rtA a y.1 ∧
         (y.2*rtA (Ytfobgmecnlehaaa.Act.mk a.pr a.dv a.st a.gn a.mo a.ba) y.1).tdiv (10000:Int)=duA a y ∧
          True):=by kernel_rfl
theorem vyG_vc (n:Nat) (f:Nat→Yr):vyG n f =
((∃ (z:Nat),(z≤n∧okYs z f)∧n=n∧(∀ (i:Nat),i<n→rE ((f i).sv.den)∧True∧True∧True∧True)∧rE (↑n:Int)∧(0:Int)=(↑z:Int)∧True)∧∀ (z:Nat),z≤n∧okYs z f→((↑z:Int)<(↑n:Int)→(0:Int)≤(↑z:Int)∧(↑z:Int)<(↑n:Int)∧(0:Nat)<(1:Nat)∧True∧(∀ (i:Nat),i<(1:Nat)→True)∧SV.lst (1:Nat) (1:Nat) (chainF [SV.int IntKind.i64 (f (↑z:Int).toNat).pr])=inL (1:Nat) (iOf (chainF [SV.int IntKind.i64 (f (↑z:Int).toNat).pr]))∧(1:Nat)<(1000:Nat)∧(¬frL (0:Int) (100000:Int) (1:Nat) (iOf (chainF [SV.int IntKind.i64 (f (↑z:Int).toNat).pr]))→(false=true↔okYs n f)∧True)∧(¬¬frL (0:Int) (100000:Int) (1:Nat) (iOf (chainF [SV.int IntKind.i64 (f (↑z:Int).toNat).pr]))→(0:Nat)<(1:Nat)∧True∧(∀ (i:Nat),i<(1:Nat)→True)∧SV.lst (1:Nat) (1:Nat) (chainF [SV.int IntKind.i64 (f
(↑z:Int).toNat).cp])=inL (1:Nat) (iOf (chainF [SV.int IntKind.i64 (f (↑z:Int).toNat).cp]))∧(1:Nat)<(1000:Nat)∧(¬frL (0:Int) (1099511627776:Int) (1:Nat) (iOf (chainF [SV.int IntKind.i64 (f (↑z:Int).toNat).cp]))→(false=true↔okYs n f)∧True)∧(¬¬frL (0:Int) (1099511627776:Int) (1:Nat) (iOf (chainF [SV.int IntKind.i64 (f (↑z:Int).toNat).cp]))→(0:Nat)<(1:Nat)∧True∧(∀ (i:Nat),i<(1:Nat)→True)∧SV.lst (1:Nat) (1:Nat) (chainF [SV.int IntKind.i64 (f (↑z:Int).toNat).pf])=inL (1:Nat) (iOf (chainF [SV.int IntKind.i64 (f (↑z:Int).toNat).pf]))∧(1:Nat)<(1000:Nat)∧(¬frL (-1099511627776:Int) (1099511627776:Int) (1:Nat) (iOf (chainF [SV.int IntKind.i64 (f (↑z:Int).toNat).pf]))→(false=true↔okYs n f)∧True)∧(¬¬frL (-1099511627776:Int) (1099511627776:Int) (1:Nat) (iOf (chainF [SV.int IntKind.i64 (f
(↑z:Int).toNat).pf]))→rI ((↑z:Int)+(1:Int))∧∃ (z_1:Nat),(z_1≤n∧okYs z_1 f)∧n - z_1<n - z∧n=n∧(∀ (i:Nat),i<n→rE ((f i).sv.den)∧True∧True∧True∧True)∧rE (↑n:Int)∧(↑z:Int)+(1:Int)=(↑z_1:Int)∧True))))∧(¬(↑z:Int)<(↑n:Int)→(rE true↔okYs n f)∧True)):=by kernel_rfl
theorem faG_vc (a:Ytfobgmecnlehaaa.Act) (n:Nat) (f:Nat→Yr):faG a n f =
((0:Nat)<(1:Nat) ∧
 (¬okA (Ytfobgmecnlehaaa.Act.mk a.pr a.dv a.st a.gn a.mo a.ba)→(1:Int)=erA a n f∧True) ∧
  (¬¬okA (Ytfobgmecnlehaaa.Act.mk a.pr a.dv a.st a.gn a.mo a.ba) →
   ((16:Int)<(↑n:Int)→(3:Int)=erA a n f∧True) ∧
    (¬(16:Int)<(↑n:Int) →
     (∀ (i:Nat),i<n→True∧True∧True∧True) ∧
      (SV.lst (3:Nat) n fun i=>(f i).sv)=yrL n (yrF fun i=>(f i).sv) ∧
       n<(1000:Nat) ∧
        (¬okYs n (yrF fun i=>(f i).sv)→(2:Int)=erA a n f∧True) ∧
         (¬¬okYs n (yrF fun i=>(f i).sv)→(0:Int)=erA a n f∧True)))):=by kernel_rfl
end Go.Proofs.Ytfobgmecnlehaaa

set_option maxRecDepth 100000
namespace Go.Proofs.Ytfobgmecnlehaaa
open Go Go.Lg
attribute [local irreducible] funS bodyH
theorem sum_bd {g:Nat→Int}:∀ {n:Nat},nnL n g→0≤sumJ g n∧sumJ g n≤1099511627776*(n:Int)
 | 0,_=>by simp [sumJ]
 | n+1,h=>by
  have h1:=sum_bd (g:=g) (n:=n) fun i hi=>h i (by omega)
  have h2:=h n (by omega)
  unfold nnB bt at h2
  have e:sumJ g (n+1)=sumJ g n+g n:=rfl
  rw [e]; omega
theorem nnL_le {n m:Nat} {g:Nat→Int} (h:nnL n g) (hm:m≤n):nnL m g:=fun i hi=>h i (by omega)
theorem su_true {n:Nat} {g:Nat→Int} (hn:n≤10) (hg:nnL n g):suG n g:=by
 rw [suG_vc]
 simp only [rI,rE,and_true,true_and,implies_true,Int.toNat_natCast]
 refine ⟨⟨0,by omega,rfl,rfl⟩,fun z hz=>⟨fun hl=>?_,fun hl=>?_⟩⟩
 ·have h1:=sum_bd (nnL_le hg (m:=z+1) (by omega))
  have e:sumJ g (z+1)=sumJ g z+g z:=rfl
  exact ⟨by omega,hl,by omega,by omega,z+1,by omega,by omega,rfl,by omega⟩
 ·have:z=n:=by omega
  subst this; rfl
theorem suX_ok {g:FuncId} (hc:callable Try.prog g=true) (h:∀ (n:Nat) (f:Nat→Int),n≤10→nnL n f→Does Try.prog g true (SV.denL [inL n f]) (i6 (sumJ f n)).den):(suC g).Ok Try.prog:=by
 refine ⟨hc,fun x k hk=>?_⟩
 simp only [suC] at hk
 split at hk
 ·rename_i n f
  obtain ⟨hf,h1,h2,hk⟩:=hk
  have hh:=h n (iOf f) h1 h2
  rw [← hf] at hh
  exact ⟨_,hh,hk⟩
 ·exact hk.elim
theorem su_ok:(suC 63).Ok Try.prog:=suX_ok (by kernel_rfl) fun n f h1 h2=>plainD nilS_cs nilS_x nilS_ic (su_true h1 h2) trivial
theorem rt_bd (a:Act) (p:Int):bt 0 10000 (rtA a p):=by unfold rtA bt; omega
theorem du_in (a:Act) {y:Yr} (h:okY y):0≤y.cp*rtA a y.pr∧y.cp*rtA a y.pr≤1099511627776*10000:=by
 have h1:=h.cp
 have h2:=rt_bd a y.pr
 unfold bt at h1 h2
 refine ⟨Int.mul_nonneg h1.1 h2.1,?_⟩
 have a1:y.cp*rtA a y.pr≤y.cp*10000:=Int.mul_le_mul_of_nonneg_left h2.2 h1.1
 omega
theorem du_bd (a:Act) {y:Yr} (h:okY y):nnB (duA a y):=by
 have:=du_in a h
 unfold nnB bt duA
 omega
theorem du_true {a:Act} {y:Yr} (h:okA a) (hy:okY y):duG a y:=by
 rw [duG_vc]
 have h1:=du_in a hy
 have h2:=du_bd a hy
 simp only [rI,rE,and_true,true_and,Nat.zero_lt_one,a_fold]
 rw [Int.tdiv_eq_ediv_of_nonneg h1.1]
 unfold nnB bt duA at h2
 exact ⟨h,hy.pr,by omega,by omega,by omega,rfl⟩
theorem du_ok:duC.Ok Try.prog:=by
 refine ⟨by kernel_rfl,fun x k hk=>?_⟩
 simp only [duC] at hk
 split at hk
 ·rename_i a b c d e f p q r
  obtain ⟨h1,h2,hk⟩:=hk
  exact ⟨_,plainD (one_cs rt_ok) nilS_x nilS_ic (du_true h1 h2) (two_plain _ _),hk⟩
 ·exact hk.elim
theorem yr_fold (y:Yr):Yr.mk y.pr y.cp y.pf=y:=rfl
theorem yrF_fold (f:Nat→Yr):(yrF fun i=>(f i).sv)=f:=rfl
theorem vy_true (n:Nat) (f:Nat→Yr) (hn:n<1000):vyG n f:=by
 rw [vyG_vc]
 simp only [rI,rE,and_true,true_and,Nat.zero_lt_one,and_self,implies_true,Int.toNat_natCast,fr1,ch1',Classical.not_not,Bool.false_eq_true,true_iff]
 refine ⟨⟨0,⟨by omega,fun i hi=>by omega⟩,rfl⟩,fun z ⟨hz,hi⟩=>⟨fun hl=>⟨by omega,hl,by decide,fun h=>fF fun k=>h (k z (by omega)).pr,fun h1=>⟨by decide,fun h=>fF fun k=>h (k z (by omega)).cp,fun h2=>⟨by decide,fun h=>fF fun k=>h (k z (by omega)).pf,fun h3=>⟨by omega,z+1,⟨by omega,fun i hi'=>?_⟩,by omega,by omega⟩⟩⟩⟩,fun hl=>?_⟩⟩
 ·by_cases e:i<z
  ·exact hi i e
  ·have:i=z:=by omega
   subst this; exact ⟨h1,h2,h3⟩
 ·have:z=n:=by omega
  subst this; exact hi
theorem vy_ok:vyC.Ok Try.prog:=by
 refine ⟨by kernel_rfl,fun x k hk=>?_⟩
 simp only [vyC] at hk
 split at hk
 ·rename_i n f
  obtain ⟨hf,hn,hk⟩:=hk
  have hh:=vy_true n (yrF f) hn
  unfold vyG at hh
  rw [← hf] at hh
  exact ⟨_,plainD (one_cs af_ok) nilS_x nilS_ic hh trivial,hk⟩
 ·exact hk.elim
theorem erA1 {a:Act} {n:Nat} {f:Nat→Yr} (h:¬ okA a):erA a n f=1:=by unfold erA; rw [if_pos h]
theorem erA3 {a:Act} {n:Nat} {f:Nat→Yr} (h:okA a) (h2:16<(n:Int)):erA a n f=3:=by unfold erA; rw [if_neg (by simpa using h),if_pos h2]
theorem erA2 {a:Act} {n:Nat} {f:Nat→Yr} (h:okA a) (h2:¬ 16<(n:Int)) (h3:¬ okYs n f):erA a n f=2:=by unfold erA; rw [if_neg (by simpa using h),if_neg h2,if_pos h3]
theorem erA0 {a:Act} {n:Nat} {f:Nat→Yr} (h:okA a) (h2:¬ 16<(n:Int)) (h3:okYs n f):erA a n f=0:=by unfold erA; rw [if_neg (by simpa using h),if_neg h2,if_neg (by simpa using h3)]
theorem erA_0 {a:Act} {n:Nat} {f:Nat→Yr} (h:erA a n f=0):okA a∧n≤16∧okYs n f:=by
 by_cases h1:okA a
 ·by_cases h2:16<(n:Int)
  ·rw [erA3 h1 h2] at h; omega
  ·by_cases h3:okYs n f
   ·exact ⟨h1,by omega,h3⟩
   ·rw [erA2 h1 h2 h3] at h; omega
 ·rw [erA1 h1] at h; omega
theorem fa_true (a:Act) (n:Nat) (f:Nat→Yr) (hn:n<1000):faG a n f:=by
 rw [faG_vc]
 simp only [rI,rE,and_true,true_and,Nat.zero_lt_one,and_self,implies_true,a_fold,yrF_fold,Classical.not_not]
 exact ⟨fun h=>(erA1 h).symm,fun h=>⟨fun h2=>(erA3 h h2).symm,fun h2=>⟨rfl,hn,fun h3=>(erA2 h h2 h3).symm,fun h3=>(erA0 h h2 h3).symm⟩⟩⟩
theorem erX_ok {g:FuncId} (hc:callable Try.prog g=true) (h:∀ (a:Act) (n:Nat) (f:Nat→Yr),n<1000→Does Try.prog g true (SV.denL [a.sv,yrL n f]) (i6 (erA a n f)).den):(erC g).Ok Try.prog:=by
 refine ⟨hc,fun x k hk=>?_⟩
 simp only [erC] at hk
 split at hk
 ·rename_i a b c d e f n h0
  obtain ⟨hf,hn,hk⟩:=hk
  have hh:=h ⟨a,b,c,d,e,f⟩ n (yrF h0) hn
  rw [← hf] at hh
  exact ⟨_,hh,hk⟩
 ·exact hk.elim
theorem fa_ok:(erC 36).Ok Try.prog:=erX_ok (by kernel_rfl) fun a n f hn=>plainD (two_cs va_ok vy_ok) nilS_x nilS_ic (fa_true a n f hn) trivial
structure okL (a:Act) (j:Nat) (s:Lg):Prop where
 n:(s.n:Int)≤a.ba
 q:nnL s.n (arF s)
 lo:-(1099511627776*(j:Int))≤s.ba
 hi:s.ba≤1099511627776
theorem mJ_bd {f:Nat→Int} {m:Int} (hm:0≤m):∀ {k:Nat},nnL k f→0≤mJ f m k∧mJ f m k≤m
 | 0,_=>by simp [mJ]; exact hm
 | k+1,h=>by
  have h1:=mJ_bd (f:=f) hm (k:=k) fun i hi=>h i (by omega)
  have h2:=h k (by omega)
  unfold nnB bt at h2
  have e:mJ f m (k+1)=mJ f m k - min (f k) (mJ f m k):=rfl
  rw [e]; omega
theorem lJ_bd {f:Nat→Int} {m:Int} (hm:0≤m) {k:Nat} (h:nnL (k+1) f):0≤lJ f m k∧lJ f m k≤f k:=by
 have h1:=mJ_bd (f:=f) hm (k:=k) fun i hi=>h i (by omega)
 have h2:=h k (by omega)
 unfold nnB bt at h2
 unfold lJ; omega
theorem pd_bd {a:Act} {j:Nat} {s:Lg} {y:Yr} (hs:okL a j s) (hy:okY y):0≤pdA a s y∧0≤odA a s y∧odA a s y≤pdA a s y∧odA a s y≤duA a y:=by
 have h1:=du_bd a hy
 unfold nnB bt at h1
 unfold odA
 have:0≤pdA a s y:=by unfold pdA; omega
 omega
theorem nF_bd {a:Act} {j:Nat} {s:Lg} {y:Yr} (hs:okL a j s) (hy:okY y):nnL (s.n+1) (nF a s y):=by
 intro i hi
 have h1:=du_bd a hy
 obtain ⟨h2,h3,h4,h5⟩:=pd_bd hs hy
 unfold nnB bt at h1 ⊢
 unfold nF
 by_cases e:i<s.n
 ·rw [if_pos e]
  have h6:=lJ_bd (f:=arF s) (m:=pdA a s y - odA a s y) (by omega) (k:=i) fun q hq=>hs.q q (by omega)
  have h7:=hs.q i e
  unfold nnB bt at h7
  omega
 ·rw [if_neg e]; omega
theorem arF_nx (a:Act) (s:Lg) (y:Yr) (i:Nat):arF (nx a s y) i=nF a s y (s.n+1 - nN a s+i):=rfl
theorem ok_nx {a:Act} {j:Nat} {s:Lg} {y:Yr} (ha:okA a) (hs:okL a j s) (hy:okY y):okL a (j+1) (nx a s y):=by
 have h1:=ha.ba
 have h2:=ha.mo
 have h3:=hy.pf
 have h4:=hs.lo
 have h5:=hs.hi
 unfold bt at h1 h2 h3
 refine ⟨?_,fun i hi=>?_,?_,?_⟩
 ·show ((nN a s:Nat):Int)≤a.ba
  unfold nN; omega
 ·have hi:i<nN a s:=hi
  rw [arF_nx]
  refine nF_bd hs hy _ ?_
  unfold nN at hi ⊢; omega
 ·show _≤nB a s y
  unfold nB pdA; omega
 ·show nB a s y≤_
  unfold nB; omega
theorem st_ok {a:Act} (ha:okA a) {n:Nat} {f:Nat→Yr} (hf:okYs n f):∀ {j:Nat},j≤n→okL a j (stJ a f j)
 | 0,_=>⟨by have:=ha.ba.1; show (0:Int)≤_; exact this,fun i hi=>by have hi:i<0:=hi; omega,by show _≤(0:Int); omega,by show (0:Int)≤_; omega⟩
 | j+1,h=>ok_nx ha (st_ok ha hf (by omega)) (hf j (by omega))
end Go.Proofs.Ytfobgmecnlehaaa
