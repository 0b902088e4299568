import Derived.Test.YtblomfkinjmjdaaHfHfVHg
import Derived.Test.YtblomfkinjmjdaaGgGgVGhGi
import Derived.Test.YtblomfkinjmjdaaGjGkGl1
import Derived.Test.YtblomfkinjmjdaaGpHaHbHbVHc
set_option linter.unusedVariables false
set_option linter.unusedSimpArgs false
namespace Go.Proofs.Ytblomfkinjmjdaa
open Go Go.Lg
attribute [local irreducible] bodyH funS
noncomputable def rsuG (L:Sl):Prop:=funH Try.prog (ctrs [rinC,rspC]) noX (ictrs [])
 (oneL 0 (natH (fun k=>k≤L.n∧∀ i,i<k→okSu (L.f i)) (fun k=>L.n - k) 0 (fun k=>mkF 37 [(0,L.sv),(3,i6 k)]) (fun _=>mkX []) fun _=>none)) noL 10 [L.sv] (.dec (okSl L) (Classical.propDecidable _))
noncomputable def rsuC:Ctr:=⟨10,fun args k=>match args with
 | [.lst 5 n f]=>SV.lst 5 n f=(slOf n f).sv∧n≤1000∧k (.dec (okSl (slOf n f)) (Classical.propDecidable _))
 | _=>False⟩
def iOf:SV→Int
 | .int _ z=>z
 | .agg [.int _ z]=>z
 | _=>0
def lA (n:Nat) (y:Xs):SV:=.lst 1 n fun i=>.agg [i6 (y i)]
def lP (n:Nat) (y:Xs):SV:=.lst 1 n fun i=>i6 (y i)
structure rigP (L:Sl) (N:Nat) (y:Xs) (v a b:Int):Prop where
 n:N=L.n
 r:Rig L (dmOf v a b) y
noncomputable def rrL (L:Sl) (N:Nat) (y:Xs) (v a b:Int) (A:SV):Nat→Option HSpec :=
 oneL 0 (natH (fun z=>z≤L.n∧N=L.n∧∀ i,i<z→0≤y i∧y i≤(L.f i).mo) (fun z=>L.n - z) 0
  (fun z=>mkF 92 [(0,L.sv),(1,A),(2,i6 v),(3,i6 a),(4,i6 b),(11,i6 (voS L y z)),(12,i6 (coS L y z)),(13,i6 (hoS L y z)),(14,i6 z)]) (fun _=>mkX []) fun _=>none)
noncomputable def rraG (L:Sl) (N:Nat) (y:Xs) (v a b:Int):Prop:=funH Try.prog (ctrs [rinC]) noX (ictrs []) (rrL L N y v a b (lA N y)) noL 22 [L.sv,lA N y,i6 v,i6 a,i6 b] (.dec (rigP L N y v a b) (Classical.propDecidable _))
noncomputable def rrpG (L:Sl) (N:Nat) (y:Xs) (v a b:Int):Prop:=funH Try.prog (ctrs [rinC]) noX (ictrs []) (rrL L N y v a b (lP N y)) noL 22 [L.sv,lP N y,i6 v,i6 a,i6 b] (.dec (rigP L N y v a b) (Classical.propDecidable _))
noncomputable def rrK (n:Nat) (f:Nat→SV) (N:Nat) (y:Xs) (v a b:Int) (k:SV→Prop):Prop:=SV.lst 5 n f=(slOf n f).sv∧n≤4∧okSl (slOf n f)∧(1≤v∧v≤80)∧okSp a b∧k (.dec (rigP (slOf n f) N y v a b) (Classical.propDecidable _))
noncomputable def rrC:Ctr:=⟨22,fun args k=>match args with
 | [.lst 5 n f,.lst 1 m g,.int .i64 v,.int .i64 a,.int .i64 b]=>(match g 0 with
  | .agg _=>SV.lst 1 m g=lA m (fun i=>iOf (g i))∧rrK n f m (fun i=>iOf (g i)) v a b k
  | .int _ _=>SV.lst 1 m g=lP m (fun i=>iOf (g i))∧rrK n f m (fun i=>iOf (g i)) v a b k
  | _=>False)
 | [.lst 5 n f,.val (.slice none 0 0),.int .i64 v,.int .i64 a,.int .i64 b]=>rrK n f 0 (fun _=>0) v a b k
 | _=>False⟩
noncomputable def rcL (L:Sl) (N:Nat) (y:Xs) (A:SV):Nat→Option HSpec :=
 oneL 0 (natH (fun z=>z≤L.n) (fun z=>L.n - z) 0 (fun z=>mkF 26 [(0,L.sv),(1,A),(5,i6 (csS L y z)),(6,i6 z)]) (fun _=>mkX []) fun _=>none)
noncomputable def rcaG (L:Sl) (N:Nat) (y:Xs):Prop:=funH Try.prog (ctrs []) noX (ictrs []) (rcL L N y (lA N y)) noL 23 [L.sv,lA N y] (i6 (csS L y L.n))
noncomputable def rcpG (L:Sl) (N:Nat) (y:Xs):Prop:=funH Try.prog (ctrs []) noX (ictrs []) (rcL L N y (lP N y)) noL 23 [L.sv,lP N y] (i6 (csS L y L.n))
noncomputable def rcK (n:Nat) (f:Nat→SV) (N:Nat) (y:Xs) (k:SV→Prop):Prop:=SV.lst 5 n f=(slOf n f).sv∧n≤4∧okSl (slOf n f)∧n≤N∧(∀ i,i<n→0≤y i∧y i≤((slOf n f).f i).mo)∧k (i6 (csS (slOf n f) y n))
noncomputable def rcC:Ctr:=⟨23,fun args k=>match args with
 | [.lst 5 n f,.lst 1 m g]=>(match g 0 with
  | .agg _=>SV.lst 1 m g=lA m (fun i=>iOf (g i))∧rcK n f m (fun i=>iOf (g i)) k
  | .int _ _=>SV.lst 1 m g=lP m (fun i=>iOf (g i))∧rcK n f m (fun i=>iOf (g i)) k
  | _=>False)
 | _=>False⟩
noncomputable def otX (L:Sl) (y:Bs):Xs:=fun i=>(y.f (i % y.n)).tmod ((L.f i).mo+1)
structure rgt (L:Sl) (v a b:Int) (y:Bs):Prop where
 hv:1≤v∧v≤80
 hs:okSp a b
 hr:rigP L L.n (otX L y) v a b
noncomputable def mX (L:Sl) (v a b:Int):Xs:=xOf (chS L (dmOf v a b)).b
end Go.Proofs.Ytblomfkinjmjdaa

set_option maxRecDepth 100000
namespace Go.Proofs.Ytblomfkinjmjdaa
open Go Go.Lg
theorem rsuG_vc (L:Sl):rsuG L =
((∃ (z:Nat),(z≤L.1∧∀ (i:Nat),i<z→okSu (L.f i))∧L.1=L.1∧(∀ (i:Nat),i<L.1→rE ((L.f i).sv.den)∧True∧True∧True∧True∧True∧True)∧(0:Int)=(↑z:Int)∧True)∧∀ (z:Nat),(z≤L.1∧∀ (i:Nat),i<z→okSu (L.f i))→((↑z:Int)<(↑L.1:Int)→(0:Int)≤(↑z:Int)∧(↑z:Int)<(↑L.1:Int)∧(0:Nat)<(1:Nat)∧(¬okSp (L.f (↑z:Int).toNat).lo (L.f (↑z:Int).toNat).hi→(false=true↔okSl L)∧True)∧(¬¬okSp (L.f (↑z:Int).toNat).lo (L.f (↑z:Int).toNat).hi→(0:Nat)<(1:Nat)∧(¬((0:Int)≤(L.f (↑z:Int).toNat).3∧(L.f (↑z:Int).toNat).3≤(1:Int))→(false=true↔okSl L)∧True)∧(¬¬((0:Int)≤(L.f (↑z:Int).toNat).3∧(L.f (↑z:Int).toNat).3≤(1:Int))→(0:Nat)<(1:Nat)∧(¬((0:Int)≤(L.f (↑z:Int).toNat).4∧(L.f (↑z:Int).toNat).4≤(20:Int))→(false=true↔okSl L)∧True)∧(¬¬((0:Int) ≤
(L.f (↑z:Int).toNat).4∧(L.f (↑z:Int).toNat).4≤(20:Int))→(0:Nat)<(1:Nat)∧(¬((0:Int)≤(L.f (↑z:Int).toNat).5∧(L.f (↑z:Int).toNat).5≤(1000000:Int))→(false=true↔okSl L)∧True)∧(¬¬((0:Int)≤(L.f (↑z:Int).toNat).5∧(L.f (↑z:Int).toNat).5≤(1000000:Int))→rI ((↑z:Int)+(1:Int))∧∃ (z_1:Nat),(z_1≤L.1∧∀ (i:Nat),i<z_1→okSu (L.f i))∧L.1 - z_1<L.1 - z∧L.1=L.1∧(∀ (i:Nat),i<L.1→rE ((L.f i).sv.den)∧True∧True∧True∧True∧True∧True)∧(↑z:Int)+(1:Int)=(↑z_1:Int)∧True)))))∧(¬(↑z:Int)<(↑L.1:Int)→(rE true↔okSl L)∧True)):=by kernel_rfl
theorem rraG_vc (L:Sl) (N:Nat) (y:Xs) (v:Int) (a:Int) (b:Int):rraG L N y v a b =
((¬(↑N:Int)=(↑L.1:Int)→(false=true↔rigP L N y v a b)∧True)∧(¬¬(↑N:Int)=(↑L.1:Int)→(∃ (z:Nat),(z≤L.1∧N=L.1∧∀ (i:Nat),i<z→(0:Int)≤y i∧y i≤(L.f i).4)∧L.1=L.1∧(∀ (i:Nat),i<L.1→rE ((L.f i).sv.den)∧True∧True∧True∧True∧True∧True)∧N=N∧(∀ (i:Nat),i<N→rE ((SV.agg [i6 (y i)]).den)∧True∧True)∧v=v∧a=a∧b=b∧(0:Int)=voS L y z∧(0:Int)=coS L y z∧(0:Int)=hoS L y z∧(0:Int)=(↑z:Int)∧True)∧∀ (z:Nat),(z≤L.1∧N=L.1∧∀ (i:Nat),i<z→(0:Int)≤y i∧y i≤(L.f i).4)→((↑z:Int)<(↑L.1:Int)→(0:Int)≤(↑z:Int)∧(↑z:Int)<(↑N:Int)∧(0:Int)≤(↑z:Int)∧(↑z:Int)<(↑L.1:Int)∧(¬((0:Int)≤y (↑z:Int).toNat∧y (↑z:Int).toNat≤(L.f (↑z:Int).toNat).4)→(false=true↔rigP L N y v a b)∧True)∧(¬¬((0:Int)≤y (↑z:Int).toNat∧y
(↑z:Int).toNat≤(L.f (↑z:Int).toNat).4)→(0:Int)≤(↑z:Int)∧(↑z:Int)<(↑N:Int)∧(0:Int)≤(↑z:Int)∧(↑z:Int)<(↑L.1:Int)∧rI (y (↑z:Int).toNat*(L.f (↑z:Int).toNat).3)∧rI (voS L y z+y (↑z:Int).toNat*(L.f (↑z:Int).toNat).3)∧(0:Int)≤(↑z:Int)∧(↑z:Int)<(↑N:Int)∧(0:Int)≤(↑z:Int)∧(↑z:Int)<(↑L.1:Int)∧rI (y (↑z:Int).toNat*(L.f (↑z:Int).toNat).1)∧rI (coS L y z+y (↑z:Int).toNat*(L.f (↑z:Int).toNat).1)∧(0:Int)≤(↑z:Int)∧(↑z:Int)<(↑N:Int)∧(0:Int)≤(↑z:Int)∧(↑z:Int)<(↑L.1:Int)∧rI (y (↑z:Int).toNat*(L.f (↑z:Int).toNat).2)∧rI (hoS L y z+y (↑z:Int).toNat*(L.f (↑z:Int).toNat).2)∧rI ((↑z:Int)+(1:Int))∧∃ (z_1:Nat),(z_1≤L.1∧N=L.1∧∀ (i:Nat),i<z_1→(0:Int)≤y i∧y i≤(L.f i).4)∧L.1 - z_1<L.1 - z∧L.1=L.1∧(∀ (i:Nat),i<L.1 →
rE ((L.f i).sv.den)∧True∧True∧True∧True∧True∧True)∧N=N∧(∀ (i:Nat),i<N→rE ((SV.agg [i6 (y i)]).den)∧True∧True)∧v=v∧a=a∧b=b∧voS L y z+y (↑z:Int).toNat*(L.f (↑z:Int).toNat).3=voS L y z_1∧coS L y z+y (↑z:Int).toNat*(L.f (↑z:Int).toNat).1=coS L y z_1∧hoS L y z+y (↑z:Int).toNat*(L.f (↑z:Int).toNat).2=hoS L y z_1∧(↑z:Int)+(1:Int)=(↑z_1:Int)∧True))∧(¬(↑z:Int)<(↑L.1:Int)→(voS L y z=v→rI (a*v)∧(a*v≤coS L y z→rI (b*v)∧(hoS L y z≤b*v↔rigP L N y v a b)∧True)∧(¬a*v≤coS L y z→(false=true↔rigP L N y v a b)∧True))∧(¬voS L y z=v→(false=true↔rigP L N y v a b)∧True)))):=by kernel_rfl
theorem rrpG_vc (L:Sl) (N:Nat) (y:Xs) (v:Int) (a:Int) (b:Int):rrpG L N y v a b =
((¬(↑N:Int)=(↑L.1:Int)→(false=true↔rigP L N y v a b)∧True)∧(¬¬(↑N:Int)=(↑L.1:Int)→(∃ (z:Nat),(z≤L.1∧N=L.1∧∀ (i:Nat),i<z→(0:Int)≤y i∧y i≤(L.f i).4)∧L.1=L.1∧(∀ (i:Nat),i<L.1→rE ((L.f i).sv.den)∧True∧True∧True∧True∧True∧True)∧N=N∧(∀ (i:Nat),i<N→rE ((i6 (y i)).den)∧True)∧v=v∧a=a∧b=b∧(0:Int)=voS L y z∧(0:Int)=coS L y z∧(0:Int)=hoS L y z∧(0:Int)=(↑z:Int)∧True)∧∀ (z:Nat),(z≤L.1∧N=L.1∧∀ (i:Nat),i<z→(0:Int)≤y i∧y i≤(L.f i).4)→((↑z:Int)<(↑L.1:Int)→(0:Int)≤(↑z:Int)∧(↑z:Int)<(↑N:Int)∧(0:Int)≤(↑z:Int)∧(↑z:Int)<(↑L.1:Int)∧(¬((0:Int)≤y (↑z:Int).toNat∧y (↑z:Int).toNat≤(L.f (↑z:Int).toNat).4)→(false=true↔rigP L N y v a b)∧True)∧(¬¬((0:Int)≤y (↑z:Int).toNat∧y (↑z:Int).toNat ≤
(L.f (↑z:Int).toNat).4)→(0:Int)≤(↑z:Int)∧(↑z:Int)<(↑N:Int)∧(0:Int)≤(↑z:Int)∧(↑z:Int)<(↑L.1:Int)∧rI (y (↑z:Int).toNat*(L.f (↑z:Int).toNat).3)∧rI (voS L y z+y (↑z:Int).toNat*(L.f (↑z:Int).toNat).3)∧(0:Int)≤(↑z:Int)∧(↑z:Int)<(↑N:Int)∧(0:Int)≤(↑z:Int)∧(↑z:Int)<(↑L.1:Int)∧rI (y (↑z:Int).toNat*(L.f (↑z:Int).toNat).1)∧rI (coS L y z+y (↑z:Int).toNat*(L.f (↑z:Int).toNat).1)∧(0:Int)≤(↑z:Int)∧(↑z:Int)<(↑N:Int)∧(0:Int)≤(↑z:Int)∧(↑z:Int)<(↑L.1:Int)∧rI (y (↑z:Int).toNat*(L.f (↑z:Int).toNat).2)∧rI (hoS L y z+y (↑z:Int).toNat*(L.f (↑z:Int).toNat).2)∧rI ((↑z:Int)+(1:Int))∧∃ (z_1:Nat),(z_1≤L.1∧N=L.1∧∀ (i:Nat),i<z_1→(0:Int)≤y i∧y i≤(L.f i).4)∧L.1 - z_1<L.1 - z∧L.1=L.1∧(∀ (i:Nat),i<L.1→rE ((L.f i).sv.den)
∧ True∧True∧True∧True∧True∧True)∧N=N∧(∀ (i:Nat),i<N→rE ((i6 (y i)).den)∧True)∧v=v∧a=a∧b=b∧voS L y z+y (↑z:Int).toNat*(L.f (↑z:Int).toNat).3=voS L y z_1∧coS L y z+y (↑z:Int).toNat*(L.f (↑z:Int).toNat).1=coS L y z_1∧hoS L y z+y (↑z:Int).toNat*(L.f (↑z:Int).toNat).2=hoS L y z_1∧(↑z:Int)+(1:Int)=(↑z_1:Int)∧True))∧(¬(↑z:Int)<(↑L.1:Int)→(voS L y z=v→rI (a*v)∧(a*v≤coS L y z→rI (b*v)∧(hoS L y z≤b*v↔rigP L N y v a b)∧True)∧(¬a*v≤coS L y z→(false=true↔rigP L N y v a b)∧True))∧(¬voS L y z=v→(false=true↔rigP L N y v a b)∧True)))):=by kernel_rfl
theorem rcaG_vc (L:Sl) (N:Nat) (y:Xs):rcaG L N y =
((∃ (z:Nat),z≤L.1∧L.1=L.1∧(∀ (i:Nat),i<L.1→rE ((L.f i).sv.den)∧True∧True∧True∧True∧True∧True)∧N=N∧(∀ (i:Nat),i<N→rE ((SV.agg [i6 (y i)]).den)∧True∧True)∧(0:Int)=csS L y z∧(0:Int)=(↑z:Int)∧True)∧∀ (z:Nat),z≤L.1→((↑z:Int)<(↑L.1:Int)→(0:Int)≤(↑z:Int)∧(↑z:Int)<(↑N:Int)∧(0:Int)≤(↑z:Int)∧(↑z:Int)<(↑L.1:Int)∧rI (y (↑z:Int).toNat*(L.f (↑z:Int).toNat).5)∧rI (csS L y z+y (↑z:Int).toNat*(L.f (↑z:Int).toNat).5)∧rI ((↑z:Int)+(1:Int))∧∃ (z_1:Nat),z_1≤L.1∧L.1 - z_1<L.1 - z∧L.1=L.1∧(∀ (i:Nat),i<L.1→rE ((L.f i).sv.den)∧True∧True∧True∧True∧True∧True)∧N=N∧(∀ (i:Nat),i<N→rE ((SV.agg [i6 (y i)]).den)∧True∧True)∧csS L y z+y (↑z:Int).toNat*(L.f (↑z:Int).toNat).5=csS L y z_1∧(↑z:Int)+(1:Int)=(↑z_1:Int)
∧ True)∧(¬(↑z:Int)<(↑L.1:Int)→csS L y z=csS L y L.1∧True)):=by kernel_rfl
theorem rcpG_vc (L:Sl) (N:Nat) (y:Xs):rcpG L N y =
((∃ (z:Nat),z≤L.1∧L.1=L.1∧(∀ (i:Nat),i<L.1→rE ((L.f i).sv.den)∧True∧True∧True∧True∧True∧True)∧N=N∧(∀ (i:Nat),i<N→rE ((i6 (y i)).den)∧True)∧(0:Int)=csS L y z∧(0:Int)=(↑z:Int)∧True)∧∀ (z:Nat),z≤L.1→((↑z:Int)<(↑L.1:Int)→(0:Int)≤(↑z:Int)∧(↑z:Int)<(↑N:Int)∧(0:Int)≤(↑z:Int)∧(↑z:Int)<(↑L.1:Int)∧rI (y (↑z:Int).toNat*(L.f (↑z:Int).toNat).5)∧rI (csS L y z+y (↑z:Int).toNat*(L.f (↑z:Int).toNat).5)∧rI ((↑z:Int)+(1:Int))∧∃ (z_1:Nat),z_1≤L.1∧L.1 - z_1<L.1 - z∧L.1=L.1∧(∀ (i:Nat),i<L.1→rE ((L.f i).sv.den)∧True∧True∧True∧True∧True∧True)∧N=N∧(∀ (i:Nat),i<N→rE ((i6 (y i)).den)∧True)∧csS L y z+y (↑z:Int).toNat*(L.f (↑z:Int).toNat).5=csS L y z_1∧(↑z:Int)+(1:Int)=(↑z_1:Int)∧True)∧(¬(↑z:Int)<(↑L.1
: Int)→csS L y z=csS L y L.1∧True)):=by kernel_rfl
end Go.Proofs.Ytblomfkinjmjdaa

set_option maxRecDepth 100000
namespace Go.Proofs.Ytblomfkinjmjdaa
open Go Go.Lg
attribute [local irreducible] bodyH funS
theorem rsu_true {L:Sl} (hn:L.n≤1000):rsuG L:=by
 rw [rsuG_vc]
 simp only [rI,rE,tt3,tt4,tt5,tt13,tt14,and_true,true_and,Nat.zero_lt_one,implies_true,Int.toNat_natCast,Bool.false_eq_true,false_iff,true_iff,Classical.not_not]
 refine ⟨⟨0,⟨by omega,fun i hi=>by omega⟩,rfl⟩,fun z hz=>⟨fun hl=>⟨by omega,hl,fun h1 hh=>h1 (hh z (by omega)).sp,fun h1=>⟨fun h2 hh=>h2 ⟨(hh z (by omega)).v0,(hh z (by omega)).v1⟩,fun h2=>⟨fun h3 hh=>h3 ⟨(hh z (by omega)).m0,(hh z (by omega)).m1⟩,fun h3=>⟨fun h4 hh=>h4 ⟨(hh z (by omega)).p0,(hh z (by omega)).p1⟩,fun h4=>⟨by omega,z+1,⟨by omega,fun i hi=>?_⟩,by omega,by omega⟩⟩⟩⟩⟩,fun hl i hi=>hz.2 i (by omega)⟩⟩
 by_cases e:i<z
 ·exact hz.2 i e
 ·have:i=z:=by omega
  subst this; exact ⟨h1,h2.1,h2.2,h3.1,h3.2,h4.1,h4.2⟩
theorem rsu_ok:rsuC.Ok Try.prog:=by
 refine ⟨by kernel_rfl,fun x k hk=>?_⟩
 simp only [rsuC] at hk
 split at hk
 ·rename_i n f
  obtain ⟨hf,h1,hk⟩:=hk
  have hh:=rsu_true (L:=slOf n f) h1
  unfold rsuG at hh
  rw [← hf] at hh
  exact ⟨_,Does.plain (funH_does (ctrs_sound (by intro x hx; simp at hx; rcases hx with rfl | rfl; exact rin_ok; exact rsp_ok)) nilS_x nilS_ic mixed hh) trivial,hk⟩
 ·exact hk.elim
section
variable {L:Sl} (hL:okSl L) (hn:L.n≤4)
include hL hn
theorem xs_bd {y:Xs} {z:Nat} (hz:z<L.n) (hy:∀ i,i<z→0≤y i∧y i≤(L.f i).mo) (h1:0≤y z∧y z≤(L.f z).mo):okM (mxOf L y z)∧(0≤y z∧y z≤20)∧okSu (L.f z) :=
 ⟨okM_mx hL (by omega) hn hy,by have:=(hL z hz).m1; omega,hL z hz⟩
end
theorem rr_steps {L:Sl} (hL:okSl L) (hn:L.n≤4) {y:Xs} {z:Nat} (hz:z<L.n) (hy:∀ i,i<z→0≤y i∧y i≤(L.f i).mo) (h1:0≤y z∧y z≤(L.f z).mo) :
  ((0≤y z*(L.f z).v∧y z*(L.f z).v≤20)∧(0≤y z*(L.f z).lo∧y z*(L.f z).lo≤200000)∧(0≤y z*(L.f z).hi∧y z*(L.f z).hi≤200000)∧(0≤y z*(L.f z).pay∧y z*(L.f z).pay≤20000000)) ∧
  ((0≤voS L y z∧voS L y z≤1000000000)∧(0≤coS L y z∧coS L y z≤1000000000)∧(0≤hoS L y z∧hoS L y z≤1000000000)∧(0≤csS L y z∧csS L y z≤1000000000)):=by
 obtain ⟨o,hy1,hs⟩:=xs_bd hL hn hz hy h1
 have s1:=hs.sp.a
 have s2:=hs.sp.b
 have s3:=hs.sp.c
 have b1:=mul_bd hy1.1 hy1.2 hs.v0 hs.v1
 have b2:=mul_bd hy1.1 hy1.2 s1 (by omega:(L.f z).lo≤10000)
 have b3:=mul_bd hy1.1 hy1.2 (by omega:0≤(L.f z).hi) s3
 have b4:=mul_bd hy1.1 hy1.2 hs.p0 hs.p1
 exact ⟨⟨by omega,by omega,by omega,by omega⟩,o.v,o.c,o.h,o.p⟩
section
variable {L:Sl} {N:Nat} {y:Xs} {v a b:Int} (hL:okSl L) (hn:L.n≤4) (hv:1≤v∧v≤80) (hs:okSp a b)
include hL hn hv hs
theorem rra_true:rraG L N y v a b:=by
 have od:=okD_of ⟨hv,hs⟩
 have o1:=od.l
 have o2:=od.m
 change 0≤a*v∧a*v≤1000000 at o1
 change 0≤b*v∧b*v≤1000000 at o2
 rw [rraG_vc]
 simp only [rI,rE,tt3,tt4,tt5,tt13,tt14,and_true,true_and,Nat.zero_lt_one,implies_true,Int.toNat_natCast,Bool.false_eq_true,false_iff,true_iff,Classical.not_not]
 refine ⟨fun h hh=>h (by have:=hh.n; omega),fun h=>⟨⟨0,⟨by omega,by omega,fun i hi=>absurd hi (Nat.not_lt_zero _)⟩,rfl,rfl,rfl,rfl⟩,fun z hz=>⟨fun hl=>⟨by omega,by omega,by omega,by omega,fun h1 hh=>h1 (hh.r.b z (by omega)),fun h1=>?_⟩,fun hl=>?_⟩⟩⟩
 ·obtain ⟨⟨p1,p2,p3,p4⟩,q1,q2,q3,q4⟩:=rr_steps hL hn (by omega) hz.2.2 h1
  refine ⟨by omega,by omega,by omega,by omega,by omega,by omega,by omega,by omega,by omega,by omega,by omega,by omega,by omega,by omega,by omega,by omega,by omega,by omega,by omega,z+1,⟨by omega,hz.2.1,fun i hi=>?_⟩,by omega,rfl,rfl,rfl,by omega⟩
  by_cases e:i<z
  ·exact hz.2.2 i e
  ·have:i=z:=by omega
   subst this; exact h1
 ·have ez:z=L.n:=by omega
  subst ez
  refine ⟨fun h1=>⟨by omega,fun h2=>⟨by omega,fun h3=>⟨hz.2.1,hz.2.2,h1,h2,h3⟩,fun hh=>hh.r.h⟩,fun h2 hh=>h2 hh.r.c⟩,fun h1 hh=>h1 hh.r.v⟩
theorem rrp_true:rrpG L N y v a b:=by
 have od:=okD_of ⟨hv,hs⟩
 have o1:=od.l
 have o2:=od.m
 change 0≤a*v∧a*v≤1000000 at o1
 change 0≤b*v∧b*v≤1000000 at o2
 rw [rrpG_vc]
 simp only [rI,rE,tt3,tt4,tt5,tt13,tt14,and_true,true_and,Nat.zero_lt_one,implies_true,Int.toNat_natCast,Bool.false_eq_true,false_iff,true_iff,Classical.not_not]
 refine ⟨fun h hh=>h (by have:=hh.n; omega),fun h=>⟨⟨0,⟨by omega,by omega,fun i hi=>absurd hi (Nat.not_lt_zero _)⟩,rfl,rfl,rfl,rfl⟩,fun z hz=>⟨fun hl=>⟨by omega,by omega,by omega,by omega,fun h1 hh=>h1 (hh.r.b z (by omega)),fun h1=>?_⟩,fun hl=>?_⟩⟩⟩
 ·obtain ⟨⟨p1,p2,p3,p4⟩,q1,q2,q3,q4⟩:=rr_steps hL hn (by omega) hz.2.2 h1
  refine ⟨by omega,by omega,by omega,by omega,by omega,by omega,by omega,by omega,by omega,by omega,by omega,by omega,by omega,by omega,by omega,by omega,by omega,by omega,by omega,z+1,⟨by omega,hz.2.1,fun i hi=>?_⟩,by omega,rfl,rfl,rfl,by omega⟩
  by_cases e:i<z
  ·exact hz.2.2 i e
  ·have:i=z:=by omega
   subst this; exact h1
 ·have ez:z=L.n:=by omega
  subst ez
  refine ⟨fun h1=>⟨by omega,fun h2=>⟨by omega,fun h3=>⟨hz.2.1,hz.2.2,h1,h2,h3⟩,fun hh=>hh.r.h⟩,fun h2 hh=>h2 hh.r.c⟩,fun h1 hh=>h1 hh.r.v⟩
end
section
variable {L:Sl} {N:Nat} {y:Xs} (hL:okSl L) (hn:L.n≤4) (hN:L.n≤N) (hy:∀ i,i<L.n→0≤y i∧y i≤(L.f i).mo)
include hL hn hN hy
theorem rca_true:rcaG L N y:=by
 rw [rcaG_vc]
 simp only [rI,rE,tt3,tt4,tt5,tt13,tt14,and_true,true_and,Nat.zero_lt_one,implies_true,Int.toNat_natCast,Bool.false_eq_true,false_iff,true_iff,Classical.not_not]
 refine ⟨⟨0,by omega,rfl,rfl⟩,fun z hz=>⟨fun hl=>?_,fun hl=>by rw [show z=L.n by omega]⟩⟩
 obtain ⟨⟨p1,p2,p3,p4⟩,q1,q2,q3,q4⟩:=rr_steps hL hn (by omega:z<L.n) (fun i hi=>hy i (by omega)) (hy z (by omega))
 exact ⟨by omega,by omega,by omega,by omega,by omega,by omega,by omega,z+1,by omega,by omega,rfl,by omega⟩
theorem rcp_true:rcpG L N y:=by
 rw [rcpG_vc]
 simp only [rI,rE,tt3,tt4,tt5,tt13,tt14,and_true,true_and,Nat.zero_lt_one,implies_true,Int.toNat_natCast,Bool.false_eq_true,false_iff,true_iff,Classical.not_not]
 refine ⟨⟨0,by omega,rfl,rfl⟩,fun z hz=>⟨fun hl=>?_,fun hl=>by rw [show z=L.n by omega]⟩⟩
 obtain ⟨⟨p1,p2,p3,p4⟩,q1,q2,q3,q4⟩:=rr_steps hL hn (by omega:z<L.n) (fun i hi=>hy i (by omega)) (hy z (by omega))
 exact ⟨by omega,by omega,by omega,by omega,by omega,by omega,by omega,z+1,by omega,by omega,rfl,by omega⟩
end
end Go.Proofs.Ytblomfkinjmjdaa

set_option maxRecDepth 100000
namespace Go.Proofs.Ytblomfkinjmjdaa
open Go Go.Lg
attribute [local irreducible] bodyH funS
theorem nil_relS {S:Nat} {c:Nat→Nat→Option Value} {I:Nat→Prop} {N:Nat} {β:Nat→Option Lg.Loc} {v:Value} (h:Rel c I N β (.sc (.slice none 0 0)) v):Rel c I N β (.isl S []) v:=by
 cases h with
 | sc _=>exact .islz S none
theorem nil_doesS {S:Nat} {g:FuncId} {fr:Bool} {pre post:List AV} {res:AV} (h:Does Try.prog g fr (pre ++ .isl S [] :: post) res):Does Try.prog g fr (pre ++ .sc (.slice none 0 0) :: post) res:=by
 intro w I vals hI hr
 refine h w I vals hI ?_
 clear h
 generalize vals.toList=l at hr
 induction pre generalizing l with
 | nil =>
  obtain ⟨v,r,e,h1,h2⟩:=hr.cons
  rw [e]
  exact RelL.mk (nil_relS h1) h2
 | cons x pre ih =>
  obtain ⟨v,r,e,h1,h2⟩:=hr.cons
  rw [e]
  exact RelL.mk h1 (ih _ h2)
theorem rr_ok:rrC.Ok Try.prog:=by
 refine ⟨by kernel_rfl,fun x k hk=>?_⟩
 simp only [rrC] at hk
 split at hk
 ·rename_i n f m g v a b
  split at hk
  ·obtain ⟨hg,hf,h1,h2,h3,h4,hk⟩:=hk
   have hh:=rra_true (N:=m) (y:=fun i=>iOf (g i)) h2 h1 h3 h4
   unfold rraG at hh
   rw [← hf,← hg] at hh
   exact ⟨_,Does.plain (funH_does rin_cs nilS_x nilS_ic mixed hh) trivial,hk⟩
  ·obtain ⟨hg,hf,h1,h2,h3,h4,hk⟩:=hk
   have hh:=rrp_true (N:=m) (y:=fun i=>iOf (g i)) h2 h1 h3 h4
   unfold rrpG at hh
   rw [← hf,← hg] at hh
   exact ⟨_,Does.plain (funH_does rin_cs nilS_x nilS_ic mixed hh) trivial,hk⟩
  ·exact hk.elim
 ·rename_i n f v a b
  obtain ⟨hf,h1,h2,h3,h4,hk⟩:=hk
  have hh:=rrp_true (N:=0) (y:=fun _=>0) h2 h1 h3 h4
  unfold rrpG at hh
  rw [← hf] at hh
  have hd:=funH_does rin_cs nilS_x nilS_ic mixed hh
  exact ⟨_,Does.plain (nil_doesS (S:=1) (pre:=[(SV.lst 5 n f).den]) (post:=[(i6 v).den,(i6 a).den,(i6 b).den]) hd) trivial,hk⟩
 ·exact hk.elim
theorem rc_ok:rcC.Ok Try.prog:=by
 refine ⟨by kernel_rfl,fun x k hk=>?_⟩
 simp only [rcC] at hk
 split at hk
 ·rename_i n f m g
  split at hk
  ·obtain ⟨hg,hf,h1,h2,h3,h4,hk⟩:=hk
   have hh:=rca_true (N:=m) (y:=fun i=>iOf (g i)) h2 h1 h3 h4
   unfold rcaG at hh
   rw [← hf,← hg] at hh
   exact ⟨_,Does.plain (funH_does nilS_cs nilS_x nilS_ic mixed hh) trivial,hk⟩
  ·obtain ⟨hg,hf,h1,h2,h3,h4,hk⟩:=hk
   have hh:=rcp_true (N:=m) (y:=fun i=>iOf (g i)) h2 h1 h3 h4
   unfold rcpG at hh
   rw [← hf,← hg] at hh
   exact ⟨_,Does.plain (funH_does nilS_cs nilS_x nilS_ic mixed hh) trivial,hk⟩
  ·exact hk.elim
 ·exact hk.elim
theorem ch_spec {L:Sl} {D:Dm} (hL:okSl L) (hD:okD D) :
  (¬ (chS L D).fb∧∀ y,¬ Rig L D y)∨((chS L D).fb∧∃ y,Rig L D y∧(chS L D).b=mxOf L y L.n∧∀ z,Rig L D z→csS L y L.n≤csS L z L.n∧(csS L z L.n=csS L y L.n→lexLe L.n y z)):=by
 have z1:zM.vol=0:=rfl
 have z2:zM.hot=0:=rfl
 have z3:zM.cold=0:=rfl
 by_cases hb:beyP D zM (rvV L 0) (rvC L 0)
 ·have e:chS L D=⟨False,zM⟩:=by unfold chS; rw [if_pos hb]
  rw [e]
  refine .inl ⟨fun h=>h,fun y hy=>?_⟩
  have v:=vo_rest hL (fun i hi=>(hy.b i hi).2) (Nat.zero_le L.n)
  have c:=co_rest hL (fun i hi=>(hy.b i hi).2) (Nat.zero_le L.n)
  have v0:voS L y 0=0:=rfl
  have c0:coS L y 0=0:=rfl
  have r1:=hy.v
  have r2:=hy.c
  unfold beyP at hb
  rw [z1,z3] at hb
  omega
 ·have e:chS L D=trF L D L.n 0 (xOf zM) ⟨False,zM⟩:=by unfold chS; rw [if_neg hb]
  have d1:=hD.v.1
  have d2:=hD.m.1
  have ho:=try_opt hL (D:=D) L.n 0 (xOf zM) ⟨False,zM⟩ (by omega) (fun i hi=>absurd hi (Nat.not_lt_zero _)) (fun h=>by
   unfold pasP at h
   change D.vol<0∨D.most<0 at h
   omega) hb (fun h=>h.elim)
  rw [← e] at ho
  have A:∀ y,Rig L D y→Com L D 0 (xOf zM) y:=fun y hy=>⟨fun i hi=>absurd hi (Nat.not_lt_zero _),hy⟩
  rcases ho with ⟨h1,h2⟩ | ⟨h1,y,h2,h3,_,h4⟩
  ·rw [h1]
   exact .inl ⟨fun h=>h,fun y hy=>(h2 y (A y hy)).1⟩
  ·exact .inr ⟨h1,y,h2.2,h3,fun z hz=>h4 z (A z hz)⟩
theorem rig_congr {L:Sl} {D:Dm} {x y:Xs} (h:∀ i,i<L.n→y i=x i) (hx:Rig L D x):Rig L D y:=by
 obtain ⟨e1,e2,e3,_⟩:=same_s (L:=L) h
 exact ⟨fun i hi=>by rw [h i hi]; exact hx.b i hi,by rw [e1]; exact hx.v,by rw [e2]; exact hx.c,by rw [e3]; exact hx.h⟩
structure Best (L:Sl) (v a b:Int):Prop where
 hL:okSl L
 hn:L.n≤4
 hv:1≤v∧v≤80
 hs:okSp a b
 r:Rig L (dmOf v a b) (mX L v a b)
 c:ctX L v a b=csS L (mX L v a b) L.n
 o:∀ z,Rig L (dmOf v a b) z→csS L (mX L v a b) L.n≤csS L z L.n∧(csS L z L.n=csS L (mX L v a b) L.n→lexLe L.n (mX L v a b) z)
theorem best_of {L:Sl} {v a b:Int} (h:erX L v a b=0):Best L v a b:=by
 have hn:¬ 4<L.n:=fun h1=>by rw [erX3 h1] at h; omega
 by_cases hL:okSl L
 case neg=>rw [erX1 hn hL] at h; omega
 by_cases h2:(1≤v∧v≤80)∧okSp a b
 case neg=>rw [erX2 hn hL h2] at h; omega
 rcases ch_spec hL (okD_of h2) with ⟨h3,_⟩ | ⟨h3,y,r,e,o⟩
 ·rw [erX4 hn hL h2 h3] at h; omega
 ·have q:∀ i,i<L.n→mX L v a b i=y i:=fun i hi=>by
   unfold mX; rw [e]; exact xOf_mx (by omega) hi
  have ec:=(same_s (L:=L) q).2.2.2
  refine ⟨hL,by omega,h2.1,h2.2,rig_congr q r,?_,fun z hz=>?_⟩
  ·unfold ctX; rw [if_pos h,ec,e]; rfl
  ·rw [ec]
   obtain ⟨o1,o2⟩:=o z hz
   refine ⟨o1,fun he=>?_⟩
   rcases o2 he with h | ⟨j,h1,h2,h3⟩
   ·exact .inl fun i hi=>by rw [q i hi]; exact h i hi
   ·exact .inr ⟨j,h1,fun i hi=>by rw [q i (by omega)]; exact h2 i hi,by rw [q j h1]; exact h3⟩
theorem none_of {L:Sl} {v a b:Int} (h:¬ erX L v a b=0) (hn:L.n≤4) (hL:okSl L):(erX L v a b=4∨erX L v a b=2)∧((1≤v∧v≤80)→okSp a b→erX L v a b=4∧∀ y,¬ Rig L (dmOf v a b) y):=by
 have hn':¬ 4<L.n:=by omega
 by_cases h2:(1≤v∧v≤80)∧okSp a b
 ·rcases ch_spec hL (okD_of h2) with ⟨h3,h4⟩ | ⟨h3,_⟩
  ·have e:=erX4 hn' hL h2 h3
   exact ⟨.inl e,fun _ _=>⟨e,h4⟩⟩
  ·exact absurd (erX0 hn' hL h2 h3) h
 ·exact ⟨.inr (erX2 hn' hL h2),fun a b=>absurd ⟨a,b⟩ h2⟩
theorem ctX_no {L:Sl} {v a b:Int} (h:¬ erX L v a b=0):ctX L v a b=0:=by unfold ctX; rw [if_neg h]
theorem iOf_a (z:Int):iOf (SV.agg [i6 z])=z:=rfl
theorem iOf_i (z:Int):iOf (i6 z)=z:=rfl
end Go.Proofs.Ytblomfkinjmjdaa

set_option maxRecDepth 100000
namespace Go.Proofs.Ytblomfkinjmjdaa
open Go Go.Lg
attribute [local irreducible] bodyH funS
end Go.Proofs.Ytblomfkinjmjdaa
