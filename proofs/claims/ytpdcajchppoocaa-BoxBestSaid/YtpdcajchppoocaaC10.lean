import Derived.Test.YtpdcajchppoocaaRows
import Derived.Test.YtpdcajchppoocaaC9
import Derived.Test.YtpdcajchppoocaaC6
import Derived.Test.YtpdcajchppoocaaC7
set_option linter.unusedVariables false
set_option linter.unusedSimpArgs false
set_option maxRecDepth 100000
namespace Go.Proofs.Ytpdcajchppoocaa
open Go Go.Lg
attribute [local irreducible] bodyH
end Go.Proofs.Ytpdcajchppoocaa

set_option maxRecDepth 100000
namespace Go.Proofs.Ytpdcajchppoocaa
open Go Go.Lg
attribute [local irreducible] bodyH
structure cnI (T:Tn) (w:Nat→Bool) (i:Nat):Prop where
 a:i≤T.nl
def cnQ (T:Tn) (w:Nat→Bool) (i:Nat):Prop:=∀ j,j<i→slQ T w T.hi j=0
noncomputable def cnG (T:Tn) (w:Nat→Bool):Prop:=funY Try.prog (ctrsF [rnC,coE] (ctrs [])) noX (ictrs []) (octrs []) (oneL 0 (natH (cnI T w) (fun i=>T.nl - i) 0 (fun i=>mkF 41 [(7,.lst 1 T.nl fun j=>b6 (slQ T w T.hi j)),(10,.dec (cnQ T w i) (Classical.propDecidable _)),(11,b6 i)]) (fun _=>⟨0,.nil⟩) fun _=>none)) noL 44 [tV T,twL T.nl w] (.dec (clP T w 0) (Classical.propDecidable _))
noncomputable def cnC:Ctr:=⟨44,fun args k=>match args with
 | [x,.lst 1 n f]=>∃ (T:Tn) (w:Nat→Bool),(x=tV T∧SV.lst 1 n f=twL T.nl w∧okR T w)∧k (.dec (clP T w 0) (Classical.propDecidable _))
 | _=>False⟩
end Go.Proofs.Ytpdcajchppoocaa

set_option maxRecDepth 100000
namespace Go.Proofs.Ytpdcajchppoocaa
open Go Go.Lg
attribute [local irreducible] bodyH
def qB (m:Nat) (O:List (Nat→Int)):Nat→SV:=fun i=>.lst 1 m fun q=>.dec (O.getD i zF q=1) inferInstance
def twI (n:Nat) (p:Nat→Int):SV:=.lst 1 n fun q=>.dec (p q=1) inferInstance
noncomputable def lsB (m d:Nat) (p:Nat→Int):List (Nat→Int):=lsQ (fun _ _=>0) (fun _ _=>1) (fun _=>True) m d p
noncomputable def alO (M:Nat):OCtr:=⟨43,2,1,fun j=>match j with
 | 1=>some 1
 | _=>none,fun args N h k=>match args with
 | [.int .i64 y,.lst 1 n b,.sl 0 0 x]=>∃ (m:Nat) (O:List (Nat→Int)) (p:Nat→Int),(y=(m:Int)∧x=N∧(∀ i,i<n→(b i).den=(SV.dec (p i=1) inferInstance).den)∧N=O.length∧(∀ i,i<N→h i=qB m O i)∧n≤m∧m≤24∧m - n≤M∧(O ++ lsB m (m - n) p).length≤1000000)∧k (O ++ lsB m (m - n) p).length (qB m (O ++ lsB m (m - n) p))
 | _=>False⟩
noncomputable def alqZ (m:Nat) (O:List (Nat→Int)) (p:Nat→Int):Prop:=funO Try.prog (ctrs []) noX (ictrs []) (octrs []) noL noL 43 [b6 m,twI m p,.sl 0 0 O.length] 1 O.length (qB m O) (O ++ [p]).length (qB m (O ++ [p]))
noncomputable def alqG (M m d:Nat) (O:List (Nat→Int)) (p:Nat→Int):Prop:=funO Try.prog (ctrs []) noX (ictrs []) (octrs [alO M]) noL noL 43 [b6 m,twI (m - (d+1)) p,.sl 0 0 O.length] 1 O.length (qB m O) (O ++ lsB m (d+1) p).length (qB m (O ++ lsB m (d+1) p))
end Go.Proofs.Ytpdcajchppoocaa

set_option maxRecDepth 100000
namespace Go.Proofs.Ytpdcajchppoocaa
open Go Go.Lg
local notation "N0"=>(0:Nat)
local notation "Z1"=>(1:Int)
local notation "N1"=>(1:Nat)
local notation "N4611686018427387904"=>(4611686018427387904:Nat)
theorem alqZ_vc (m:Nat) (O:List (Nat→Int)) (p:Nat→Int):alqZ m O p=((rE (↑m:Int)→True∧(∀ (i:Nat),i<N1→rE true)∧rE N0∧rE O.length∧O.length+N1≤N4611686018427387904∧(O.length+N1)*(24:Nat)≤(140737488355328:Nat)∧O.length+N1≤N4611686018427387904∧(∀ (i:Nat),i<(O ++ [p]).length→∀ (i:Nat),i<m→True)∧rE N0∧O.length+N1=(O ++ [p]).length∧(rowsK (Try.prog.cellsOf (26:Nat)) (O.length+N1) (appP O.length N1 (rowO N1 O.length (qB m O)).f (chainF [SV.lst N1 m fun q=>SV.dec (p q=Z1) inferInstance]))).f=appP O.length N1
(rowO N1 O.length (qB m O)).f (chainF [SV.lst N1 m fun q=>SV.dec (p q=Z1) inferInstance])∧rE (O.length+N1)∧O.length+N1≤N4611686018427387904∧(O ++ [p]).length=O.length+N1∧(∀ (i:Nat),i<O.length→rE (1:Nat)∧m=m∧(∀ (i_1:Nat),i_1<m→(SV.dec (O.getD i zF i_1=Z1) inferInstance).den=(SV.dec ((O ++ [p]).getD i zF i_1=Z1) inferInstance).den∧True)∧True)∧(∀ (i:Nat),i<N1→rE N1∧m=m∧(∀ (i_1:Nat),i_1<m→(SV.dec (p i_1=Z1) inferInstance).den=(SV.dec ((O ++ [p]).getD (O.length+i) zF i_1=Z1) inferInstance).den∧True)∧True) ∧
True)∧(¬(↑m:Int)=(↑m:Int)→(∀ (i:Nat),i<m→rE true)∧rE N0∧rE N0∧(∀ (i:Nat),rE true)∧(N0+m)*N1≤(140737488355328:Nat)∧N0+m≤N4611686018427387904∧True∧(∀ (i:Nat),i<N1→rE true)∧rE N0∧rE (N0+m)∧(∀ (i:Nat),rE true)∧(N0+m+N1)*N1≤(140737488355328:Nat)∧N0+m+N1≤N4611686018427387904∧False)):=by kernel_rfl
theorem alqG_vc (M:Nat) (m:Nat) (d:Nat) (O:List (Nat→Int)) (p:Nat→Int):alqG M m d O p=(((↑(m - (d+N1)):Int)=(↑m:Int)→True∧(∀ (i:Nat),i<N1→rE true)∧rE N0∧rE O.length∧O.length+N1≤N4611686018427387904∧(O.length+N1)*(24:Nat)≤(140737488355328:Nat)∧O.length+N1≤N4611686018427387904∧(∀ (i:Nat),i<(O ++ lsB m (d+N1) p).length→∀ (i:Nat),i<m→True)∧rE N0∧O.length+N1=(O ++ lsB m (d+N1) p).length∧(rowsK (Try.prog.cellsOf (26:Nat)) (O.length+N1) (appP O.length N1 (rowO N1 O.length (qB m O)).f (chainF [SV.lst N1
(m - (d+N1)) fun q=>SV.dec (p q=Z1) inferInstance]))).f=appP O.length N1 (rowO N1 O.length (qB m O)).f (chainF [SV.lst N1 (m - (d+N1)) fun q=>SV.dec (p q=Z1) inferInstance])∧rE (O.length+N1)∧O.length+N1≤N4611686018427387904∧(O ++ lsB m (d+N1) p).length=O.length+N1∧(∀ (i:Nat),i<O.length→rE N1∧m=m∧(∀ (i_1:Nat),i_1<m→(SV.dec (O.getD i zF i_1=Z1) inferInstance).den=(SV.dec ((O ++ lsB m (d+N1) p).getD i zF i_1=Z1) inferInstance).den∧True)∧True)∧(∀ (i:Nat),i<N1→rE N1∧m - (d+N1)=m∧(∀ (i_1:Nat),i_1<m→(SV.dec (p
i_1=Z1) inferInstance).den=(SV.dec ((O ++ lsB m (d+N1) p).getD (O.length+i) zF i_1=Z1) inferInstance).den∧True)∧True)∧True)∧(¬(↑(m - (d+N1)):Int)=(↑m:Int)→(∀ (i:Nat),i<m - (d+N1)→rE true)∧rE N0∧rE N0∧(∀ (i:Nat),rE true)∧(N0+(m - (d+N1)))*N1≤(140737488355328:Nat)∧N0+(m - (d+N1))≤N4611686018427387904∧True∧(∀ (i:Nat),i<N1→rE true)∧rE N0∧rE (N0+(m - (d+N1)))∧(∀ (i:Nat),rE true)∧(N0+(m - (d+N1))+N1)*N1≤(140737488355328:Nat)∧N0+(m - (d+N1))+N1≤N4611686018427387904∧rE N0∧rE O.length
∧ (∀ (i:Nat),i<O.length→∀ (i:Nat),i<m→True)∧N0+(N0+(m - (d+N1))+N1)≤N0+(m - (d+N1))+N1∧(∀ (i:Nat),i<N0+(m - (d+N1))+N1→rE N1∧True)∧∃ (m_1:Nat) (O_1:List (Nat→Int)) (p_1:Nat→Int),((↑m:Int)=(↑m_1:Int)∧rE O.length∧(∀ (i:Nat),i<N0+(m - (d+N1))+N1→((rowsK (Try.prog.cellsOf (4:Nat)) (N0+(m - (d+N1))+N1) (appF (N0+(m - (d+N1))) (rowsK (Try.prog.cellsOf (4:Nat)) (N0+(m - (d+(1:Nat)))) (appF N0 (rowsK (Try.prog.cellsOf (4:Nat)) N0 fun x=>ofS (Value.bool false)).f fun q=>SV.dec (p q=Z1)
inferInstance)).f (chainF [SV.bool false]))).f (i+N0)).den=(SV.dec (p_1 i=Z1) inferInstance).den)∧O.length=O_1.length∧(∀ (i:Nat),i<O.length→(rowO N1 O.length (qB m O)).f i=qB m_1 O_1 i)∧N0+(m - (d+N1))+N1≤m_1∧m_1≤(24:Nat)∧m_1 - (N0+(m - (d+N1))+N1)≤M∧(O_1 ++ lsB m_1 (m_1 - (N0+(m - (d+N1))+N1)) p_1).length≤(1000000:Nat))∧(∀ (i:Nat),i<m - (d+N1)→rE true)∧rE N0∧rE N0∧(∀ (i:Nat),rE true)∧(N0+(m - (d+N1)))*N1≤(140737488355328:Nat)∧N0+(m - (d+N1))≤N4611686018427387904∧True∧(∀ (i:Nat),i<N1 →
rE true)∧rE N0∧rE (N0+(m - (d+N1)))∧(∀ (i:Nat),rE true)∧(N0+(m - (d+N1))+N1)*N1≤(140737488355328:Nat)∧N0+(m - (d+N1))+N1≤N4611686018427387904∧rE N0∧rE ((O_1 ++ lsB m_1 (m_1 - (N0+(m - (d+N1))+N1)) p_1).length)∧(∀ (i:Nat),i<(O_1 ++ lsB m_1 (m_1 - (N0+(m - (d+N1))+N1)) p_1).length→∀ (i:Nat),i<m_1→True)∧N0+(N0+(m - (d+N1))+N1)≤N0+(m - (d+N1))+N1∧(∀ (i:Nat),i<N0+(m - (d+N1))+N1→rE N1∧True)∧∃ (m_2:Nat) (O_2:List (Nat→Int)) (p_2:Nat→Int),((↑m:Int)=(↑m_2:Int)∧rE ((O_1 ++ lsB
m_1 (m_1 - (N0+(m - (d+N1))+N1)) p_1).length)∧(∀ (i:Nat),i<N0+(m - (d+N1))+N1→((rowsK (Try.prog.cellsOf (4:Nat)) (N0+(m - (d+N1))+N1) (appF (N0+(m - (d+N1))) (rowsK (Try.prog.cellsOf (4:Nat)) (N0+(m - (d+N1))) (appF N0 (rowsK (Try.prog.cellsOf (4:Nat)) N0 fun x=>ofS (Value.bool false)).f fun q=>SV.dec (p q=Z1) inferInstance)).f (chainF [SV.bool true]))).f (i+N0)).den=(SV.dec (p_2 i=Z1) inferInstance).den)∧(O_1 ++ lsB m_1 (m_1 - (N0+(m - (d+N1))+N1)) p_1).length=O_2.length∧(∀ (i:Nat),i<(O_1 ++ lsB m_1 (m_1 - (N0+(m - (d +
N1))+N1)) p_1).length→(rowO (alO M).fn.sz (O_1 ++ lsB m_1 (m_1 - (N0+(m - (d+N1))+N1)) p_1).length (qB m_1 (O_1 ++ lsB m_1 (m_1 - (N0+(m - (d+N1))+N1)) p_1))).f i=qB m_2 O_2 i)∧N0+(m - (d+N1))+N1≤m_2∧m_2≤(24:Nat)∧m_2 - (N0+(m - (d+N1))+N1)≤M∧(O_2 ++ lsB m_2 (m_2 - (N0+(m - (d+N1))+N1)) p_2).length≤(1000000:Nat))∧(∀ (i:Nat),i<(O ++ lsB m (d+N1) p).length→∀ (i:Nat),i<m→True)∧rE N0∧(O_2 ++ lsB m_2 (m_2 - (N0+(m - (d+N1))+N1)) p_2).length=(O ++ lsB m (d+N1) p).length∧(O ++ lsB m (d+N1) p).length=(O_2 ++
lsB m_2 (m_2 - (N0+(m - (d+N1))+N1)) p_2).length∧(∀ (i:Nat),i<(O ++ lsB m (d+N1) p).length→rE N1∧m_2=m∧(∀ (i_1:Nat),i_1<m→(SV.dec ((O_2 ++ lsB m_2 (m_2 - (N0+(m - (d+N1))+N1)) p_2).getD i zF i_1=Z1) inferInstance).den=(SV.dec ((O ++ lsB m (d+N1) p).getD i zF i_1=Z1) inferInstance).den∧True)∧True)∧True)):=by kernel_rfl
end Go.Proofs.Ytpdcajchppoocaa
