import Derived.Test.YtpdcajchppoocaaXa4Xa5Xa6Xb0
set_option linter.unusedVariables false
set_option linter.unusedSimpArgs false
set_option maxRecDepth 100000
namespace Go.Proofs.Ytpdcajchppoocaa
open Go Go.Lg
attribute [local irreducible] bodyH
noncomputable def hoz (T : Tn) (s : Rs) (h a : Int) : Prop := funY Try.prog (ctrs []) noX (ictrs []) (octrs []) (twoL 0 (hoH T s h true a) (oneL 1001 (hrH T s h true a))) noL 30 [tV T, s.sv, b6 h, .bool true, b6 a] (.tup [s.sv, b6 0, .bool false])
noncomputable def inG (n a b : Int) : Prop := funH Try.prog (ctrs []) noX (ictrs []) noL noL 45 [b6 n, b6 a, b6 b] (.dec (a ≤ n ∧ n ≤ b) inferInstance)
def inC : Ctr := ⟨45, fun args k => match args with
  | [.int .i64 n, .int .i64 a, .int .i64 b] => k (.dec (a ≤ n ∧ n ≤ b) inferInstance)
  | _ => False⟩
structure tbP (T : Tn) : Prop where
  nb : 1 ≤ T.nb ∧ T.nb ≤ 5
  rv : 0 ≤ T.rv ∧ T.rv ≤ 5
  we : 0 ≤ T.we ∧ T.we ≤ 10000
  re : 1 ≤ T.re ∧ T.re ≤ 24
  wo : 0 ≤ T.wo ∧ T.wo ≤ 1000
  ti : 0 ≤ T.ti ∧ T.ti ≤ 1000
  nl : T.nl ≤ 16
structure tbI (T : Tn) (z : Nat) : Prop where
  a : z ≤ T.nb
  t : tbP T
  b : ∀ j, j < z → vbx T (T.we * T.rv) j
structure tlI (T : Tn) (z : Nat) : Prop where
  a : z ≤ T.nl
  t : tbP T
  v : ∀ j, j < T.nb → vbx T (T.we * T.rv) j
  b : ∀ j, j < z → vlx T j
noncomputable def trG (T : Tn) : Prop := funH Try.prog (ctrs [inC]) noX (ictrs []) (twoL 0 (natH (tbI T) (fun i => T.nb - i) 1 (fun i => mkF 115 [(1, .ptr 0 0 0), (3, b6 i)]) (fun _ => mkX [vr 7 (tV T)]) fun _ => none)
  (oneL 2 (natH (tlI T) (fun i => T.nl - i) 1 (fun i => mkF 115 [(1, .ptr 0 0 0), (5, b6 i)]) (fun _ => mkX [vr 7 (tV T)]) fun _ => none))) noL 24 [tV T] (.dec (okT T) (Classical.propDecidable _))
noncomputable def trC : Ctr := ⟨24, fun args k => match args with
  | [x] => ∃ T : Tn, x = tV T ∧ k (.dec (okT T) (Classical.propDecidable _))
  | _ => False⟩
structure hoP (T : Tn) (s : Rs) (h a : Int) : Prop where
  t : okT T
  q : okQ T s
  a : 0 ≤ a ∧ a ≤ 1000000
  k : ∀ j, 1 ≤ j → j < s.m → ¬ (s.O j).k = h
  h : 0 ≤ h ∧ h ≤ 1000
  c : 0 ≤ s.c ∧ s.c ≤ 1000000
noncomputable def hoC : Ctr := ⟨30, fun args k => match args with
  | [x, y, .int .i64 h, .dec p _, .int .i64 a] => ∃ (T : Tn) (s : Rs), (x = tV T ∧ y = s.sv ∧ hoP T s h a) ∧ (¬ p → k (.tup [(nxQ T s h false a).sv, b6 (lvQ T (wtQ T s h false) a (wtQ T s h false).n), .bool true])) ∧
      (p → 2 ≤ s.n + cbQ s h → k (.tup [(nxQ T s h true a).sv, b6 (lvQ T (wtQ T s h true) a (wtQ T s h true).n), .bool true])) ∧ (p → s.n + cbQ s h < 2 → k (.tup [s.sv, b6 0, .bool false]))
  | _ => False⟩
def bgC : Ctr := ⟨29, fun args k => match args with
  | [x] => ∃ T : Tn, (x = tV T ∧ T.nb ≤ 1000) ∧ k (.agg [.lst 4 T.nb (bgF T), nlS, b6 0])
  | _ => False⟩
def rnC : Ctr := ⟨39, fun args k => match args with
  | [x] => ∃ T : Tn, (x = tV T ∧ T.nl ≤ 1000) ∧ k (.tup [.lst 1 T.nl fun j => b6 (T.lo j), .lst 1 T.nl fun j => b6 (T.hi j)])
  | _ => False⟩
structure coI (T : Tn) (w : Nat → Bool) (c : Nat → Int) (z : Nat) : Prop where
  a : z ≤ T.nl
  b : ∀ i, i < z → ¬ wrQ T w c i
noncomputable def coM : FS → XS → Ms := fun t X => match sget 53 t 11 with
  | .sl r _ _ => [some r]
  | _ => []
noncomputable def coF (T : Tn) (w : Nat → Bool) (c : Nat → Int) (v : SV) (z : Nat) : FS := mkF 53 [(1, twL T.nl w), (2, .lst 1 T.nl fun j => b6 (c j)), (3, .ptr 0 0 0), (7, .ptr 1 0 0), (10, .ptr 2 0 0), (11, v), (12, b6 z)]
noncomputable def coX (T : Tn) (w : Nat → Bool) (c : Nat → Int) (z : Nat) : List (Option SRow) := [vr 7 (tV T), vr 3 (.agg [nlS, nlS, b6 0]), vr 3 (qA T w c z).sv]
theorem rdS (n i : Nat) (t : FS) (X : XS) {α : Type} (k : Bool × α → Prop) (h : (match sget n t i with
  | .sl _ _ _ => ∃ z, k (true, z)
  | _ => ∃ z, k (false, z))) : ∃ s, k s := by
  split at h
  · exact h.elim fun z h => ⟨_, h⟩
  · exact h.elim fun z h => ⟨_, h⟩
noncomputable def cqH (T : Tn) (w : Nat → Bool) (c : Nat → Int) : HSpec :=
  { toLSpec := { σ := Bool × Nat, inv := fun z => match z.1 with
                   | false => coI T w c z.2 ∧ z.2 = 0
                   | true => coI T w c z.2 ∧ 0 < z.2
                 μ := fun z => T.nl - z.2
                 nr := 3
                 ms := coM
                 t := fun z => match z.1 with
                   | false => coF T w c nlS 0
                   | true => coF T w c (.sl 3 0 z.2) z.2
                 X := fun z => match z.1 with
                   | false => mkX (coX T w c 0)
                   | true => mkX [vr 7 (tV T), vr 3 (.agg [nlS, nlS, b6 0]), vr 3 (qA T w c z.2).sv, rw' 1 z.2 fun i => b6 (slQ T w c i)]
                 rd := fun t X k => match sget 53 t 11 with
                   | .sl _ _ _ => ∃ z, k (true, z)
                   | _ => ∃ z, k (false, z)
                 rdOK := fun t X k h => rdS 53 11 t X k h }
    al := fun k => (∀ z, k (false, z)) ∧ ∀ z, k (true, z), alOK := fun k h z => alT h z, fz := true }
noncomputable def coR (T : Tn) (w : Nat → Bool) (c : Nat → Int) : SV := .tup [.lst 1 T.nl fun i => b6 (slQ T w c i), (qA T w c T.nl).sv, b6 T.nl, .bool true]
noncomputable def coB (T : Tn) (w : Nat → Bool) (c : Nat → Int) (F : Nat) : SV := .tup [nlS, (qA T w c F).sv, b6 F, .bool false]
noncomputable def coG (T : Tn) (w : Nat → Bool) (c : Nat → Int) : Prop := funY Try.prog (ctrsF [bgC, hoC] (ctrs [])) noX (ictrs []) (octrs []) (oneL 0 (cqH T w c)) noL 40 [tV T, twL T.nl w, .lst 1 T.nl fun j => b6 (c j)] (coR T w c)
noncomputable def coBG (T : Tn) (w : Nat → Bool) (c : Nat → Int) (F : Nat) : Prop := funY Try.prog (ctrsF [bgC, hoC] (ctrs [])) noX (ictrs []) (octrs []) (oneL 0 (cqH T w c)) noL 40 [tV T, twL T.nl w, .lst 1 T.nl fun j => b6 (c j)] (coB T w c F)
end Go.Proofs.Ytpdcajchppoocaa

set_option maxRecDepth 100000
namespace Go.Proofs.Ytpdcajchppoocaa
open Go Go.Lg
local notation "Z0"=>(0:Int)
local notation "N0"=>(0:Nat)
local notation "Z1"=>(1:Int)
local notation "N1"=>(1:Nat)
local notation "N140737488355328"=>(140737488355328:Nat)
local notation "N32"=>(32:Nat)
local notation "N4"=>(4:Nat)
local notation "N4611686018427387904"=>(4611686018427387904:Nat)
def hoz0 (s:Rs):Prop:=(∀ (i:Nat),i<s.1→rE N4∧(if i<N0 then Z0 else (s.S (i - N0)).1)=(s.S i).1∧(if i<N0 then Z0 else (s.S (i - N0)).2)=(s.S i).2∧(if i<N0 then Z0 else (s.S (i - N0)).3)=(s.S i).3∧(if i<N0 then Z0 else (s.S (i - N0)).4)=(s.S i).4∧True)
def hoz2 (s:Rs):Prop:=(∀ (i:Nat),i<s.1→rE ((s.S i).sv.den)∧True∧True∧True∧True∧True)
def hoz3 (s:Rs):Prop:=(∀ (i:Nat),i<s.3→rE ((s.O i).sv.den)∧True∧True∧True∧True∧True)
def hoz6 (T:Tn):Prop:=(∀ (i:Nat),i<T.1→rE ((bxV T i).den)∧True∧True∧True∧True)
def hoz7 (T:Tn):Prop:=(∀ (i:Nat),i<T.10→rE ((ldV T i).den)∧True∧True∧True)
def hoz1 (T:Tn) (s:Rs) (h:Int) (a:Int):Prop:=(True∧(True∧N0<N1∧True∧(∀ (i:Nat),i<s.1→rE true)∧rE N0∧rE N0∧(∀ (i:Nat),rE true)∧(N0+s.1)*N32≤N140737488355328∧N0+s.1≤N4611686018427387904∧True∧True∧∃ (z:Nat),True∧h=h∧rE true∧a=a∧rE N0∧rE N0∧rE N0∧rE N0∧rE N0∧rE N0∧rE N0∧rE N0∧T.1=T.1∧(hoz6 T)∧T.5=T.5∧T.6=T.6∧T.7=T.7∧T.8=T.8∧T.9=T.9∧rE T.10∧(hoz7 T)∧s.1=s.1∧(hoz2 s)∧s.3=s.3∧(hoz3 s)∧s.5=s.5∧rE (Value.slice none N0 N0)∧rE (Value.slice none N0 N0)∧rE Z0∧rE N0∧N0+s.1=s.1∧rE (Value.slice none N0 N0)∧s.5=s.5∧s.1=N0+s.1∧(hoz0 s)∧True)∧(True∧(∀ (i:Nat),i<s.1→rE true)∧rE N0∧rE N0∧(∀ (i:Nat),rE true)∧(N0+s.1)*N32≤N140737488355328∧N0+s.1≤N4611686018427387904∧True∧N0<N1∧True∧True∧∃ (z:Nat),True∧h=h∧rE true∧a=a∧rE N0∧rE N0∧rE N0∧rE N0∧rE N0∧rE N0∧rE N0∧rE N0∧T.1=T.1∧(hoz6 T)∧T.5=T.5∧T.6=T.6∧T.7=T.7∧T.8=T.8∧T.9=T.9∧rE T.10∧(hoz7 T)∧s.1=s.1∧(hoz2 s)∧s.3=s.3∧(hoz3 s)∧s.5=s.5∧rE (Value.slice none N0 N0)∧rE (Value.slice none N0 N0)∧rE Z0∧rE N0∧N0+s.1=s.1∧rE (Value.slice none N0 N0)∧s.5=s.5∧s.1=N0+s.1∧(hoz0 s)∧True)∧True)
def hoz4 (T:Tn) (s:Rs) (h:Int) (a:Int):Prop:=(True∧(∀ (i:Nat),i<s.1→rE true)∧rE N0∧rE N0∧(∀ (i:Nat),rE true)∧(N0+s.1)*N32≤N140737488355328∧N0+s.1≤N4611686018427387904∧True∧True∧True∧∃ (z:Nat),True∧h=h∧rE true∧a=a∧rE N0∧rE N0∧rE N0∧rE N0∧rE N0∧rE N0∧rE N0∧rE N0∧T.1=T.1∧(hoz6 T)∧T.5=T.5∧T.6=T.6∧T.7=T.7∧T.8=T.8∧T.9=T.9∧rE T.10∧(hoz7 T)∧s.1=s.1∧(hoz2 s)∧s.3=s.3∧(hoz3 s)∧s.5=s.5∧rE (Value.slice none N0 N0)∧rE (Value.slice none N0 N0)∧rE Z0∧rE N0∧N0+s.1=s.1∧rE (Value.slice none N0 N0)∧s.5=s.5∧s.1=N0+s.1∧(hoz0 s)∧True)
def hoz5 (T:Tn) (s:Rs) (h:Int) (a:Int):Prop:=(True∧True∧(∀ (i:Nat),i<s.1→rE true)∧rE N0∧rE N0∧(∀ (i:Nat),rE true)∧(N0+s.1)*N32≤N140737488355328∧N0+s.1≤N4611686018427387904∧True∧True∧∃ (z:Nat),True∧h=h∧rE true∧a=a∧rE N0∧rE N0∧rE N0∧rE N0∧rE N0∧rE N0∧rE N0∧rE N0∧T.1=T.1∧(hoz6 T)∧T.5=T.5∧T.6=T.6∧T.7=T.7∧T.8=T.8∧T.9=T.9∧rE T.10∧(hoz7 T)∧s.1=s.1∧(hoz2 s)∧s.3=s.3∧(hoz3 s)∧s.5=s.5∧rE (Value.slice none N0 N0)∧rE (Value.slice none N0 N0)∧rE Z0∧rE N0∧N0+s.1=s.1∧rE (Value.slice none N0 N0)∧s.5=s.5∧s.1=N0+s.1∧(hoz0 s)∧True)
def hoz8 (s:Rs) (h:Int) (z:Nat) (z_1:Nat):Prop:=(∀ (i_2:Nat),i_2<nQ s h z_1→rE N4∧(if i_2<nQ s h z then (S1 s i_2).1 else (s.O (↑z:Int).toNat).1)=(S1 s i_2).1∧(if i_2<nQ s h z then (S1 s i_2).2 else (s.O (↑z:Int).toNat).2)=(S1 s i_2).2∧(if i_2<nQ s h z then (S1 s i_2).3 else (s.O (↑z:Int).toNat).3)=(S1 s i_2).3∧(if i_2<nQ s h z then (S1 s i_2).4 else (s.O (↑z:Int).toNat).4)=(S1 s i_2).4∧True)
theorem hoz_vc (T:Tn) (s:Rs) (h:Int) (a:Int):hoz T s h a=((True∧True∧True∧N0<N1∧(True∧N0<N1∧(True∧(hoz4 T s h a)∧(hoz5 T s h a)∧True)∧(True∧True∧True∧(∀ (i:Nat),i<s.1→rE true)∧rE N0∧rE N0∧(∀ (i:Nat),rE true)∧(N0+s.1)*N32≤N140737488355328∧N0+s.1≤N4611686018427387904∧True∧True∧∃ (z:Nat),True∧h=h∧rE true∧a=a∧rE N0∧rE N0∧rE N0∧rE N0∧rE N0∧rE N0∧rE N0∧rE N0∧T.1=T.1∧(hoz6 T)∧T.5=T.5∧T.6=T.6∧T.7=T.7∧T.8=T.8∧T.9=T.9∧rE T.10∧(hoz7 T)∧s.1=s.1∧(hoz2 s)∧s.3=s.3∧(hoz3 s)∧s.5=s.5∧rE (Value.slice none N0 N0)∧rE (Value.slice none N0 N0)∧rE Z0∧rE N0∧N0+s.1=s.1∧rE (Value.slice none N0 N0)∧s.5=s.5∧s.1=(0 :
Nat)+s.1∧(hoz0 s)∧True)∧True)∧(True∧(True∧N0<N1∧(hoz4 T s h a)∧(hoz5 T s h a)∧True)∧(True∧(∀ (i:Nat),i<s.1→rE true)∧rE N0∧rE N0∧(∀ (i:Nat),rE true)∧(N0+s.1)*N32≤N140737488355328∧N0+s.1≤N4611686018427387904∧True∧N0<N1∧True∧True∧True∧∃ (z:Nat),True∧h=h∧rE true∧a=a∧rE N0∧rE N0∧rE N0∧rE N0∧rE N0∧rE N0∧rE N0∧rE N0∧T.1=T.1∧(hoz6 T)∧T.5=T.5∧T.6=T.6∧T.7=T.7∧T.8=T.8∧T.9=T.9∧rE T.10∧(hoz7 T)∧s.1=s.1∧(hoz2 s)∧s.3=s.3∧(hoz3 s)∧s.5=s.5∧rE (Value.slice none N0 N0)∧rE (Value.slice none N0 N0)∧rE Z0∧rE N0∧N0+s.1=s.1∧rE (Value.slice none N0 N0)∧s.5 =
s.5∧s.1=N0+s.1∧(hoz0 s)∧True)∧(hoz1 T s h a)∧True)∧(True∧(True∧N0<N1∧True∧True∧(∀ (i:Nat),i<s.1→rE true)∧rE N0∧rE N0∧(∀ (i:Nat),rE true)∧(N0+s.1)*N32≤N140737488355328∧N0+s.1≤N4611686018427387904∧True∧True∧∃ (z:Nat),True∧h=h∧rE true∧a=a∧rE N0∧rE N0∧rE N0∧rE N0∧rE N0∧rE N0∧rE N0∧rE N0∧T.1=T.1∧(hoz6 T)∧T.5=T.5∧T.6=T.6∧T.7=T.7∧T.8=T.8∧T.9=T.9∧rE T.10∧(hoz7 T)∧s.1=s.1∧(hoz2 s)∧s.3=s.3∧(hoz3 s)∧s.5=s.5∧rE (Value.slice none N0 N0)∧rE (Value.slice none N0 N0)∧rE Z0∧rE N0∧N0+s.1=s.1∧rE (Value.slice none N0 N0)∧s.5=s.5∧s.1=N0+s.1∧(hoz0 s) ∧
True)∧(hoz1 T s h a)∧True)∧True)∧∀ (z:Nat),True→(∃ (z:Nat),(hoI s h z∧z≤cbQ s h)∧h=h∧rE true∧a=a∧rE N0∧rE N0∧rE N0∧rE N0∧rE N0∧rE N0∧rE N0∧rE N0∧Z0=(↑z:Int)∧T.1=T.1∧(hoz6 T)∧T.5=T.5∧T.6=T.6∧T.7=T.7∧T.8=T.8∧T.9=T.9∧rE T.10∧(hoz7 T)∧s.1=s.1∧(hoz2 s)∧s.3=s.3∧(hoz3 s)∧s.5=s.5∧rE (Value.slice none N0 N0)∧rE (Value.slice none N0 N0)∧rE Z0∧rE N0∧s.1=nQ s h z∧rE (Value.slice none N0 N0)∧s.5=s.5∧nQ s h z=s.1∧(∀ (i_1:Nat),i_1<nQ s h z→rE N4∧(s.S i_1).1=(S1 s i_1).1∧(s.S i_1).2=(S1 s i_1).2∧(s.S i_1).3=(S1 s i_1).3∧(s.S i_1).4=(S1 s i_1).4∧True)∧True)∧(∀ (z:Nat),hoI s h z∧z≤cbQ s h→N0<N1∧((↑z:Int)
< (↑s.3:Int)→N0<N1∧Z0≤(↑z:Int)∧(↑z:Int)<(↑s.3:Int)∧((s.O (↑z:Int).toNat).4=h→N0<N1∧N0<N1∧Z0≤(↑z:Int)∧(↑z:Int)<(↑s.3:Int)∧True∧(∀ (i:Nat),i<N1→rE true)∧rE N0∧rE (nQ s h z)∧(∀ (i:Nat),rE true)∧(nQ s h z+N1)*N32≤N140737488355328∧nQ s h z+N1≤N4611686018427387904∧rI ((↑z:Int)+Z1)∧∃ (z_1:Nat),(hoI s h z_1∧z_1≤cbQ s h)∧s.3 - z_1<s.3 - z∧h=h∧rE true∧a=a∧rE N0∧rE N0∧rE N0∧rE N0∧rE N0∧rE N0∧rE N0∧rE N0∧(↑z:Int)+Z1=(↑z_1:Int)∧T.1=T.1∧(hoz6 T)∧T.5=T.5∧T.6=T.6∧T.7=T.7∧T.8=T.8∧T.9=T.9∧rE T.10∧(hoz7 T)∧s.1=s.1∧(hoz2 s)∧s.3=s.3∧(hoz3 s)∧s.5=s.5∧rE
(Value.slice none N0 N0)∧rE (Value.slice none N0 N0)∧rE Z0∧rE N0∧nQ s h z+N1=nQ s h z_1∧rE (Value.slice none N0 N0)∧s.5=s.5∧nQ s h z_1=nQ s h z+N1∧(hoz8 s h z z_1)∧True)∧(¬(s.O (↑z:Int).toNat).4=h→N0<N1∧N0<N1∧Z0≤(↑z:Int)∧(↑z:Int)<(↑s.3:Int)∧True∧(∀ (i:Nat),i<N1→rE true)∧N1*N32≤N140737488355328∧N1≤N4611686018427387904∧rI ((↑z:Int)+Z1)∧∃ (z_1:Nat),(hoI s h z_1∧cbQ s h<z_1)∧s.3 - z_1<s.3 - z∧h=h∧rE true∧a=a∧rE N0∧rE N0∧rE N0∧rE N0∧rE N0∧rE N0∧rE N0∧rE N0∧(↑z:Int)+Z1=(↑z_1:Int)∧T.1=T.1∧(hoz6 T)∧T.5=T.5∧T.6=T.6∧T.7=T.7∧T.8=T.8
∧ T.9=T.9∧rE T.10∧(hoz7 T)∧s.1=s.1∧(hoz2 s)∧s.3=s.3∧(hoz3 s)∧s.5=s.5∧rE (Value.slice none N0 N0)∧rE (Value.slice none N0 N0)∧rE Z0∧rE N0∧nQ s h z=nQ s h z_1∧rE N0∧N1=z_1 - cbQ s h∧s.5=s.5∧nQ s h z_1=nQ s h z∧(∀ (i_2:Nat),i_2<nQ s h z_1→rE N4∧rE ((S1 s i_2).1)∧rE ((S1 s i_2).2)∧rE ((S1 s i_2).3)∧rE ((S1 s i_2).4)∧True)∧z_1 - cbQ s h=N1∧(∀ (i_2:Nat),i_2<z_1 - cbQ s h→rE N4∧(s.O (↑z:Int).toNat).1=(O1 s h i_2).1∧(s.O (↑z:Int).toNat).2=(O1 s h i_2).2∧(s.O (↑z:Int).toNat).3=(O1 s h i_2).3∧(s.O (↑z:Int).toNat).4=(O1 s h i_2).4∧True)∧True))∧(¬(↑z:Int)<(↑s.3:Int)→N0<N1∧((↑(nQ s h z):Int)<(2:Int)→N0<N1∧N0<N1∧s.1=s.1∧(hoz2 s)∧s.3=s.3 ∧
(hoz3 s)∧s.5=s.5∧rE Z0∧rE false∧True)∧(¬(↑(nQ s h z):Int)<(2:Int)→N0<N1∧Z0≤Z0∧Z0<(↑(nQ s h z):Int)∧N0+Int.toNat Z0<nQ s h z∧N0<N1∧rI (h+T.7)∧N0<N1∧N0<N1∧((S1 s (N0+Int.toNat Z0)).3<T.6→N0<N1∧rI ((S1 s (N0+Int.toNat Z0)).3+Z1)∧N0<N1∧N0<N1∧rI (s.5+T.8)∧N0<N1∧Z0≤Z1∧Z1≤(↑(nQ s h z):Int)∧(↑(nQ s h z):Int)≤(↑(nQ s h z):Int)∧N0<N1∧N0<N1∧True∧(∀ (i:Nat),i<N1→rE true)∧N1*N32≤N140737488355328∧N1≤N4611686018427387904∧False)∧(¬(S1 s (N0+Int.toNat Z0)).3<T.6→N0 <
N1∧N0<N1∧rI (s.5+T.9)∧N0<N1∧Z0≤Z1∧Z1≤(↑(nQ s h z):Int)∧(↑(nQ s h z):Int)≤(↑(nQ s h z):Int)∧N0<N1∧N0<N1∧True∧(∀ (i:Nat),i<N1→rE true)∧N1*N32≤N140737488355328∧N1≤N4611686018427387904∧False))))∧∀ (z:Nat),hoI s h z∧cbQ s h<z→N0<N1∧((↑z:Int)<(↑s.3:Int)→N0<N1∧Z0≤(↑z:Int)∧(↑z:Int)<(↑s.3:Int)∧((s.O (↑z:Int).toNat).4=h→N0<N1∧N0<N1∧Z0≤(↑z:Int)∧(↑z:Int)<(↑s.3:Int)∧True∧(∀ (i:Nat),i<N1→rE true)∧rE N0∧rE (nQ s h z)∧(∀ (i:Nat),rE true)∧(nQ s h z+N1)*N32≤N140737488355328∧nQ s h z+N1≤(4611686018427387904 :
Nat)∧rI ((↑z:Int)+Z1)∧∃ (z_1:Nat),(hoI s h z_1∧cbQ s h<z_1)∧s.3 - z_1<s.3 - z∧h=h∧rE true∧a=a∧rE N0∧rE N0∧rE N0∧rE N0∧rE N0∧rE N0∧rE N0∧rE N0∧(↑z:Int)+Z1=(↑z_1:Int)∧T.1=T.1∧(hoz6 T)∧T.5=T.5∧T.6=T.6∧T.7=T.7∧T.8=T.8∧T.9=T.9∧rE T.10∧(hoz7 T)∧s.1=s.1∧(hoz2 s)∧s.3=s.3∧(hoz3 s)∧s.5=s.5∧rE (Value.slice none N0 N0)∧rE (Value.slice none N0 N0)∧rE Z0∧rE N0∧nQ s h z+N1=nQ s h z_1∧rE N0∧z - cbQ s h=z_1 - cbQ s h∧s.5=s.5∧nQ s h z_1=nQ s h z+N1∧(hoz8 s h z z_1)∧z_1 - cbQ s h=z - cbQ s h∧(∀ (i_2:Nat),i_2<z_1 - cbQ s h→rE N4∧rE ((O1 s h i_2).1)∧rE ((O1 s h i_2).2)∧rE ((O1 s h i_2).3)∧rE ((O1 s h i_2).4)∧True) ∧
True)∧(¬(s.O (↑z:Int).toNat).4=h→N0<N1∧N0<N1∧Z0≤(↑z:Int)∧(↑z:Int)<(↑s.3:Int)∧True∧(∀ (i:Nat),i<N1→rE true)∧rE N0∧rE (z - cbQ s h)∧(∀ (i:Nat),rE true)∧(z - cbQ s h+N1)*N32≤N140737488355328∧z - cbQ s h+N1≤N4611686018427387904∧rI ((↑z:Int)+Z1)∧∃ (z_1:Nat),(hoI s h z_1∧cbQ s h<z_1)∧s.3 - z_1<s.3 - z∧h=h∧rE true∧a=a∧rE N0∧rE N0∧rE N0∧rE N0∧rE N0∧rE N0∧rE N0∧rE N0∧(↑z:Int)+Z1=(↑z_1:Int)∧T.1=T.1∧(hoz6 T)∧T.5=T.5∧T.6=T.6∧T.7=T.7∧T.8=T.8∧T.9=T.9∧rE T.10∧(hoz7 T)∧s.1=s.1∧(hoz2 s)∧s.3=s.3∧(hoz3 s)∧s.5=s.5∧rE (Value.slice none N0 N0)∧rE (Value.slice none N0 (0 :
Nat))∧rE Z0∧rE N0∧nQ s h z=nQ s h z_1∧rE N0∧z - cbQ s h+N1=z_1 - cbQ s h∧s.5=s.5∧nQ s h z_1=nQ s h z∧(∀ (i_2:Nat),i_2<nQ s h z_1→rE N4∧rE ((S1 s i_2).1)∧rE ((S1 s i_2).2)∧rE ((S1 s i_2).3)∧rE ((S1 s i_2).4)∧True)∧z_1 - cbQ s h=z - cbQ s h+N1∧(∀ (i_2:Nat),i_2<z_1 - cbQ s h→rE N4∧(if i_2<z - cbQ s h then (O1 s h i_2).1 else (s.O (↑z:Int).toNat).1)=(O1 s h i_2).1∧(if i_2<z - cbQ s h then (O1 s h i_2).2 else (s.O (↑z:Int).toNat).2)=(O1 s h i_2).2∧(if i_2<z - cbQ s h then (O1 s h i_2).3 else (s.O (↑z:Int).toNat).3)=(O1 s h i_2).3∧(if i_2<z - cbQ s h then (O1 s h i_2).4 else (s.O (↑z:Int).toNat).4)=(O1 s h i_2).4∧True)∧True))∧(¬(↑z:Int)<(↑s.3:Int)→N0<N1∧((↑(nQ s h z):Int)<(2:Int)→N0<N1∧N0 <
N1∧s.1=s.1∧(hoz2 s)∧s.3=s.3∧(hoz3 s)∧s.5=s.5∧rE Z0∧rE false∧True)∧(¬(↑(nQ s h z):Int)<(2:Int)→N0<N1∧Z0≤Z0∧Z0<(↑(nQ s h z):Int)∧N0+Int.toNat Z0<nQ s h z∧N0<N1∧rI (h+T.7)∧N0<N1∧N0<N1∧((S1 s (N0+Int.toNat Z0)).3<T.6→N0<N1∧rI ((S1 s (N0+Int.toNat Z0)).3+Z1)∧N0<N1∧N0<N1∧rI (s.5+T.8)∧N0<N1∧Z0≤Z1∧Z1≤(↑(nQ s h z):Int)∧(↑(nQ s h z):Int)≤(↑(nQ s h z):Int)∧N0<N1∧N0<N1∧True∧(∀ (i:Nat),i<N1→rE true)∧rE N0∧rE (z - cbQ s h)∧(∀ (i:Nat),rE true)∧(z - cbQ s h+N1)*N32≤(140737488355328 :
Nat)∧z - cbQ s h+N1≤N4611686018427387904∧False)∧(¬(S1 s (N0+Int.toNat Z0)).3<T.6→N0<N1∧N0<N1∧rI (s.5+T.9)∧N0<N1∧Z0≤Z1∧Z1≤(↑(nQ s h z):Int)∧(↑(nQ s h z):Int)≤(↑(nQ s h z):Int)∧N0<N1∧N0<N1∧True∧(∀ (i:Nat),i<N1→rE true)∧rE N0∧rE (z - cbQ s h)∧(∀ (i:Nat),rE true)∧(z - cbQ s h+N1)*N32≤N140737488355328∧z - cbQ s h+N1≤N4611686018427387904∧False)))):=by kernel_rfl
theorem trG_vc (T:Tn):trG T=(N0<N1∧(¬(Z1≤(↑T.1:Int)∧(↑T.1:Int)≤(5:Int))→(false=true↔okT T)∧True)∧(¬¬(Z1≤(↑T.1:Int)∧(↑T.1:Int)≤(5:Int))→N0<N1∧(¬(Z0≤T.6∧T.6≤(5:Int))→(false=true↔okT T)∧True)∧(¬¬(Z0≤T.6∧T.6≤(5:Int))→N0<N1∧(¬(Z0≤T.5∧T.5≤(10000:Int))→(false=true↔okT T)∧True)∧(¬¬(Z0≤T.5∧T.5≤(10000:Int))→N0<N1∧(¬(Z1≤T.7∧T.7≤(24:Int))→(false=true↔okT T)∧True)∧(¬¬(Z1≤T.7∧T.7≤(24:Int))→N0<N1∧(¬(Z0≤T.8∧T.8≤(1000:Int))→(false=true↔okT T)∧True)∧(¬¬(Z0≤T.8∧T.8≤(1000:Int))→N0<N1∧(¬(Z0≤T.9∧T.9≤(1000:Int))→(false=true↔okT T)∧True)∧(¬¬(Z0≤T.9∧T.9≤(1000:Int))→N0<N1∧((16:Int)<(↑T.10:Int)→(false=true↔okT T)∧True)∧(¬(16:Int)<(↑T.10:Int)→(∃ (z:Nat),tbI T z∧rE N0∧rE N0∧Z0=(↑z:Int)∧T.1=T.1∧(∀ (i:Nat),i<T.1→rE ((bxV T i).den)∧True∧True∧True∧True)∧T.5=T.5∧T.6=T.6∧T.7=T.7∧T.8=T.8∧T.9=T.9∧rE T.10∧(∀ (i:Nat),i<T.10→rE ((ldV T i).den)∧True∧True∧True)∧True)∧∀ (z:Nat),tbI T z→N0<N1∧((↑z:Int)<(↑T.1:Int)→N0<N1∧Z0≤(↑z:Int)∧(↑z:Int)<(↑T.1:Int)∧N0<N1∧(¬(Z1≤T.2 (↑z:Int).toNat∧T.2 (↑z:Int).toNat≤(10000:Int))→(false=true↔okT T)∧True)∧(¬¬(Z1≤T.2 (↑z:Int).toNat∧T.2 (↑z:Int).toNat≤(10000:Int))→N0<N1∧(¬(Z1≤T.3 (↑z:Int).toNat∧T.3 (↑z:Int).toNat≤(10000:Int))→(false=true↔okT T)∧True)∧(¬¬(Z1≤T.3 (↑z:Int).toNat∧T.3 (↑z:Int).toNat≤(10000:Int))→N0<N1∧N0<N1∧(¬(Z0≤T.4 (↑z:Int).toNat∧T.4 (↑z:Int).toNat≤T.2 (↑z:Int).toNat)→(false=true↔okT T)∧True)∧(¬¬(Z0≤T.4 (↑z:Int).toNat∧T.4 (↑z:Int).toNat≤T.2 (↑z:Int).toNat)→N0<N1∧N0<N1∧rI (T.5*T.6)∧N0<N1∧(T.2 (↑z:Int).toNat≤T.5*T.6→(false=true↔okT T)∧True)∧(¬T.2 (↑z:Int).toNat≤T.5*T.6→rI ((↑z:Int)+Z1)∧∃ (z_1:Nat),tbI T z_1∧T.1 - z_1<T.1 - z∧rE N0∧rE N0∧(↑z:Int)+Z1=(↑z_1:Int)∧T.1=T.1∧(∀ (i:Nat),i<T.1→rE ((bxV T i).den)∧True∧True∧True∧True)∧T.5=T.5∧T.6=T.6∧T.7=T.7∧T.8=T.8∧T.9=T.9∧rE T.10∧(∀ (i:Nat),i<T.10→rE ((ldV T i).den)∧True∧True∧True)∧True)))))∧(¬(↑z:Int)<(↑T.1:Int)→(∃ (z:Nat),tlI T z∧rE N0∧rE N0∧Z0=(↑z:Int)∧T.1=T.1∧(∀ (i:Nat),i<T.1→rE ((bxV T i).den)∧True∧True∧True∧True)∧T.5=T.5∧T.6=T.6∧T.7=T.7∧T.8=T.8∧T.9=T.9∧rE T.10∧(∀ (i:Nat),i<T.10→rE ((ldV T i).den)∧True∧True∧True)∧True)∧∀ (z:Nat),tlI T z→N0<N1∧((↑z:Int)<(↑T.10:Int)→N0<N1∧Z0≤(↑z:Int)∧(↑z:Int)<(↑T.10:Int)∧N0<N1∧(T.11 (↑z:Int).toNat<Z0→(false=true↔okT T)∧True)∧(¬T.11 (↑z:Int).toNat<Z0→N0<N1∧N0<N1∧(T.12 (↑z:Int).toNat<T.11 (↑z:Int).toNat→(false=true↔okT T)∧True)∧(¬T.12 (↑z:Int).toNat<T.11 (↑z:Int).toNat→N0<N1∧((10000:Int)<T.12 (↑z:Int).toNat→(false=true↔okT T)∧True)∧(¬(10000:Int)<T.12 (↑z:Int).toNat→rI ((↑z:Int)+Z1)∧∃ (z_1:Nat),tlI T z_1∧T.10 - z_1<T.10 - z∧rE N0∧rE N0∧(↑z:Int)+Z1=(↑z_1:Int)∧T.1=T.1∧(∀ (i:Nat),i<T.1→rE ((bxV T i).den)∧True∧True∧True∧True)∧T.5=T.5∧T.6=T.6∧T.7=T.7∧T.8=T.8∧T.9=T.9∧rE T.10∧(∀ (i:Nat),i<T.10→rE ((ldV T i).den)∧True∧True∧True)∧True))))∧(¬(↑z:Int)<(↑T.10:Int)→(rE true↔okT T)∧True)))))))))):=by kernel_rfl
def coG0 (T:Tn):Prop:=(∀ (i:Nat),i<T.1→rE ((bxV T i).den)∧True∧True∧True∧True)
theorem coG_vc (T:Tn) (w:Nat→Bool) (c:Nat→Int):coG T w c=(N0<N1∧(∀ (i:Nat),i<T.1→True∧True∧True∧True)∧(∀ (i:Nat),i<T.10→True∧True∧True)∧∃ T_1,(tV T=tV T_1∧T_1.1≤(1000:Nat))∧(∃ (z:Nat),(coI T w c z∧z=N0)∧rE T.10∧(∀ (i:Nat),i<T.10→rE ((SV.dec (w i=true) inferInstance).den)∧True)∧rE T.10∧(∀ (i:Nat),i<T.10→rE ((b6 (c i)).den)∧True)∧rE N0∧rE N0∧rE N0∧rE N0∧rE N0∧rE N0∧rE (Value.slice none N0 N0)∧Z0=(↑N0:Int)∧T.1=T.1∧(coG0 T)∧T.5=T.5∧T.6=T.6∧T.7=T.7∧T.8=T.8∧T.9=T.9∧rE T.10∧(∀ (i:Nat),i<T.10→rE ((ldV T i).den)∧True∧True∧True)∧rE (Value.slice none N0 N0)∧rE (Value.slice none N0 N0)∧rE Z0∧T_1.1=T.1∧(∀ (i:Nat),i<T.1→(bgF T_1 i).den=((qA T w c N0).S i).sv.den ∧
True∧True∧True∧True∧True)∧rE N0∧rE Z0∧True)∧(∀ (z:Nat),coI T w c z∧z=N0→((↑N0:Int)<(↑T.10:Int)→N0<N1∧N0<N1∧Z0≤(↑N0:Int)∧(↑N0:Int)<(↑T.10:Int)∧Z0≤(↑N0:Int)∧(↑N0:Int)<(↑T.10:Int)∧(∀ (i:Nat),i<T.1→True∧True∧True∧True)∧(∀ (i:Nat),i<T.10→True∧True∧True)∧(∀ (i:Nat),i<T.1→True∧True∧True∧True∧True)∧(∀ (i:Nat),i<N0→True∧True∧True∧True∧True)∧∃ T_2 s,(tV T=tV T_2∧SV.agg [SV.lst N4 (qA T w c N0).n fun i=>((qA T w c N0).S i).sv,SV.lst N4 (qA T w c N0).m fun i=>((qA T w c N0).O i).sv,b6 (qA T w c N0).c]=s.sv∧hoP T_2 s (↑N0:Int) (c (↑N0:Int).toNat))∧(¬w (↑N0:Int).toNat=true →
N0<N1∧True∧(∀ (i:Nat),i<N1→rE true)∧N1*(8:Nat)≤N140737488355328∧N1≤N4611686018427387904∧rI ((↑N0:Int)+Z1)∧∃ (z_1:Nat),(coI T w c z_1∧N0<z_1)∧T.10 - z_1<T.10 - z∧rE T.10∧(∀ (i:Nat),i<T.10→rE ((SV.dec (w i=true) inferInstance).den)∧True)∧rE T.10∧(∀ (i:Nat),i<T.10→rE ((b6 (c i)).den)∧True)∧rE N0∧rE N0∧rE N0∧rE N0∧rE N0∧rE N0∧rE N0∧N1=z_1∧(↑N0:Int)+Z1=(↑z_1:Int)∧T.1=T.1∧(coG0 T)∧T.5=T.5∧T.6=T.6∧T.7=T.7∧T.8=T.8∧T.9=T.9∧rE T.10∧(∀ (i:Nat),i<T.10→rE ((ldV T i).den)∧True∧True∧True)∧rE (Value.slice none N0 N0)∧rE (Value.slice none N0 N0)∧rE Z0∧s.1+cbQ s (↑N0:Int) =
(qA T w c z_1).1∧(∀ (i_2:Nat),i_2<(qA T w c z_1).1→((nxQ T_2 s (↑N0:Int) false (c (↑N0:Int).toNat)).S i_2).sv.den=((qA T w c z_1).S i_2).sv.den∧True∧True∧True∧True∧True)∧s.3 - cbQ s (↑N0:Int)=(qA T w c z_1).3∧(∀ (i_2:Nat),i_2<(qA T w c z_1).3→((nxQ T_2 s (↑N0:Int) false (c (↑N0:Int).toNat)).O i_2).sv.den=((qA T w c z_1).O i_2).sv.den∧True∧True∧True∧True∧True)∧s.5=(qA T w c z_1).5∧z_1=N1∧(∀ (i_2:Nat),i_2<z_1→rE N1∧lvQ T_2 (wtQ T_2 s (↑N0:Int) false) (c (↑N0:Int).toNat) (s.1+cbQ s (↑N0:Int))=slQ T w c i_2∧True)∧True)∧(w (↑N0:Int).toNat=true→(2:Nat)≤s.1+cbQ s (↑N0:Int)→N0<N1∧True∧(∀ (i:Nat),i<N1→rE true)∧N1*(8:Nat)≤N140737488355328∧N1 ≤
N4611686018427387904∧rI ((↑N0:Int)+Z1)∧∃ (z_1:Nat),(coI T w c z_1∧N0<z_1)∧T.10 - z_1<T.10 - z∧rE T.10∧(∀ (i:Nat),i<T.10→rE ((SV.dec (w i=true) inferInstance).den)∧True)∧rE T.10∧(∀ (i:Nat),i<T.10→rE ((b6 (c i)).den)∧True)∧rE N0∧rE N0∧rE N0∧rE N0∧rE N0∧rE N0∧rE N0∧N1=z_1∧(↑N0:Int)+Z1=(↑z_1:Int)∧T.1=T.1∧(coG0 T)∧T.5=T.5∧T.6=T.6∧T.7=T.7∧T.8=T.8∧T.9=T.9∧rE T.10∧(∀ (i:Nat),i<T.10→rE ((ldV T i).den)∧True∧True∧True)∧rE (Value.slice none N0 N0)∧rE (Value.slice none N0 N0)∧rE Z0∧s.1+cbQ s (↑N0:Int) - N1=(qA T w c z_1).1∧(∀ (i_2:Nat),i_2<(qA T w c z_1).1→((nxQ T_2 s (↑N0:Int) true (c (↑N0 :
Int).toNat)).S i_2).sv.den=((qA T w c z_1).S i_2).sv.den∧True∧True∧True∧True∧True)∧s.3 - cbQ s (↑N0:Int)+N1=(qA T w c z_1).3∧(∀ (i_2:Nat),i_2<(qA T w c z_1).3→((nxQ T_2 s (↑N0:Int) true (c (↑N0:Int).toNat)).O i_2).sv.den=((qA T w c z_1).O i_2).sv.den∧True∧True∧True∧True∧True)∧(s.5+if (S1 s N0).3<T_2.6 then T_2.8 else T_2.9)=(qA T w c z_1).5∧z_1=N1∧(∀ (i_2:Nat),i_2<z_1→rE N1∧lvQ T_2 (wtQ T_2 s (↑N0:Int) true) (c (↑N0:Int).toNat) (s.1+cbQ s (↑N0:Int) - N1)=slQ T w c i_2∧True)∧True)∧(w (↑N0:Int).toNat=true→s.1+cbQ s (↑N0:Int)<(2:Nat)→N0<N1∧N0<N1∧N0=T.10∧T.1=(qA T w c T.nl).1∧(∀ (i:Nat),i<(qA T w c T.nl).1→((qA T w c N0).S i).sv.den=((qA
T w c T.nl).S i).sv.den∧True∧True∧True∧True∧True)∧N0=(qA T w c T.nl).3∧(∀ (i:Nat),i<(qA T w c T.nl).3→((qA T w c N0).O i).sv.den=((qA T w c T.nl).O i).sv.den∧True∧True∧True∧True∧True)∧Z0=(qA T w c T.nl).5∧(↑N0:Int)=(↑T.10:Int)∧false=true∧True))∧(¬(↑N0:Int)<(↑T.10:Int)→N0<N1∧N0<N1∧N0=T.10∧T.1=(qA T w c T.nl).1∧(∀ (i:Nat),i<(qA T w c T.nl).1→((qA T w c N0).S i).sv.den=((qA T w c T.nl).S i).sv.den∧True∧True∧True∧True∧True)∧N0=(qA T w c T.nl).3∧(∀ (i:Nat),i<(qA T w c T.nl).3→((qA T w c N0).O i).sv.den=((qA T w c T.nl).O i).sv.den∧True∧True∧True∧True∧True)∧Z0=(qA T w c T.nl).5∧rE (↑T.10:Int)∧rE true∧True))∧∀ (z:Nat),coI T w c z∧N0<z→((↑z:Int)
< (↑T.10:Int)→N0<N1∧N0<N1∧Z0≤(↑z:Int)∧(↑z:Int)<(↑T.10:Int)∧Z0≤(↑z:Int)∧(↑z:Int)<(↑T.10:Int)∧(∀ (i:Nat),i<T.1→True∧True∧True∧True)∧(∀ (i:Nat),i<T.10→True∧True∧True)∧(∀ (i_1:Nat),i_1<(qA T w c z).1→True∧True∧True∧True∧True)∧(∀ (i_1:Nat),i_1<(qA T w c z).3→True∧True∧True∧True∧True)∧∃ T_2 s,(tV T=tV T_2∧SV.agg [SV.lst N4 (qA T w c z).n fun i=>((qA T w c z).S i).sv,SV.lst N4 (qA T w c z).m fun i=>((qA T w c z).O i).sv,b6 (qA T w c z).c]=s.sv∧hoP T_2 s (↑z:Int) (c (↑z:Int).toNat))∧(¬w (↑z:Int).toNat=true→N0<N1∧True∧(∀ (i:Nat),i<N1→rE true)∧rE N0∧z=z∧(∀ (i:Nat),rE true)∧(z+N1)*(8:Nat)≤N140737488355328∧z+N1 ≤
N4611686018427387904∧rI ((↑z:Int)+Z1)∧∃ (z_1:Nat),(coI T w c z_1∧N0<z_1)∧T.10 - z_1<T.10 - z∧rE T.10∧(∀ (i:Nat),i<T.10→rE ((SV.dec (w i=true) inferInstance).den)∧True)∧rE T.10∧(∀ (i:Nat),i<T.10→rE ((b6 (c i)).den)∧True)∧rE N0∧rE N0∧rE N0∧rE N0∧rE N0∧rE N0∧rE N0∧z+N1=z_1∧(↑z:Int)+Z1=(↑z_1:Int)∧T.1=T.1∧(coG0 T)∧T.5=T.5∧T.6=T.6∧T.7=T.7∧T.8=T.8∧T.9=T.9∧rE T.10∧(∀ (i:Nat),i<T.10→rE ((ldV T i).den)∧True∧True∧True)∧rE (Value.slice none N0 N0)∧rE (Value.slice none N0 N0)∧rE Z0∧s.1+cbQ s (↑z:Int)=(qA T w c z_1).1∧(∀ (i_2:Nat),i_2<(qA T w c z_1).1→((nxQ T_2 s (↑z:Int) false (c (↑z:Int).toNat)).S i_2).sv.den=((qA T w c z_1).S
i_2).sv.den∧True∧True∧True∧True∧True)∧s.3 - cbQ s (↑z:Int)=(qA T w c z_1).3∧(∀ (i_2:Nat),i_2<(qA T w c z_1).3→((nxQ T_2 s (↑z:Int) false (c (↑z:Int).toNat)).O i_2).sv.den=((qA T w c z_1).O i_2).sv.den∧True∧True∧True∧True∧True)∧s.5=(qA T w c z_1).5∧z_1=z+N1∧(∀ (i_2:Nat),i_2<z_1→rE N1∧(if i_2<z then slQ T w c i_2 else lvQ T_2 (wtQ T_2 s (↑z:Int) false) (c (↑z:Int).toNat) (s.1+cbQ s (↑z:Int)))=slQ T w c i_2∧True)∧True)∧(w (↑z:Int).toNat=true→(2:Nat)≤s.1+cbQ s (↑z:Int)→N0<N1∧True∧(∀ (i:Nat),i<N1→rE true)∧rE N0∧z=z∧(∀ (i:Nat),rE true)∧(z+N1)*(8:Nat)≤N140737488355328∧z+N1≤N4611686018427387904∧rI ((↑z:Int)+Z1)∧∃ (z_1:Nat),(coI T w c z_1∧N0<z_1)∧T.10 - z_1 <
T.10 - z∧rE T.10∧(∀ (i:Nat),i<T.10→rE ((SV.dec (w i=true) inferInstance).den)∧True)∧rE T.10∧(∀ (i:Nat),i<T.10→rE ((b6 (c i)).den)∧True)∧rE N0∧rE N0∧rE N0∧rE N0∧rE N0∧rE N0∧rE N0∧z+N1=z_1∧(↑z:Int)+Z1=(↑z_1:Int)∧T.1=T.1∧(coG0 T)∧T.5=T.5∧T.6=T.6∧T.7=T.7∧T.8=T.8∧T.9=T.9∧rE T.10∧(∀ (i:Nat),i<T.10→rE ((ldV T i).den)∧True∧True∧True)∧rE (Value.slice none N0 N0)∧rE (Value.slice none N0 N0)∧rE Z0∧s.1+cbQ s (↑z:Int) - N1=(qA T w c z_1).1∧(∀ (i_2:Nat),i_2<(qA T w c z_1).1→((nxQ T_2 s (↑z:Int) true (c (↑z:Int).toNat)).S i_2).sv.den=((qA T w c z_1).S i_2).sv.den∧True∧True∧True∧True∧True)∧s.3 - cbQ s (↑z:Int)+N1=(qA T w c z_1).3∧(∀ (i_2:Nat),
i_2<(qA T w c z_1).3→((nxQ T_2 s (↑z:Int) true (c (↑z:Int).toNat)).O i_2).sv.den=((qA T w c z_1).O i_2).sv.den∧True∧True∧True∧True∧True)∧(s.5+if (S1 s N0).3<T_2.6 then T_2.8 else T_2.9)=(qA T w c z_1).5∧z_1=z+N1∧(∀ (i_2:Nat),i_2<z_1→rE N1∧(if i_2<z then slQ T w c i_2 else lvQ T_2 (wtQ T_2 s (↑z:Int) true) (c (↑z:Int).toNat) (s.1+cbQ s (↑z:Int) - N1))=slQ T w c i_2∧True)∧True)∧(w (↑z:Int).toNat=true→s.1+cbQ s (↑z:Int)<(2:Nat)→N0<N1∧N0<N1∧N0=T.10∧(qA T w c z).1=(qA T w c T.nl).1∧(∀ (i_1:Nat),i_1<(qA T w c T.nl).1→((qA T w c z).S i_1).sv.den=((qA T w c T.nl).S i_1).sv.den∧True∧True∧True∧True∧True)∧(qA T w c z).3=(qA T w c T.nl).3∧(∀ (i_1:Nat),i_1<(qA T w c T.nl).3→((qA T w c z).O i_1).sv.den=((qA T w
c T.nl).O i_1).sv.den∧True∧True∧True∧True∧True)∧(qA T w c z).5=(qA T w c T.nl).5∧(↑z:Int)=(↑T.10:Int)∧false=true∧True))∧(¬(↑z:Int)<(↑T.10:Int)→N0<N1∧N0<N1∧z=T.10∧N0+T.10≤z∧(∀ (i:Nat),i<T.10→rE N1∧rE N1∧slQ T w c (i+N0)=slQ T w c i∧True)∧(qA T w c z).1=(qA T w c T.nl).1∧(∀ (i_1:Nat),i_1<(qA T w c T.nl).1→((qA T w c z).S i_1).sv.den=((qA T w c T.nl).S i_1).sv.den∧True∧True∧True∧True∧True)∧(qA T w c z).3=(qA T w c T.nl).3∧(∀ (i_1:Nat),i_1<(qA T w c T.nl).3→((qA T w c z).O i_1).sv.den=((qA T w c T.nl).O i_1).sv.den∧True∧True∧True∧True∧True)∧(qA T w c z).5=(qA T w c T.nl).5∧rE (↑T.10:Int)∧rE true∧True)):=by kernel_rfl
theorem coBG_vc (T:Tn) (w:Nat→Bool) (c:Nat→Int) (F:Nat):coBG T w c F=(N0<N1∧(∀ (i:Nat),i<T.1→True∧True∧True∧True)∧(∀ (i:Nat),i<T.10→True∧True∧True)∧∃ T_1,(tV T=tV T_1∧T_1.1≤(1000:Nat))∧(∃ (z:Nat),(coI T w c z∧z=N0)∧rE T.10∧(∀ (i:Nat),i<T.10→rE ((SV.dec (w i=true) inferInstance).den)∧True)∧rE T.10∧(∀ (i:Nat),i<T.10→rE ((b6 (c i)).den)∧True)∧rE N0∧rE N0∧rE N0∧rE N0∧rE N0∧rE N0∧rE (Value.slice none N0 N0)∧Z0=(↑N0:Int)∧T.1=T.1∧(∀ (i:Nat),i<T.1→rE ((bxV T i).den)∧True∧True∧True∧True)∧T.5=T.5∧T.6=T.6∧T.7=T.7∧T.8=T.8∧T.9=T.9∧rE T.10∧(∀ (i:Nat),i<T.10→rE ((ldV T i).den)∧True∧True∧True)∧rE (Value.slice none N0 N0)∧rE (Value.slice none N0 N0)∧rE Z0∧T_1.1=T.1∧(∀ (i:Nat),i<T.1→(bgF T_1 i).den=((qA T w c N0).S i).sv.den∧True∧True∧True∧True∧True)∧rE N0∧rE Z0∧True)∧(∀ (z:Nat),coI T w c z∧z=N0→((↑N0:Int)<(↑T.10:Int)→N0<N1∧N0<N1∧Z0≤(↑N0:Int)∧(↑N0:Int)<(↑T.10:Int)∧Z0≤(↑N0:Int)∧(↑N0:Int)<(↑T.10:Int)∧(∀ (i:Nat),i<T.1→True∧True∧True∧True)∧(∀ (i:Nat),i<T.10→True∧True∧True)∧(∀ (i:Nat),i<T.1→True∧True∧True∧True∧True)∧(∀ (i:Nat),i<N0→True∧True∧True∧True∧True)∧∃ T_2 s,(tV T=tV T_2∧SV.agg [SV.lst N4 (qA T w c N0).n fun i=>((qA T w c N0).S i).sv,SV.lst N4 (qA T w c N0).m fun i=>((qA T w c N0).O i).sv,b6 (qA T w c N0).c]=s.sv∧hoP T_2 s (↑N0:Int) (c (↑N0:Int).toNat))∧(¬w (↑N0:Int).toNat=true→N0<N1∧True∧(∀ (i:Nat),i<N1→rE true)∧N1*(8:Nat)≤N140737488355328∧N1≤N4611686018427387904∧rI ((↑N0:Int)+Z1)∧∃ (z_1:Nat),(coI T w c z_1∧N0<z_1)∧T.10 - z_1<T.10 - z∧rE T.10∧(∀ (i:Nat),i<T.10→rE ((SV.dec (w i=true) inferInstance).den)∧True)∧rE T.10∧(∀ (i:Nat),i<T.10→rE ((b6 (c i)).den)∧True)∧rE N0∧rE N0∧rE N0∧rE N0∧rE N0∧rE N0∧rE N0∧N1=z_1∧(↑N0:Int)+Z1=(↑z_1:Int)∧T.1=T.1∧(∀ (i:Nat),i<T.1→rE ((bxV T i).den)∧True∧True∧True∧True)∧T.5=T.5∧T.6=T.6∧T.7=T.7∧T.8=T.8∧T.9=T.9∧rE T.10∧(∀ (i:Nat),i<T.10→rE ((ldV T i).den)∧True∧True∧True)∧rE (Value.slice none N0 N0)∧rE (Value.slice none N0 N0)∧rE Z0∧s.1+cbQ s (↑N0:Int)=(qA T w c z_1).1∧(∀ (i_2:Nat),i_2<(qA T w c z_1).1→((nxQ T_2 s (↑N0:Int) false (c (↑N0:Int).toNat)).S i_2).sv.den=((qA T w c z_1).S i_2).sv.den∧True∧True∧True∧True∧True)∧s.3 - cbQ s (↑N0:Int)=(qA T w c z_1).3∧(∀ (i_2:Nat),i_2<(qA T w c z_1).3→((nxQ T_2 s (↑N0:Int) false (c (↑N0:Int).toNat)).O i_2).sv.den=((qA T w c z_1).O i_2).sv.den∧True∧True∧True∧True∧True)∧s.5=(qA T w c z_1).5∧z_1=N1∧(∀ (i_2:Nat),i_2<z_1→rE N1∧lvQ T_2 (wtQ T_2 s (↑N0:Int) false) (c (↑N0:Int).toNat) (s.1+cbQ s (↑N0:Int))=slQ T w c i_2∧True)∧True)∧(w (↑N0:Int).toNat=true→(2:Nat)≤s.1+cbQ s (↑N0:Int)→N0<N1∧True∧(∀ (i:Nat),i<N1→rE true)∧N1*(8:Nat)≤N140737488355328∧N1≤N4611686018427387904∧rI ((↑N0:Int)+Z1)∧∃ (z_1:Nat),(coI T w c z_1∧N0<z_1)∧T.10 - z_1<T.10 - z∧rE T.10∧(∀ (i:Nat),i<T.10→rE ((SV.dec (w i=true) inferInstance).den)∧True)∧rE T.10∧(∀ (i:Nat),i<T.10→rE ((b6 (c i)).den)∧True)∧rE N0∧rE N0∧rE N0∧rE N0∧rE N0∧rE N0∧rE N0∧N1=z_1∧(↑N0:Int)+Z1=(↑z_1:Int)∧T.1=T.1∧(∀ (i:Nat),i<T.1→rE ((bxV T i).den)∧True∧True∧True∧True)∧T.5=T.5∧T.6=T.6∧T.7=T.7∧T.8=T.8∧T.9=T.9∧rE T.10∧(∀ (i:Nat),i<T.10→rE ((ldV T i).den)∧True∧True∧True)∧rE (Value.slice none N0 N0)∧rE (Value.slice none N0 N0)∧rE Z0∧s.1+cbQ s (↑N0:Int) - N1=(qA T w c z_1).1∧(∀ (i_2:Nat),i_2<(qA T w c z_1).1→((nxQ T_2 s (↑N0:Int) true (c (↑N0:Int).toNat)).S i_2).sv.den=((qA T w c z_1).S i_2).sv.den∧True∧True∧True∧True∧True)∧s.3 - cbQ s (↑N0:Int)+N1=(qA T w c z_1).3∧(∀ (i_2:Nat),i_2<(qA T w c z_1).3→((nxQ T_2 s (↑N0:Int) true (c (↑N0:Int).toNat)).O i_2).sv.den=((qA T w c z_1).O i_2).sv.den∧True∧True∧True∧True∧True)∧(s.5+if (S1 s N0).3<T_2.6 then T_2.8 else T_2.9)=(qA T w c z_1).5∧z_1=N1∧(∀ (i_2:Nat),i_2<z_1→rE N1∧lvQ T_2 (wtQ T_2 s (↑N0:Int) true) (c (↑N0:Int).toNat) (s.1+cbQ s (↑N0:Int) - N1)=slQ T w c i_2∧True)∧True)∧(w (↑N0:Int).toNat=true→s.1+cbQ s (↑N0:Int)<(2:Nat)→N0<N1∧N0<N1∧rE (Value.slice none N0 N0)∧T.1=(qA T w c F).1∧(∀ (i:Nat),i<(qA T w c F).1→((qA T w c N0).S i).sv.den=((qA T w c F).S i).sv.den∧True∧True∧True∧True∧True)∧N0=(qA T w c F).3∧(∀ (i:Nat),i<(qA T w c F).3→((qA T w c N0).O i).sv.den=((qA T w c F).O i).sv.den∧True∧True∧True∧True∧True)∧Z0=(qA T w c F).5∧(↑N0:Int)=(↑F:Int)∧rE false∧True))∧(¬(↑N0:Int)<(↑T.10:Int)→N0<N1∧N0<N1∧rE (Value.slice none N0 N0)∧T.1=(qA T w c F).1∧(∀ (i:Nat),i<(qA T w c F).1→((qA T w c N0).S i).sv.den=((qA T w c F).S i).sv.den∧True∧True∧True∧True∧True)∧N0=(qA T w c F).3∧(∀ (i:Nat),i<(qA T w c F).3→((qA T w c N0).O i).sv.den=((qA T w c F).O i).sv.den∧True∧True∧True∧True∧True)∧Z0=(qA T w c F).5∧(↑T.10:Int)=(↑F:Int)∧true=false∧True))∧∀ (z:Nat),coI T w c z∧N0<z→((↑z:Int)<(↑T.10:Int)→N0<N1∧N0<N1∧Z0≤(↑z:Int)∧(↑z:Int)<(↑T.10:Int)∧Z0≤(↑z:Int)∧(↑z:Int)<(↑T.10:Int)∧(∀ (i:Nat),i<T.1→True∧True∧True∧True)∧(∀ (i:Nat),i<T.10→True∧True∧True)∧(∀ (i_1:Nat),i_1<(qA T w c z).1→True∧True∧True∧True∧True)∧(∀ (i_1:Nat),i_1<(qA T w c z).3→True∧True∧True∧True∧True)∧∃ T_2 s,(tV T=tV T_2∧SV.agg [SV.lst N4 (qA T w c z).n fun i=>((qA T w c z).S i).sv,SV.lst N4 (qA T w c z).m fun i=>((qA T w c z).O i).sv,b6 (qA T w c z).c]=s.sv∧hoP T_2 s (↑z:Int) (c (↑z:Int).toNat))∧(¬w (↑z:Int).toNat=true→N0<N1∧True∧(∀ (i:Nat),i<N1→rE true)∧rE N0∧z=z∧(∀ (i:Nat),rE true)∧(z+N1)*(8:Nat)≤N140737488355328∧z+N1≤N4611686018427387904∧rI ((↑z:Int)+Z1)∧∃ (z_1:Nat),(coI T w c z_1∧N0<z_1)∧T.10 - z_1<T.10 - z∧rE T.10∧(∀ (i:Nat),i<T.10→rE ((SV.dec (w i=true) inferInstance).den)∧True)∧rE T.10∧(∀ (i:Nat),i<T.10→rE ((b6 (c i)).den)∧True)∧rE N0∧rE N0∧rE N0∧rE N0∧rE N0∧rE N0∧rE N0∧z+N1=z_1∧(↑z:Int)+Z1=(↑z_1:Int)∧T.1=T.1∧(∀ (i:Nat),i<T.1→rE ((bxV T i).den)∧True∧True∧True∧True)∧T.5=T.5∧T.6=T.6∧T.7=T.7∧T.8=T.8∧T.9=T.9∧rE T.10∧(∀ (i:Nat),i<T.10→rE ((ldV T i).den)∧True∧True∧True)∧rE (Value.slice none N0 N0)∧rE (Value.slice none N0 N0)∧rE Z0∧s.1+cbQ s (↑z:Int)=(qA T w c z_1).1∧(∀ (i_2:Nat),i_2<(qA T w c z_1).1→((nxQ T_2 s (↑z:Int) false (c (↑z:Int).toNat)).S i_2).sv.den=((qA T w c z_1).S i_2).sv.den∧True∧True∧True∧True∧True)∧s.3 - cbQ s (↑z:Int)=(qA T w c z_1).3∧(∀ (i_2:Nat),i_2<(qA T w c z_1).3→((nxQ T_2 s (↑z:Int) false (c (↑z:Int).toNat)).O i_2).sv.den=((qA T w c z_1).O i_2).sv.den∧True∧True∧True∧True∧True)∧s.5=(qA T w c z_1).5∧z_1=z+N1∧(∀ (i_2:Nat),i_2<z_1→rE N1∧(if i_2<z then slQ T w c i_2 else lvQ T_2 (wtQ T_2 s (↑z:Int) false) (c (↑z:Int).toNat) (s.1+cbQ s (↑z:Int)))=slQ T w c i_2∧True)∧True)∧(w (↑z:Int).toNat=true→(2:Nat)≤s.1+cbQ s (↑z:Int)→N0<N1∧True∧(∀ (i:Nat),i<N1→rE true)∧rE N0∧z=z∧(∀ (i:Nat),rE true)∧(z+N1)*(8:Nat)≤N140737488355328∧z+N1≤N4611686018427387904∧rI ((↑z:Int)+Z1)∧∃ (z_1:Nat),(coI T w c z_1∧N0<z_1)∧T.10 - z_1<T.10 - z∧rE T.10∧(∀ (i:Nat),i<T.10→rE ((SV.dec (w i=true) inferInstance).den)∧True)∧rE T.10∧(∀ (i:Nat),i<T.10→rE ((b6 (c i)).den)∧True)∧rE N0∧rE N0∧rE N0∧rE N0∧rE N0∧rE N0∧rE N0∧z+N1=z_1∧(↑z:Int)+Z1=(↑z_1:Int)∧T.1=T.1∧(∀ (i:Nat),i<T.1→rE ((bxV T i).den)∧True∧True∧True∧True)∧T.5=T.5∧T.6=T.6∧T.7=T.7∧T.8=T.8∧T.9=T.9∧rE T.10∧(∀ (i:Nat),i<T.10→rE ((ldV T i).den)∧True∧True∧True)∧rE (Value.slice none N0 N0)∧rE (Value.slice none N0 N0)∧rE Z0∧s.1+cbQ s (↑z:Int) - N1=(qA T w c z_1).1∧(∀ (i_2:Nat),i_2<(qA T w c z_1).1→((nxQ T_2 s (↑z:Int) true (c (↑z:Int).toNat)).S i_2).sv.den=((qA T w c z_1).S i_2).sv.den∧True∧True∧True∧True∧True)∧s.3 - cbQ s (↑z:Int)+N1=(qA T w c z_1).3∧(∀ (i_2:Nat),i_2<(qA T w c z_1).3→((nxQ T_2 s (↑z:Int) true (c (↑z:Int).toNat)).O i_2).sv.den=((qA T w c z_1).O i_2).sv.den∧True∧True∧True∧True∧True)∧(s.5+if (S1 s N0).3<T_2.6 then T_2.8 else T_2.9)=(qA T w c z_1).5∧z_1=z+N1∧(∀ (i_2:Nat),i_2<z_1→rE N1∧(if i_2<z then slQ T w c i_2 else lvQ T_2 (wtQ T_2 s (↑z:Int) true) (c (↑z:Int).toNat) (s.1+cbQ s (↑z:Int) - N1))=slQ T w c i_2∧True)∧True)∧(w (↑z:Int).toNat=true→s.1+cbQ s (↑z:Int)<(2:Nat)→N0<N1∧N0<N1∧rE (Value.slice none N0 N0)∧(qA T w c z).1=(qA T w c F).1∧(∀ (i_1:Nat),i_1<(qA T w c F).1→((qA T w c z).S i_1).sv.den=((qA T w c F).S i_1).sv.den∧True∧True∧True∧True∧True)∧(qA T w c z).3=(qA T w c F).3∧(∀ (i_1:Nat),i_1<(qA T w c F).3→((qA T w c z).O i_1).sv.den=((qA T w c F).O i_1).sv.den∧True∧True∧True∧True∧True)∧(qA T w c z).5=(qA T w c F).5∧(↑z:Int)=(↑F:Int)∧rE false∧True))∧(¬(↑z:Int)<(↑T.10:Int)→N0<N1∧N0<N1∧False)):=by kernel_rfl
theorem inG_vc (n:Int) (a:Int) (b:Int):inG n a b=((a≤n→(n≤b↔a≤n∧n≤b)∧True)∧(¬a≤n→(false=true↔a≤n∧n≤b)∧True)):=by kernel_rfl
end Go.Proofs.Ytpdcajchppoocaa

set_option maxRecDepth 100000
namespace Go.Proofs.Ytpdcajchppoocaa
open Go Go.Lg
attribute [local irreducible] bodyH
theorem hoz_true {T:Tn} {s:Rs} {h a:Int} (p:hoP T s h a) (hlt:s.n+cbQ s h<2):hoz T s h a:=by
 rw [hoz_vc]
 simp only [hoz0,hoz1,hoz2,hoz3,hoz4,hoz5,hoz6,hoz7,hoz8,rI,rE,tt3,tt4,tt5,tt13,tt14,rI,rE,tt3,tt4,tt5,tt13,tt14,and_true,true_and,Nat.zero_lt_one,and_self,implies_true,Int.toNat_natCast,Nat.zero_add,Nat.add_zero,Nat.one_mul,Nat.mul_one,Classical.not_not,iff_self,Bool.false_eq_true,imp_false,and_imp,true_implies,forall_const]
 have hk:=p.k
 have hnb:=p.t.nb
 have hnm:=p.q.n
 have hc1:=cb_le1 s h
 have I:∀ z,z≤s.m→hoI s h z:=fun z hz=>⟨hz,by omega,by omega,hk⟩
 have nq:∀ z,nQ s h z=s.n+min z (cbQ s h):=fun z=>rfl
 have S1n:∀ i,i<s.n→S1 s i=s.S i:=fun i hi=>by unfold S1; rw [if_pos hi]
 have S1o:∀ i,¬ i<s.n→S1 s i=s.O 0:=fun i hi=>by unfold S1; rw [if_neg hi]
 refine ⟨⟨by omega,by omega,0,fun i hi=>by simp⟩,⟨0,⟨I 0 (by omega),by omega⟩,rfl,by rw [nq]; omega,by rw [nq]; omega,fun i hi=>?_⟩,fun z hz hzc=>⟨fun hl=>⟨by omega,hl,fun he=>?_,fun he=>?_⟩,fun hl h2=>by rw [nq] at h2; omega⟩,fun z hz hzc=>⟨fun hl=>⟨by omega,hl,fun he=>?_,fun he=>?_⟩,fun hl h2=>by rw [nq] at h2; omega⟩⟩
 ·rw [nq] at hi
  rw [S1n i (by omega)]
  exact ⟨rfl,rfl,rfl,rfl⟩
 ·have z0:z=0:=by
   rcases Nat.eq_zero_or_pos z with e | e
   ·exact e
   ·exact absurd he (hk z e (by omega))
  subst z0
  have c1:=cb_one (by omega) he
  have n0:=nq 0
  have n1:=nq 1
  refine ⟨by omega,hl,by omega,by omega,by omega,1,⟨I 1 (by omega),by omega⟩,by omega,by omega,by omega,by omega,fun i hi=>?_⟩
  by_cases e:i<nQ s h 0
  ·simp only [if_pos e,and_self]
  ·simp only [if_neg e]
   rw [S1o i (by omega)]
   exact ⟨rfl,rfl,rfl,rfl⟩
 ·have zc:z=cbQ s h:=by
   rcases Nat.eq_zero_or_pos z with e | e
   ·subst e
    rcases Nat.eq_zero_or_pos (cbQ s h) with e | e
    ·exact e.symm
    ·exact absurd (cb_k (by omega)) he
   ·omega
  have n0:=nq z
  have n1:=nq (z+1)
  refine ⟨by omega,hl,by omega,by omega,by omega,z+1,⟨I (z+1) (by omega),by omega⟩,by omega,by omega,by omega,by omega,by omega,by omega,fun i hi=>?_⟩
  obtain rfl:i=0:=by omega
  have:O1 s h 0=s.O z:=by unfold O1; rw [zc,Nat.zero_add]
  rw [this]
  exact ⟨rfl,rfl,rfl,rfl⟩
 ·exact absurd he (hk z (by omega) (by omega))
 ·have n0:=nq z
  have n1:=nq (z+1)
  refine ⟨by omega,hl,by omega,by omega,by omega,z+1,⟨I (z+1) (by omega),by omega⟩,by omega,by omega,by omega,by omega,by omega,by omega,fun i hi=>?_⟩
  by_cases e:i<z - cbQ s h
  ·simp only [if_pos e,and_self]
  ·simp only [if_neg e]
   have:O1 s h i=s.O z:=by unfold O1; rw [show i+cbQ s h=z by omega]
   rw [this]
   exact ⟨rfl,rfl,rfl,rfl⟩
theorem in_true (n a b:Int):inG n a b:=by
 rw [inG_vc]
 simp only [rI,rE,tt3,tt4,tt5,tt13,tt14,rI,rE,tt3,tt4,tt5,tt13,tt14,and_true,true_and,implies_true]
 exact ⟨fun h=>⟨fun h1=>⟨h,h1⟩,fun h1=>h1.2⟩,fun h=>noF fun h1=>h h1.1⟩
theorem in_ok:inC.Ok Try.prog:=by
 refine ⟨by kernel_rfl,fun args k hk=>?_⟩
 simp only [inC] at hk
 split at hk
 ·exact ⟨_,Does.plain (funH_does nil_cs nil_x nil_ic mixed (in_true _ _ _)) trivial,hk⟩
 ·exact hk.elim
theorem okT_iff {T:Tn}:okT T↔tbP T∧(∀ j,j<T.nb→vbx T (T.we*T.rv) j)∧∀ j,j<T.nl→vlx T j :=
 ⟨fun h=>⟨⟨h.nb,h.rv,h.we,h.re,h.wo,h.ti,h.nl⟩,fun j hj=>by have:=h.bx j hj; exact ⟨⟨this.1,this.2.1⟩,⟨this.2.2.1,this.2.2.2.1⟩,⟨this.2.2.2.2.1,this.2.2.2.2.2.1⟩,this.2.2.2.2.2.2⟩,fun j hj=>by have:=h.ld j hj; exact ⟨by omega,by omega,by omega⟩⟩,
 fun ⟨h,hb,hl⟩=>⟨h.nb,h.rv,h.we,h.re,h.wo,h.ti,h.nl,fun j hj=>by have h1:=(hb j hj).a; have h2:=(hb j hj).b; have h3:=(hb j hj).c; exact ⟨h1.1,h1.2,h2.1,h2.2,h3.1,h3.2,(hb j hj).d⟩,fun j hj=>by have h1:=(hl j hj).a; have h2:=(hl j hj).b; have h3:=(hl j hj).c; omega⟩⟩
theorem tr_true (T:Tn):trG T:=by
 rw [trG_vc]
 simp only [rI,rE,tt3,tt4,tt5,tt13,tt14,rI,rE,tt3,tt4,tt5,tt13,tt14,and_true,true_and,Nat.zero_lt_one,and_self,implies_true,Int.toNat_natCast,Nat.zero_add,Nat.add_zero,Nat.one_mul,Nat.mul_one,Classical.not_not,iff_self,imp_false,and_imp,true_implies,forall_const]
 refine ⟨fun h=>noF fun o=>h (by have:=o.nb; omega),fun a1 a2=>⟨fun h=>noF fun o=>h o.rv,fun a3 a4=>⟨fun h=>noF fun o=>h o.we,fun a5 a6=>⟨fun h=>noF fun o=>h o.re,fun a7 a8=>⟨fun h=>noF fun o=>h o.wo,fun b1 b2=>⟨fun h=>noF fun o=>h o.ti,fun b3 b4=>⟨fun h=>noF fun o=>by have:=o.nl; omega,fun b5=>?_⟩⟩⟩⟩⟩⟩⟩
 have P:tbP T:=⟨by omega,⟨a3,a4⟩,⟨a5,a6⟩,⟨a7,a8⟩,⟨b1,b2⟩,⟨b3,b4⟩,by omega⟩
 refine ⟨⟨0,⟨Nat.zero_le _,P,fun j hj=>(Nat.not_lt_zero j hj).elim⟩,rfl⟩,fun z hz=>⟨fun hl=>?_,fun hl=>⟨⟨0,⟨Nat.zero_le _,P,?_,fun j hj=>(Nat.not_lt_zero j hj).elim⟩,rfl⟩,fun y hy=>⟨fun hl=>?_,fun hl=>?_⟩⟩⟩⟩
 ·have hlt:z<T.nb:=by omega
  have V:okT T→vbx T (T.we*T.rv) z:=fun o=>(okT_iff.1 o).2.1 z hlt
  have hm:-9223372036854775808≤T.we*T.rv∧T.we*T.rv≤9223372036854775807:=by
   have h1:0≤T.we*T.rv:=Int.mul_nonneg a5 a3
   have h2:T.we*T.rv≤10000*5:=Int.mul_le_mul a6 a4 a3 (by omega)
   omega
  refine ⟨by omega,hl,fun h=>noF fun o=>h (V o).a,fun c1 c2=>⟨fun h=>noF fun o=>h (V o).b,fun c3 c4=>⟨fun h=>noF fun o=>h (V o).c,fun c5 c6=>⟨hm,fun h=>noF fun o=>by have:=(V o).d; omega,fun h=>⟨by omega,z+1,⟨by omega,P,fun j hj=>?_⟩,by omega,by omega⟩⟩⟩⟩⟩
  by_cases e:j<z
  ·exact hz.b j e
  ·obtain rfl:j=z:=by omega
   exact ⟨⟨c1,c2⟩,⟨c3,c4⟩,⟨c5,c6⟩,by omega⟩
 ·have:=hz.a
  intro j hj
  exact hz.b j (by omega)
 ·have hlt:y<T.nl:=by omega
  have V:okT T→vlx T y:=fun o=>(okT_iff.1 o).2.2 y hlt
  refine ⟨by omega,hl,fun h=>noF fun o=>by have:=(V o).b; omega,fun c1=>⟨fun h=>noF fun o=>(V o).a h,fun c2=>⟨fun h=>noF fun o=>by have:=(V o).c; omega,fun c3=>⟨by omega,y+1,⟨by omega,P,hy.v,fun j hj=>?_⟩,by omega,by omega⟩⟩⟩⟩
  by_cases e:j<y
  ·exact hy.b j e
  ·obtain rfl:j=y:=by omega
   exact ⟨by omega,by omega,by omega⟩
 ·have:=hy.a
  exact ⟨fun _=>okT_iff.2 ⟨P,hy.v,fun j hj=>hy.b j (by omega)⟩,fun _=>trivial⟩
theorem tr_ok:trC.Ok Try.prog:=by
 refine ⟨by kernel_rfl,fun args k hk=>?_⟩
 simp only [trC] at hk
 split at hk
 ·obtain ⟨T,rfl,hk⟩:=hk
  exact ⟨_,Does.plain (funH_does (ctrs_sound (by intro x hx; simp at hx; subst hx; exact in_ok)) nil_x nil_ic mixed (tr_true T)) trivial,hk⟩
 ·exact hk.elim
theorem nil_o:SoundO Try.prog (octrs []):=octrs_sound (by simp)
theorem ho_ok:hoC.OkF Try.prog:=by
 refine ⟨by kernel_rfl,fun args k hk=>?_⟩
 simp only [hoC] at hk
 split at hk
 ·rename_i h p ip a
  obtain ⟨T,s,⟨rfl,rfl,hp⟩,k1,k2,k3⟩:=hk
  by_cases hw:p
  ·have e:SV.denL [tV T,s.sv,.int .i64 h,.dec p ip,.int .i64 a]=SV.denL [tV T,s.sv,b6 h,.bool true,b6 a]:=by
    simp only [SV.denL,SV.den,b6]; simp [hw]
   rw [e]
   by_cases h2:2≤s.n+cbQ s h
   ·have t:=hot_true hp.t hp.q hp.a hp.k hp.h hp.c h2
    unfold hot hoG at t
    exact ⟨_,funY_does nil_cs nil_x nil_ic nil_o mixed t,k2 hw h2⟩
   ·exact ⟨_,funY_does nil_cs nil_x nil_ic nil_o mixed (hoz_true hp (by omega)),k3 hw (by omega)⟩
  ·have e:SV.denL [tV T,s.sv,.int .i64 h,.dec p ip,.int .i64 a]=SV.denL [tV T,s.sv,b6 h,.bool false,b6 a]:=by
    simp only [SV.denL,SV.den,b6]; simp [hw]
   rw [e]
   have t:=hof_true hp.t hp.q hp.a hp.k
   unfold hof hoG at t
   exact ⟨_,funY_does nil_cs nil_x nil_ic nil_o mixed t,k1 hw⟩
 ·exact hk.elim
theorem bg_ok:bgC.OkF Try.prog:=by
 refine ⟨by kernel_rfl,fun args k hk=>?_⟩
 simp only [bgC] at hk
 split at hk
 ·obtain ⟨T,⟨rfl,h⟩,hk⟩:=hk
  exact ⟨_,funY_does nil_cs nil_x nil_ic nil_o mixed (bg_true h),hk⟩
 ·exact hk.elim
theorem rn_ok:rnC.OkF Try.prog:=by
 refine ⟨by kernel_rfl,fun args k hk=>?_⟩
 simp only [rnC] at hk
 split at hk
 ·obtain ⟨T,⟨rfl,h⟩,hk⟩:=hk
  exact ⟨_,funY_does nil_cs nil_x nil_ic nil_o mixed (rn_true h),hk⟩
 ·exact hk.elim
theorem co_cs:SoundS Try.prog (ctrsF [bgC,hoC] (ctrs [])):=ctrsF_sound nil_cs (by
 intro x hx
 simp only [List.mem_cons,List.not_mem_nil,or_false] at hx
 rcases hx with rfl | rfl
 ·exact bg_ok
 ·exact ho_ok)
end Go.Proofs.Ytpdcajchppoocaa

set_option maxRecDepth 100000
namespace Go.Proofs.Ytpdcajchppoocaa
open Go Go.Lg
attribute [local irreducible] bodyH
theorem nw_of {T:Tn} (hT:okT T) {w:Nat→Bool} {c:Nat→Int}:∀ {z:Nat},z≤16→(∀ k,k<z→0≤c k)→(∀ i,i<z→¬ wrQ T w c i)→∀ i,i<z→¬ wrA T (tW w) c i
 | 0,_,_,_=>fun i hi=>(Nat.not_lt_zero i hi).elim
 | z+1,hz,hc,hw=>fun i hi=>by
  have ih:=nw_of hT (z:=z) (by omega) (fun k hk=>hc k (by omega)) (fun k hk=>hw k (by omega))
  by_cases e:i<z
  ·exact ih i e
  ·obtain rfl:i=z:=by omega
   exact fun h=>hw i (by omega) ((wr_eq hT (by omega) (fun k hk=>hc k (by omega)) ih).2 h)
theorem qa_c {T:Tn} (hT:okT T) (w:Nat→Bool) (c:Nat→Int):∀ z:Nat,0≤(qA T w c z).c∧(qA T w c z).c≤1000*(z:Int)
 | 0=>⟨Int.le_refl _,Int.le_refl _⟩
 | z+1=>by
  have ih:=qa_c hT w c z
  have h1:=hT.wo
  have h2:=hT.ti
  show 0≤(wtQ T (qA T w c z) z (w z)).c∧(wtQ T (qA T w c z) z (w z)).c≤_
  cases w z with
  | false=>show 0≤(qA T w c z).c∧(qA T w c z).c≤_; omega
  | true =>
   show 0≤(qA T w c z).c+(if (S1 (qA T w c z) 0).r<T.rv then T.wo else T.ti)∧(qA T w c z).c+(if (S1 (qA T w c z) 0).r<T.rv then T.wo else T.ti)≤_
   split <;> omega
structure okC (T:Tn) (c:Nat→Int):Prop where
 t:okT T
 c:∀ k,k<T.nl→0≤c k∧c k≤1000000
theorem ho_at {T:Tn} {w:Nat→Bool} {c:Nat→Int} (h:okC T c) {z:Nat} (hz:z<T.nl) (hw:∀ i,i<z→¬ wrQ T w c i):hoP T (qA T w c z) z (c z):=by
 have hl:=h.t.nl
 have hc:∀ k,k<z→0≤c k:=fun k hk=>(h.c k (by omega)).1
 have hn:=nw_of h.t (by omega) hc hw
 have e:=qa_eq h.t (z:=z) (by omega) hc hn
 have ok:=Go.Lg.st_ok h.t (m:=z) (by omega) hc hn
 have eh:=st_h (T:=T) (w:=tW w) (c:=c) z
 have hk:=k_ne e
 rw [eh] at hk
 have:=qa_c h.t w c z
 exact ⟨h.t,ok_of e ok,h.c z hz,hk,by omega,by omega⟩
theorem co_true {T:Tn} {w:Nat→Bool} {c:Nat→Int} (h:okC T c) (hw:∀ i,i<T.nl→¬ wrQ T w c i):coG T w c:=by
 rw [coG_vc]
 simp only [coG0,rI,rE,tt3,tt4,tt5,tt13,tt14,rI,rE,tt3,tt4,tt5,tt13,tt14,and_true,true_and,Nat.zero_lt_one,and_self,implies_true,Int.toNat_natCast,Nat.zero_add,Nat.add_zero,Nat.one_mul,Nat.mul_one,Classical.not_not,iff_self,Bool.false_eq_true,imp_false,and_imp,true_implies,forall_const]
 have hl:=h.t.nl
 have hb:=h.t.nb
 have I:∀ z,z≤T.nl→coI T w c z:=fun z hz=>⟨hz,fun i hi=>hw i (by omega)⟩
 refine ⟨T,⟨rfl,by omega⟩,⟨0,⟨I 0 (by omega),rfl⟩,rfl,rfl,fun i hi=>rfl⟩,fun z hz z0=>⟨fun hl=>⟨by omega,hl,by omega,hl,T,qA T w c 0,⟨rfl,rfl,ho_at h (by omega) fun i hi=>by omega⟩,fun hf=>?_,fun ht h2=>?_,fun ht h2=>?_⟩,fun hl=>?_⟩,fun z hz z0=>⟨fun hl=>⟨by omega,hl,by omega,hl,T,qA T w c z,⟨rfl,rfl,ho_at h (by omega) hz.b⟩,fun hf=>?_,fun ht h2=>?_,fun ht h2=>?_⟩,fun hl=>?_⟩⟩
 ·have hf:w 0=false:=by simpa using hf
  have e:qA T w c 1=nxQ T (qA T w c 0) ((0:Nat):Int) false (c 0):=by show nxQ T (qA T w c 0) _ (w 0) _=_; rw [hf]
  refine ⟨by omega,by omega,by omega,1,⟨I 1 (by omega),by omega⟩,by omega,rfl,rfl,by rw [e]; rfl,fun i hi=>by rw [e],by rw [e]; rfl,fun i hi=>by rw [e],by rw [e]; rfl,rfl,fun i hi=>?_⟩
  obtain rfl:i=0:=by omega
  unfold slQ; rw [hf]; rfl
 ·have e:qA T w c 1=nxQ T (qA T w c 0) ((0:Nat):Int) true (c 0):=by show nxQ T (qA T w c 0) _ (w 0) _=_; rw [ht]
  refine ⟨by omega,by omega,by omega,1,⟨I 1 (by omega),by omega⟩,by omega,rfl,rfl,by rw [e]; rfl,fun i hi=>by rw [e],by rw [e]; rfl,fun i hi=>by rw [e],by rw [e]; rfl,rfl,fun i hi=>?_⟩
  obtain rfl:i=0:=by omega
  unfold slQ; rw [ht]; rfl
 ·exact (hw 0 (by omega) ⟨ht,h2⟩).elim
 ·have:T.nl=0:=by omega
  rw [this]
  exact ⟨rfl,rfl,fun i hi=>rfl,rfl,fun i hi=>rfl,rfl⟩
 ·have hf:w z=false:=by simpa using hf
  have e:qA T w c (z+1)=nxQ T (qA T w c z) z false (c z):=by show nxQ T (qA T w c z) _ (w z) _=_; rw [hf]
  refine ⟨by omega,by omega,by omega,z+1,⟨I (z+1) (by omega),by omega⟩,by omega,rfl,rfl,by rw [e]; rfl,fun i hi=>by rw [e],by rw [e]; rfl,fun i hi=>by rw [e],by rw [e]; rfl,rfl,fun i hi=>?_⟩
  by_cases e:i<z
  ·rw [if_pos e]
  ·rw [if_neg e]
   obtain rfl:i=z:=by omega
   unfold slQ; rw [hf]; rfl
 ·have e:qA T w c (z+1)=nxQ T (qA T w c z) z true (c z):=by show nxQ T (qA T w c z) _ (w z) _=_; rw [ht]
  refine ⟨by omega,by omega,by omega,z+1,⟨I (z+1) (by omega),by omega⟩,by omega,rfl,rfl,by rw [e]; rfl,fun i hi=>by rw [e],by rw [e]; rfl,fun i hi=>by rw [e],by rw [e]; rfl,rfl,fun i hi=>?_⟩
  by_cases e:i<z
  ·rw [if_pos e]
  ·rw [if_neg e]
   obtain rfl:i=z:=by omega
   unfold slQ; rw [ht]; rfl
 ·exact (hw z (by omega) ⟨ht,h2⟩).elim
 ·have:=hz.a
  obtain rfl:z=T.nl:=by omega
  exact ⟨rfl,Nat.le_refl _,rfl,fun i hi=>rfl,rfl,fun i hi=>rfl,rfl⟩
theorem coB_true {T:Tn} {w:Nat→Bool} {c:Nat→Int} (h:okC T c) {F:Nat} (hF:F<T.nl) (hwF:wrQ T w c F) (hw:∀ i,i<F→¬ wrQ T w c i):coBG T w c F:=by
 rw [coBG_vc]
 simp only [rI,rE,tt3,tt4,tt5,tt13,tt14,rI,rE,tt3,tt4,tt5,tt13,tt14,and_true,true_and,Nat.zero_lt_one,and_self,implies_true,Int.toNat_natCast,Nat.zero_add,Nat.add_zero,Nat.one_mul,Nat.mul_one,Classical.not_not,iff_self,Bool.false_eq_true,imp_false,and_imp,true_implies,forall_const]
 have hl:=h.t.nl
 have hb:=h.t.nb
 have N:∀ z,coI T w c z→z≤F:=fun z hz=>by
  rcases Nat.lt_or_ge F z with e | e
  ·exact (hz.b F e hwF).elim
  ·exact e
 have I:∀ z,z<T.nl→coI T w c z→¬ wrQ T w c z→coI T w c (z+1):=fun z hz h1 h2=>⟨by omega,fun i hi=>by
  by_cases e:i<z
  ·exact h1.b i e
  ·obtain rfl:i=z:=by omega
   exact h2⟩
 refine ⟨T,⟨rfl,by omega⟩,⟨0,⟨⟨by omega,fun i hi=>(Nat.not_lt_zero i hi).elim⟩,rfl⟩,rfl,rfl,fun i hi=>rfl⟩,fun z hz z0=>⟨fun hl=>⟨by omega,hl,by omega,hl,T,qA T w c 0,⟨rfl,rfl,ho_at h (by omega) fun i hi=>by omega⟩,fun hf=>?_,fun ht h2=>?_,fun ht h2=>?_⟩,fun hl=>?_⟩,fun z hz z0=>⟨fun hl=>⟨by omega,hl,by omega,hl,T,qA T w c z,⟨rfl,rfl,ho_at h (by omega) hz.b⟩,fun hf=>?_,fun ht h2=>?_,fun ht h2=>?_⟩,by have:=N z hz; omega⟩⟩
 ·have hf:w 0=false:=by simpa using hf
  have e:qA T w c 1=nxQ T (qA T w c 0) ((0:Nat):Int) false (c 0):=by show nxQ T (qA T w c 0) _ (w 0) _=_; rw [hf]
  refine ⟨by omega,by omega,by omega,1,⟨I 0 (by omega) (z0 ▸ hz) (fun q=>by have:=q.1; have:=q.2; simp_all),by omega⟩,by omega,rfl,rfl,by rw [e]; rfl,fun i hi=>by rw [e],by rw [e]; rfl,fun i hi=>by rw [e],by rw [e]; rfl,rfl,fun i hi=>?_⟩
  obtain rfl:i=0:=by omega
  unfold slQ; rw [hf]; rfl
 ·have e:qA T w c 1=nxQ T (qA T w c 0) ((0:Nat):Int) true (c 0):=by show nxQ T (qA T w c 0) _ (w 0) _=_; rw [ht]
  refine ⟨by omega,by omega,by omega,1,⟨I 0 (by omega) (z0 ▸ hz) (fun q=>by have:=q.1; have:=q.2; omega),by omega⟩,by omega,rfl,rfl,by rw [e]; rfl,fun i hi=>by rw [e],by rw [e]; rfl,fun i hi=>by rw [e],by rw [e]; rfl,rfl,fun i hi=>?_⟩
  obtain rfl:i=0:=by omega
  unfold slQ; rw [ht]; rfl
 ·have e:F=0:=by
   rcases Nat.eq_zero_or_pos F with e | e
   ·exact e
   ·exact (hw 0 e ⟨ht,h2⟩).elim
  subst e
  exact ⟨rfl,fun i hi=>rfl,rfl,fun i hi=>rfl,rfl,rfl⟩
 ·omega
 ·have hf:w z=false:=by simpa using hf
  have e:qA T w c (z+1)=nxQ T (qA T w c z) z false (c z):=by show nxQ T (qA T w c z) _ (w z) _=_; rw [hf]
  refine ⟨by omega,by omega,by omega,z+1,⟨I z (by omega) hz (fun q=>by have:=q.1; have:=q.2; simp_all),by omega⟩,by omega,rfl,rfl,by rw [e]; rfl,fun i hi=>by rw [e],by rw [e]; rfl,fun i hi=>by rw [e],by rw [e]; rfl,rfl,fun i hi=>?_⟩
  by_cases e:i<z
  ·rw [if_pos e]
  ·rw [if_neg e]
   obtain rfl:i=z:=by omega
   unfold slQ; rw [hf]; rfl
 ·have e:qA T w c (z+1)=nxQ T (qA T w c z) z true (c z):=by show nxQ T (qA T w c z) _ (w z) _=_; rw [ht]
  refine ⟨by omega,by omega,by omega,z+1,⟨I z (by omega) hz (fun q=>by have:=q.1; have:=q.2; omega),by omega⟩,by omega,rfl,rfl,by rw [e]; rfl,fun i hi=>by rw [e],by rw [e]; rfl,fun i hi=>by rw [e],by rw [e]; rfl,rfl,fun i hi=>?_⟩
  by_cases e:i<z
  ·rw [if_pos e]
  ·rw [if_neg e]
   obtain rfl:i=z:=by omega
   unfold slQ; rw [ht]; rfl
 ·have e:F=z:=by
   have:=N z hz
   rcases Nat.lt_or_ge z F with e | e
   ·exact (hw z e ⟨ht,h2⟩).elim
   ·omega
  subst e
  exact ⟨rfl,fun i hi=>rfl,rfl,fun i hi=>rfl,rfl,rfl⟩
noncomputable def coE:Ctr:=⟨40,fun args k=>match args with
 | [x,.lst 1 n f,.lst 1 m g]=>∃ (T:Tn) (w:Nat→Bool) (c:Nat→Int),(x=tV T∧SV.lst 1 n f=twL T.nl w∧SV.lst 1 m g=SV.lst 1 T.nl (fun j=>b6 (c j))∧okC T c∧∀ i,i<T.nl→¬ wrQ T w c i)∧k (coR T w c)
 | _=>False⟩
noncomputable def coD:Ctr:=⟨40,fun args k=>match args with
 | [x,.lst 1 n f,.lst 1 m g]=>∃ (T:Tn) (w:Nat→Bool) (c:Nat→Int) (F:Nat),(x=tV T∧SV.lst 1 n f=twL T.nl w∧SV.lst 1 m g=SV.lst 1 T.nl (fun j=>b6 (c j))∧okC T c∧F<T.nl∧wrQ T w c F∧∀ i,i<F→¬ wrQ T w c i)∧k (coB T w c F)
 | _=>False⟩
theorem coE_ok:coE.OkF Try.prog:=by
 refine ⟨by kernel_rfl,fun args k hk=>?_⟩
 simp only [coE] at hk
 split at hk
 ·obtain ⟨T,w,c,⟨rfl,h1,h2,hc,hw⟩,hk⟩:=hk
  rw [h1,h2]
  exact ⟨_,funY_does co_cs nil_x nil_ic nil_o mixed (co_true hc hw),hk⟩
 ·exact hk.elim
theorem coD_ok:coD.OkF Try.prog:=by
 refine ⟨by kernel_rfl,fun args k hk=>?_⟩
 simp only [coD] at hk
 split at hk
 ·obtain ⟨T,w,c,F,⟨rfl,h1,h2,hc,hF,hq,hn⟩,hk⟩:=hk
  rw [h1,h2]
  exact ⟨_,funY_does co_cs nil_x nil_ic nil_o mixed (coB_true hc hF hq hn),hk⟩
 ·exact hk.elim
theorem rg_hi {T:Tn} (h:okT T):okC T T.hi:=⟨h,fun k hk=>by have:=h.ld k hk; omega⟩
theorem rg_no {T:Tn} {c:Nat→Int} (h:okC T c) {w:Nat→Bool} {i:Nat} (hi:i<fwA T w):¬ wrQ T w c i:=by
 have hl:=h.t.nl
 have hd:=fw_d (T:=T) (w:=w)
 have hn:∀ k,k<i→¬ wrA T (tW w) c k:=fun k hk=>fw_a (by omega)
 exact fun hq=>fw_a hi ((wr_eq h.t (by omega) (fun k hk=>(h.c k (by omega)).1) hn).1 hq)
theorem rg_yes {T:Tn} {c:Nat→Int} (h:okC T c) {w:Nat→Bool} (hi:fwA T w<T.nl):wrQ T w c (fwA T w):=by
 have hl:=h.t.nl
 have hn:∀ k,k<fwA T w→¬ wrA T (tW w) c k:=fun k hk=>fw_a hk
 have:wrA T (tW w) (coL T) (fwA T w):=by
  have:=fwR_hit (p:=wrA T (tW w) (coL T)) T.nl 0 (by show fwA T w<_; omega)
  exact this
 exact (wr_eq h.t (by omega) (fun k hk=>(h.c k (by omega)).1) hn).2 (wr_sk.1 this)
end Go.Proofs.Ytpdcajchppoocaa

set_option maxRecDepth 100000
namespace Go.Proofs.Ytpdcajchppoocaa
open Go Go.Lg
attribute [local irreducible] bodyH
noncomputable def rrC:Ctr:=⟨16,fun args k=>match args with
 | [x,.lst 1 n f]=>∃ (T:Tn) (w:Nat→Bool),(x=tV T∧SV.lst 1 n f=twL T.nl w∧okR T w)∧k (.tup [ruV T w,b6 T.nl,b6 0])
 | _=>False⟩
noncomputable def rrD:Ctr:=⟨16,fun args k=>match args with
 | [x,.lst 1 n f]=>∃ (T:Tn) (w:Nat→Bool),(x=tV T∧SV.lst 1 n f=twL n w∧chE T n w≠0)∧k (.tup [nlS,b6 (chH T n w),b6 (chE T n w)])
 | _=>False⟩
noncomputable def bsL (T:Tn) (w:Nat→Bool) (A B:Rs) (L H:St):Nat→Option HSpec :=
 twoL 0 { appH1 115 19 (fun i=>1≤i∧i≤A.n) (fun i=>A.n - i) T.nb 3 (fun i=>mkF 115 [(12,.ptr 1 0 0),(16,.ptr 2 0 0),(19,.sl 3 0 i),(20,b6 i)])
  (fun i=>mkX [vr 7 (tV T),vr 3 A.sv,vr 3 B.sv,rw' 5 i fun k=>.agg [b6 (A.S k).b,b6 (A.S k).f,b6 (B.S k).f,b6 (A.S k).r,.bool false]]) with fz:=true }
 (oneL 2 { (natH (fun i=>i≤A.m) (fun i=>A.m - i) 3 (fun i=>mkF 115 [(12,.ptr 1 0 0),(19,.sl 3 0 (A.n+i)),(21,b6 i)])
  (fun i=>mkX [vr 7 (tV T),vr 3 A.sv,vr 3 B.sv,rw' 5 (A.n+i) fun k=>.agg [b6 (L.bx k),b6 (L.fo k),b6 (H.fo k),b6 (L.rv k),.dec (L.n≤k) inferInstance]]) fun _=>none) with ms:=gsl 115 19,fz:=true })
noncomputable def bsG (T:Tn) (w:Nat→Bool):Prop:=funY Try.prog (ctrsF [rnC,coE,rrC] (ctrs [])) noX (ictrs []) (octrs []) (bsL T w (qA T w T.lo T.nl) (qA T w T.hi T.nl) (fsA T w (coL T)) (fsA T w (coH T 0))) noL 18 [tV T,twL T.nl w] (.tup [bdV T (fsA T w (coL T)) (fsA T w (coH T 0)),b6 0])
noncomputable def bsB (T:Tn) (n:Nat) (w:Nat→Bool):Prop:=funY Try.prog (ctrsF [rrD] (ctrs [])) noX (ictrs []) (octrs []) noL noL 18 [tV T,twL n w] (.tup [nlS,b6 (chE T n w)])
end Go.Proofs.Ytpdcajchppoocaa

set_option maxRecDepth 100000
namespace Go.Proofs.Ytpdcajchppoocaa
open Go Go.Lg
local notation "Z0"=>(0:Int)
local notation "N0"=>(0:Nat)
local notation "Z1"=>(1:Int)
local notation "N1"=>(1:Nat)
end Go.Proofs.Ytpdcajchppoocaa
