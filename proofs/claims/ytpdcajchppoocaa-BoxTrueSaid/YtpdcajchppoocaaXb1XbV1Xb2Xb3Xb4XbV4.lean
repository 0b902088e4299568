import Derived.Test.YtpdcajchppoocaaXa4Xa5Xa6Xb0
set_option linter.unusedVariables false
set_option linter.unusedSimpArgs false
set_option maxRecDepth 100000
namespace Go.Proofs.Ytpdcajchppoocaa
open Go Go.Lg
attribute [local irreducible] bodyH
noncomputable def hoz (T : Tn) (s : Rs) (h a : Int) : Prop := funY Try.prog (ctrs []) noX (ictrs []) (octrs []) (twoL 0 (hoH T s h true a) (oneL 1001 (hrH T s h true a))) noL 30 [tV T, s.sv, b6 h, .bool true, b6 a] (.tup [s.sv, b6 0, .bool false])
noncomputable def inG (n a b : Int) : Prop := funH Try.prog (ctrs []) noX (ictrs []) noL noL 45 [b6 n, b6 a, b6 b] (.dec (a ≤ n ∧ n ≤ b) inferInstance)
def inC : Ctr := ⟨45, fun args k => match args with
  | [.int .i64 n, .int .i64 a, .int .i64 b] => k (.dec (a ≤ n ∧ n ≤ b) inferInstance)
  | _ => False⟩
structure tbP (T : Tn) : Prop where
  nb : 1 ≤ T.nb ∧ T.nb ≤ 5
  rv : 0 ≤ T.rv ∧ T.rv ≤ 5
  we : 0 ≤ T.we ∧ T.we ≤ 10000
  re : 1 ≤ T.re ∧ T.re ≤ 24
  wo : 0 ≤ T.wo ∧ T.wo ≤ 1000
  ti : 0 ≤ T.ti ∧ T.ti ≤ 1000
  nl : T.nl ≤ 16
structure tbI (T : Tn) (z : Nat) : Prop where
  a : z ≤ T.nb
  t : tbP T
  b : ∀ j, j < z → vbx T (T.we * T.rv) j
structure tlI (T : Tn) (z : Nat) : Prop where
  a : z ≤ T.nl
  t : tbP T
  v : ∀ j, j < T.nb → vbx T (T.we * T.rv) j
  b : ∀ j, j < z → vlx T j
noncomputable def trG (T : Tn) : Prop := funH Try.prog (ctrs [inC]) noX (ictrs []) (twoL 0 (natH (tbI T) (fun i => T.nb - i) 1 (fun i => mkF 115 [(1, .ptr 0 0 0), (3, b6 i)]) (fun _ => mkX [vr 7 (tV T)]) fun _ => none)
  (oneL 2 (natH (tlI T) (fun i => T.nl - i) 1 (fun i => mkF 115 [(1, .ptr 0 0 0), (5, b6 i)]) (fun _ => mkX [vr 7 (tV T)]) fun _ => none))) noL 24 [tV T] (.dec (okT T) (Classical.propDecidable _))
noncomputable def trC : Ctr := ⟨24, fun args k => match args with
  | [x] => ∃ T : Tn, x = tV T ∧ k (.dec (okT T) (Classical.propDecidable _))
  | _ => False⟩
structure hoP (T : Tn) (s : Rs) (h a : Int) : Prop where
  t : okT T
  q : okQ T s
  a : 0 ≤ a ∧ a ≤ 1000000
  k : ∀ j, 1 ≤ j → j < s.m → ¬ (s.O j).k = h
  h : 0 ≤ h ∧ h ≤ 1000
  c : 0 ≤ s.c ∧ s.c ≤ 1000000
noncomputable def hoC : Ctr := ⟨30, fun args k => match args with
  | [x, y, .int .i64 h, .dec p _, .int .i64 a] => ∃ (T : Tn) (s : Rs), (x = tV T ∧ y = s.sv ∧ hoP T s h a) ∧ (¬ p → k (.tup [(nxQ T s h false a).sv, b6 (lvQ T (wtQ T s h false) a (wtQ T s h false).n), .bool true])) ∧
      (p → 2 ≤ s.n + cbQ s h → k (.tup [(nxQ T s h true a).sv, b6 (lvQ T (wtQ T s h true) a (wtQ T s h true).n), .bool true])) ∧ (p → s.n + cbQ s h < 2 → k (.tup [s.sv, b6 0, .bool false]))
  | _ => False⟩
def bgC : Ctr := ⟨29, fun args k => match args with
  | [x] => ∃ T : Tn, (x = tV T ∧ T.nb ≤ 1000) ∧ k (.agg [.lst 4 T.nb (bgF T), nlS, b6 0])
  | _ => False⟩
def rnC : Ctr := ⟨39, fun args k => match args with
  | [x] => ∃ T : Tn, (x = tV T ∧ T.nl ≤ 1000) ∧ k (.tup [.lst 1 T.nl fun j => b6 (T.lo j), .lst 1 T.nl fun j => b6 (T.hi j)])
  | _ => False⟩
noncomputable def coR (T : Tn) (w : Nat → Bool) (c : Nat → Int) : SV := .tup [.lst 1 T.nl fun i => b6 (slQ T w c i), (qA T w c T.nl).sv, b6 T.nl, .bool true]
end Go.Proofs.Ytpdcajchppoocaa

set_option maxRecDepth 100000
namespace Go.Proofs.Ytpdcajchppoocaa
open Go Go.Lg
def hoz0 (s:Rs):Prop:=(∀ (i:Nat),i<s.1→rE (4:Nat)∧(if i<(0:Nat) then (0:Int) else (s.S (i - (0:Nat))).1)=(s.S i).1∧(if i<(0:Nat) then (0:Int) else (s.S (i - (0:Nat))).2)=(s.S i).2∧(if i<(0:Nat) then (0:Int) else (s.S (i - (0:Nat))).3)=(s.S i).3∧(if i<(0:Nat) then (0:Int) else (s.S (i - (0:Nat))).4)=(s.S i).4∧True)
def hoz2 (s:Rs):Prop:=(∀ (i:Nat),i<s.1→rE ((s.S i).sv.den)∧True∧True∧True∧True∧True)
def hoz3 (s:Rs):Prop:=(∀ (i:Nat),i<s.3→rE ((s.O i).sv.den)∧True∧True∧True∧True∧True)
def hoz6 (T:Tn):Prop:=(∀ (i:Nat),i<T.1→rE ((bxV T i).den)∧True∧True∧True∧True)
def hoz7 (T:Tn):Prop:=(∀ (i:Nat),i<T.10→rE ((ldV T i).den)∧True∧True∧True)
def hoz1 (T:Tn) (s:Rs) (h:Int) (a:Int):Prop:=(True∧(True∧(0:Nat)<(1:Nat)∧True∧(∀ (i:Nat),i<s.1→rE true)∧rE (0:Nat)∧rE (0:Nat)∧(∀ (i:Nat),rE true)∧((0:Nat)+s.1)*(32:Nat)≤(140737488355328:Nat)∧(0:Nat)+s.1≤(4611686018427387904:Nat)∧True∧True∧∃ (z:Nat),True∧h=h∧rE true∧a=a∧rE (0:Nat)∧rE (0:Nat)∧rE (0:Nat)∧rE (0:Nat)∧rE (0:Nat)∧rE (0:Nat)∧rE (0:Nat)∧rE (0:Nat)∧T.1=T.1∧(hoz6 T)∧T.5=T.5∧T.6=T.6∧T.7=T.7∧T.8=T.8∧T.9=T.9∧rE T.10∧(hoz7 T)∧s.1=s.1∧(hoz2 s)∧s.3=s.3∧(hoz3 s)∧s.5=s.5∧rE (Value.slice none (0:Nat) (0:Nat))∧rE (Value.slice none (0:Nat) (0:Nat))∧rE (0:Int)∧rE (0:Nat)∧(0:Nat)+s.1=s.1∧rE (Value.slice none (0:Nat) (0:Nat))∧s.5=s.5∧s.1=(0:Nat)+s.1∧(hoz0 s)∧True)∧(True∧(∀ (i:Nat),i<s.1→rE true)∧rE (0:Nat)∧rE (0:Nat)∧(∀ (i:Nat),rE true)∧((0:Nat)+s.1)*(32:Nat)≤(140737488355328:Nat)∧(0:Nat)+s.1≤(4611686018427387904:Nat)∧True∧(0:Nat)<(1:Nat)∧True∧True∧∃ (z:Nat),True∧h=h∧rE true∧a=a∧rE (0:Nat)∧rE (0:Nat)∧rE (0:Nat)∧rE (0:Nat)∧rE (0:Nat)∧rE (0:Nat)∧rE (0:Nat)∧rE (0:Nat)∧T.1=T.1∧(hoz6 T)∧T.5=T.5∧T.6=T.6∧T.7=T.7∧T.8=T.8∧T.9=T.9∧rE T.10∧(hoz7 T)∧s.1=s.1∧(hoz2 s)∧s.3=s.3∧(hoz3 s)∧s.5=s.5∧rE (Value.slice none (0:Nat) (0:Nat))∧rE (Value.slice none (0:Nat) (0:Nat))∧rE (0:Int)∧rE (0:Nat)∧(0:Nat)+s.1=s.1∧rE (Value.slice none (0:Nat) (0:Nat))∧s.5=s.5∧s.1=(0:Nat)+s.1∧(hoz0 s)∧True)∧True)
def hoz4 (T:Tn) (s:Rs) (h:Int) (a:Int):Prop:=(True∧(∀ (i:Nat),i<s.1→rE true)∧rE (0:Nat)∧rE (0:Nat)∧(∀ (i:Nat),rE true)∧((0:Nat)+s.1)*(32:Nat)≤(140737488355328:Nat)∧(0:Nat)+s.1≤(4611686018427387904:Nat)∧True∧True∧True∧∃ (z:Nat),True∧h=h∧rE true∧a=a∧rE (0:Nat)∧rE (0:Nat)∧rE (0:Nat)∧rE (0:Nat)∧rE (0:Nat)∧rE (0:Nat)∧rE (0:Nat)∧rE (0:Nat)∧T.1=T.1∧(hoz6 T)∧T.5=T.5∧T.6=T.6∧T.7=T.7∧T.8=T.8∧T.9=T.9∧rE T.10∧(hoz7 T)∧s.1=s.1∧(hoz2 s)∧s.3=s.3∧(hoz3 s)∧s.5=s.5∧rE (Value.slice none (0:Nat) (0:Nat))∧rE (Value.slice none (0:Nat) (0:Nat))∧rE (0:Int)∧rE (0:Nat)∧(0:Nat)+s.1=s.1∧rE (Value.slice none (0:Nat) (0:Nat))∧s.5=s.5∧s.1=(0:Nat)+s.1∧(hoz0 s)∧True)
def hoz5 (T:Tn) (s:Rs) (h:Int) (a:Int):Prop:=(True∧True∧(∀ (i:Nat),i<s.1→rE true)∧rE (0:Nat)∧rE (0:Nat)∧(∀ (i:Nat),rE true)∧((0:Nat)+s.1)*(32:Nat)≤(140737488355328:Nat)∧(0:Nat)+s.1≤(4611686018427387904:Nat)∧True∧True∧∃ (z:Nat),True∧h=h∧rE true∧a=a∧rE (0:Nat)∧rE (0:Nat)∧rE (0:Nat)∧rE (0:Nat)∧rE (0:Nat)∧rE (0:Nat)∧rE (0:Nat)∧rE (0:Nat)∧T.1=T.1∧(hoz6 T)∧T.5=T.5∧T.6=T.6∧T.7=T.7∧T.8=T.8∧T.9=T.9∧rE T.10∧(hoz7 T)∧s.1=s.1∧(hoz2 s)∧s.3=s.3∧(hoz3 s)∧s.5=s.5∧rE (Value.slice none (0:Nat) (0:Nat))∧rE (Value.slice none (0:Nat) (0:Nat))∧rE (0:Int)∧rE (0:Nat)∧(0:Nat)+s.1=s.1∧rE (Value.slice none (0:Nat) (0:Nat))∧s.5=s.5∧s.1=(0:Nat)+s.1∧(hoz0 s)∧True)
def hoz8 (s:Rs) (h:Int) (z:Nat) (z_1:Nat):Prop:=(∀ (i_2:Nat),i_2<nQ s h z_1→rE (4:Nat)∧(if i_2<nQ s h z then (S1 s i_2).1 else (s.O (↑z:Int).toNat).1)=(S1 s i_2).1∧(if i_2<nQ s h z then (S1 s i_2).2 else (s.O (↑z:Int).toNat).2)=(S1 s i_2).2∧(if i_2<nQ s h z then (S1 s i_2).3 else (s.O (↑z:Int).toNat).3)=(S1 s i_2).3∧(if i_2<nQ s h z then (S1 s i_2).4 else (s.O (↑z:Int).toNat).4)=(S1 s i_2).4∧True)
theorem hoz_vc (T:Tn) (s:Rs) (h:Int) (a:Int):hoz T s h a=((True∧True∧True∧(0:Nat)<(1:Nat)∧(True∧(0:Nat)<(1:Nat)∧(True∧(hoz4 T s h a)∧(hoz5 T s h a)∧True)∧(True∧True∧True∧(∀ (i:Nat),i<s.1→rE true)∧rE (0:Nat)∧rE (0:Nat)∧(∀ (i:Nat),rE true)∧((0:Nat)+s.1)*(32:Nat)≤(140737488355328:Nat)∧(0:Nat)+s.1≤(4611686018427387904:Nat)∧True∧True∧∃ (z:Nat),True∧h=h∧rE true∧a=a∧rE (0:Nat)∧rE (0:Nat)∧rE (0:Nat)∧rE (0:Nat)∧rE (0:Nat)∧rE (0:Nat)∧rE (0:Nat)∧rE (0:Nat)∧T.1=T.1∧(hoz6 T)∧T.5=T.5∧T.6=T.6∧T.7=T.7∧T.8=T.8∧T.9=T.9∧rE T.10∧(hoz7 T)∧s.1=s.1∧(hoz2 s)∧s.3=s.3∧(hoz3 s)∧s.5=s.5∧rE (Value.slice none (0:Nat) (0:Nat))∧rE (Value.slice none (0:Nat) (0:Nat))∧rE (0:Int)∧rE (0:Nat)∧(0:Nat)+s.1=s.1∧rE (Value.slice none (0:Nat) (0:Nat))∧s.5=s.5∧s.1=(0 :
Nat)+s.1∧(hoz0 s)∧True)∧True)∧(True∧(True∧(0:Nat)<(1:Nat)∧(hoz4 T s h a)∧(hoz5 T s h a)∧True)∧(True∧(∀ (i:Nat),i<s.1→rE true)∧rE (0:Nat)∧rE (0:Nat)∧(∀ (i:Nat),rE true)∧((0:Nat)+s.1)*(32:Nat)≤(140737488355328:Nat)∧(0:Nat)+s.1≤(4611686018427387904:Nat)∧True∧(0:Nat)<(1:Nat)∧True∧True∧True∧∃ (z:Nat),True∧h=h∧rE true∧a=a∧rE (0:Nat)∧rE (0:Nat)∧rE (0:Nat)∧rE (0:Nat)∧rE (0:Nat)∧rE (0:Nat)∧rE (0:Nat)∧rE (0:Nat)∧T.1=T.1∧(hoz6 T)∧T.5=T.5∧T.6=T.6∧T.7=T.7∧T.8=T.8∧T.9=T.9∧rE T.10∧(hoz7 T)∧s.1=s.1∧(hoz2 s)∧s.3=s.3∧(hoz3 s)∧s.5=s.5∧rE (Value.slice none (0:Nat) (0:Nat))∧rE (Value.slice none (0:Nat) (0:Nat))∧rE (0:Int)∧rE (0:Nat)∧(0:Nat)+s.1=s.1∧rE (Value.slice none (0:Nat) (0:Nat))∧s.5 =
s.5∧s.1=(0:Nat)+s.1∧(hoz0 s)∧True)∧(hoz1 T s h a)∧True)∧(True∧(True∧(0:Nat)<(1:Nat)∧True∧True∧(∀ (i:Nat),i<s.1→rE true)∧rE (0:Nat)∧rE (0:Nat)∧(∀ (i:Nat),rE true)∧((0:Nat)+s.1)*(32:Nat)≤(140737488355328:Nat)∧(0:Nat)+s.1≤(4611686018427387904:Nat)∧True∧True∧∃ (z:Nat),True∧h=h∧rE true∧a=a∧rE (0:Nat)∧rE (0:Nat)∧rE (0:Nat)∧rE (0:Nat)∧rE (0:Nat)∧rE (0:Nat)∧rE (0:Nat)∧rE (0:Nat)∧T.1=T.1∧(hoz6 T)∧T.5=T.5∧T.6=T.6∧T.7=T.7∧T.8=T.8∧T.9=T.9∧rE T.10∧(hoz7 T)∧s.1=s.1∧(hoz2 s)∧s.3=s.3∧(hoz3 s)∧s.5=s.5∧rE (Value.slice none (0:Nat) (0:Nat))∧rE (Value.slice none (0:Nat) (0:Nat))∧rE (0:Int)∧rE (0:Nat)∧(0:Nat)+s.1=s.1∧rE (Value.slice none (0:Nat) (0:Nat))∧s.5=s.5∧s.1=(0:Nat)+s.1∧(hoz0 s) ∧
True)∧(hoz1 T s h a)∧True)∧True)∧∀ (z:Nat),True→(∃ (z:Nat),(hoI s h z∧z≤cbQ s h)∧h=h∧rE true∧a=a∧rE (0:Nat)∧rE (0:Nat)∧rE (0:Nat)∧rE (0:Nat)∧rE (0:Nat)∧rE (0:Nat)∧rE (0:Nat)∧rE (0:Nat)∧(0:Int)=(↑z:Int)∧T.1=T.1∧(hoz6 T)∧T.5=T.5∧T.6=T.6∧T.7=T.7∧T.8=T.8∧T.9=T.9∧rE T.10∧(hoz7 T)∧s.1=s.1∧(hoz2 s)∧s.3=s.3∧(hoz3 s)∧s.5=s.5∧rE (Value.slice none (0:Nat) (0:Nat))∧rE (Value.slice none (0:Nat) (0:Nat))∧rE (0:Int)∧rE (0:Nat)∧s.1=nQ s h z∧rE (Value.slice none (0:Nat) (0:Nat))∧s.5=s.5∧nQ s h z=s.1∧(∀ (i_1:Nat),i_1<nQ s h z→rE (4:Nat)∧(s.S i_1).1=(S1 s i_1).1∧(s.S i_1).2=(S1 s i_1).2∧(s.S i_1).3=(S1 s i_1).3∧(s.S i_1).4=(S1 s i_1).4∧True)∧True)∧(∀ (z:Nat),hoI s h z∧z≤cbQ s h→(0:Nat)<(1:Nat)∧((↑z:Int)
< (↑s.3:Int)→(0:Nat)<(1:Nat)∧(0:Int)≤(↑z:Int)∧(↑z:Int)<(↑s.3:Int)∧((s.O (↑z:Int).toNat).4=h→(0:Nat)<(1:Nat)∧(0:Nat)<(1:Nat)∧(0:Int)≤(↑z:Int)∧(↑z:Int)<(↑s.3:Int)∧True∧(∀ (i:Nat),i<(1:Nat)→rE true)∧rE (0:Nat)∧rE (nQ s h z)∧(∀ (i:Nat),rE true)∧(nQ s h z+(1:Nat))*(32:Nat)≤(140737488355328:Nat)∧nQ s h z+(1:Nat)≤(4611686018427387904:Nat)∧rI ((↑z:Int)+(1:Int))∧∃ (z_1:Nat),(hoI s h z_1∧z_1≤cbQ s h)∧s.3 - z_1<s.3 - z∧h=h∧rE true∧a=a∧rE (0:Nat)∧rE (0:Nat)∧rE (0:Nat)∧rE (0:Nat)∧rE (0:Nat)∧rE (0:Nat)∧rE (0:Nat)∧rE (0:Nat)∧(↑z:Int)+(1:Int)=(↑z_1:Int)∧T.1=T.1∧(hoz6 T)∧T.5=T.5∧T.6=T.6∧T.7=T.7∧T.8=T.8∧T.9=T.9∧rE T.10∧(hoz7 T)∧s.1=s.1∧(hoz2 s)∧s.3=s.3∧(hoz3 s)∧s.5=s.5∧rE
(Value.slice none (0:Nat) (0:Nat))∧rE (Value.slice none (0:Nat) (0:Nat))∧rE (0:Int)∧rE (0:Nat)∧nQ s h z+(1:Nat)=nQ s h z_1∧rE (Value.slice none (0:Nat) (0:Nat))∧s.5=s.5∧nQ s h z_1=nQ s h z+(1:Nat)∧(hoz8 s h z z_1)∧True)∧(¬(s.O (↑z:Int).toNat).4=h→(0:Nat)<(1:Nat)∧(0:Nat)<(1:Nat)∧(0:Int)≤(↑z:Int)∧(↑z:Int)<(↑s.3:Int)∧True∧(∀ (i:Nat),i<(1:Nat)→rE true)∧(1:Nat)*(32:Nat)≤(140737488355328:Nat)∧(1:Nat)≤(4611686018427387904:Nat)∧rI ((↑z:Int)+(1:Int))∧∃ (z_1:Nat),(hoI s h z_1∧cbQ s h<z_1)∧s.3 - z_1<s.3 - z∧h=h∧rE true∧a=a∧rE (0:Nat)∧rE (0:Nat)∧rE (0:Nat)∧rE (0:Nat)∧rE (0:Nat)∧rE (0:Nat)∧rE (0:Nat)∧rE (0:Nat)∧(↑z:Int)+(1:Int)=(↑z_1:Int)∧T.1=T.1∧(hoz6 T)∧T.5=T.5∧T.6=T.6∧T.7=T.7∧T.8=T.8
∧ T.9=T.9∧rE T.10∧(hoz7 T)∧s.1=s.1∧(hoz2 s)∧s.3=s.3∧(hoz3 s)∧s.5=s.5∧rE (Value.slice none (0:Nat) (0:Nat))∧rE (Value.slice none (0:Nat) (0:Nat))∧rE (0:Int)∧rE (0:Nat)∧nQ s h z=nQ s h z_1∧rE (0:Nat)∧(1:Nat)=z_1 - cbQ s h∧s.5=s.5∧nQ s h z_1=nQ s h z∧(∀ (i_2:Nat),i_2<nQ s h z_1→rE (4:Nat)∧rE ((S1 s i_2).1)∧rE ((S1 s i_2).2)∧rE ((S1 s i_2).3)∧rE ((S1 s i_2).4)∧True)∧z_1 - cbQ s h=(1:Nat)∧(∀ (i_2:Nat),i_2<z_1 - cbQ s h→rE (4:Nat)∧(s.O (↑z:Int).toNat).1=(O1 s h i_2).1∧(s.O (↑z:Int).toNat).2=(O1 s h i_2).2∧(s.O (↑z:Int).toNat).3=(O1 s h i_2).3∧(s.O (↑z:Int).toNat).4=(O1 s h i_2).4∧True)∧True))∧(¬(↑z:Int)<(↑s.3:Int)→(0:Nat)<(1:Nat)∧((↑(nQ s h z):Int)<(2:Int)→(0:Nat)<(1:Nat)∧(0:Nat)<(1:Nat)∧s.1=s.1∧(hoz2 s)∧s.3=s.3 ∧
(hoz3 s)∧s.5=s.5∧rE (0:Int)∧rE false∧True)∧(¬(↑(nQ s h z):Int)<(2:Int)→(0:Nat)<(1:Nat)∧(0:Int)≤(0:Int)∧(0:Int)<(↑(nQ s h z):Int)∧(0:Nat)+Int.toNat (0:Int)<nQ s h z∧(0:Nat)<(1:Nat)∧rI (h+T.7)∧(0:Nat)<(1:Nat)∧(0:Nat)<(1:Nat)∧((S1 s ((0:Nat)+Int.toNat (0:Int))).3<T.6→(0:Nat)<(1:Nat)∧rI ((S1 s ((0:Nat)+Int.toNat (0:Int))).3+(1:Int))∧(0:Nat)<(1:Nat)∧(0:Nat)<(1:Nat)∧rI (s.5+T.8)∧(0:Nat)<(1:Nat)∧(0:Int)≤(1:Int)∧(1:Int)≤(↑(nQ s h z):Int)∧(↑(nQ s h z):Int)≤(↑(nQ s h z):Int)∧(0:Nat)<(1:Nat)∧(0:Nat)<(1:Nat)∧True∧(∀ (i:Nat),i<(1:Nat)→rE true)∧(1:Nat)*(32:Nat)≤(140737488355328:Nat)∧(1:Nat)≤(4611686018427387904:Nat)∧False)∧(¬(S1 s ((0:Nat)+Int.toNat (0:Int))).3<T.6→(0:Nat) <
(1:Nat)∧(0:Nat)<(1:Nat)∧rI (s.5+T.9)∧(0:Nat)<(1:Nat)∧(0:Int)≤(1:Int)∧(1:Int)≤(↑(nQ s h z):Int)∧(↑(nQ s h z):Int)≤(↑(nQ s h z):Int)∧(0:Nat)<(1:Nat)∧(0:Nat)<(1:Nat)∧True∧(∀ (i:Nat),i<(1:Nat)→rE true)∧(1:Nat)*(32:Nat)≤(140737488355328:Nat)∧(1:Nat)≤(4611686018427387904:Nat)∧False))))∧∀ (z:Nat),hoI s h z∧cbQ s h<z→(0:Nat)<(1:Nat)∧((↑z:Int)<(↑s.3:Int)→(0:Nat)<(1:Nat)∧(0:Int)≤(↑z:Int)∧(↑z:Int)<(↑s.3:Int)∧((s.O (↑z:Int).toNat).4=h→(0:Nat)<(1:Nat)∧(0:Nat)<(1:Nat)∧(0:Int)≤(↑z:Int)∧(↑z:Int)<(↑s.3:Int)∧True∧(∀ (i:Nat),i<(1:Nat)→rE true)∧rE (0:Nat)∧rE (nQ s h z)∧(∀ (i:Nat),rE true)∧(nQ s h z+(1:Nat))*(32:Nat)≤(140737488355328:Nat)∧nQ s h z+(1:Nat)≤(4611686018427387904 :
Nat)∧rI ((↑z:Int)+(1:Int))∧∃ (z_1:Nat),(hoI s h z_1∧cbQ s h<z_1)∧s.3 - z_1<s.3 - z∧h=h∧rE true∧a=a∧rE (0:Nat)∧rE (0:Nat)∧rE (0:Nat)∧rE (0:Nat)∧rE (0:Nat)∧rE (0:Nat)∧rE (0:Nat)∧rE (0:Nat)∧(↑z:Int)+(1:Int)=(↑z_1:Int)∧T.1=T.1∧(hoz6 T)∧T.5=T.5∧T.6=T.6∧T.7=T.7∧T.8=T.8∧T.9=T.9∧rE T.10∧(hoz7 T)∧s.1=s.1∧(hoz2 s)∧s.3=s.3∧(hoz3 s)∧s.5=s.5∧rE (Value.slice none (0:Nat) (0:Nat))∧rE (Value.slice none (0:Nat) (0:Nat))∧rE (0:Int)∧rE (0:Nat)∧nQ s h z+(1:Nat)=nQ s h z_1∧rE (0:Nat)∧z - cbQ s h=z_1 - cbQ s h∧s.5=s.5∧nQ s h z_1=nQ s h z+(1:Nat)∧(hoz8 s h z z_1)∧z_1 - cbQ s h=z - cbQ s h∧(∀ (i_2:Nat),i_2<z_1 - cbQ s h→rE (4:Nat)∧rE ((O1 s h i_2).1)∧rE ((O1 s h i_2).2)∧rE ((O1 s h i_2).3)∧rE ((O1 s h i_2).4)∧True) ∧
True)∧(¬(s.O (↑z:Int).toNat).4=h→(0:Nat)<(1:Nat)∧(0:Nat)<(1:Nat)∧(0:Int)≤(↑z:Int)∧(↑z:Int)<(↑s.3:Int)∧True∧(∀ (i:Nat),i<(1:Nat)→rE true)∧rE (0:Nat)∧rE (z - cbQ s h)∧(∀ (i:Nat),rE true)∧(z - cbQ s h+(1:Nat))*(32:Nat)≤(140737488355328:Nat)∧z - cbQ s h+(1:Nat)≤(4611686018427387904:Nat)∧rI ((↑z:Int)+(1:Int))∧∃ (z_1:Nat),(hoI s h z_1∧cbQ s h<z_1)∧s.3 - z_1<s.3 - z∧h=h∧rE true∧a=a∧rE (0:Nat)∧rE (0:Nat)∧rE (0:Nat)∧rE (0:Nat)∧rE (0:Nat)∧rE (0:Nat)∧rE (0:Nat)∧rE (0:Nat)∧(↑z:Int)+(1:Int)=(↑z_1:Int)∧T.1=T.1∧(hoz6 T)∧T.5=T.5∧T.6=T.6∧T.7=T.7∧T.8=T.8∧T.9=T.9∧rE T.10∧(hoz7 T)∧s.1=s.1∧(hoz2 s)∧s.3=s.3∧(hoz3 s)∧s.5=s.5∧rE (Value.slice none (0:Nat) (0:Nat))∧rE (Value.slice none (0:Nat) (0 :
Nat))∧rE (0:Int)∧rE (0:Nat)∧nQ s h z=nQ s h z_1∧rE (0:Nat)∧z - cbQ s h+(1:Nat)=z_1 - cbQ s h∧s.5=s.5∧nQ s h z_1=nQ s h z∧(∀ (i_2:Nat),i_2<nQ s h z_1→rE (4:Nat)∧rE ((S1 s i_2).1)∧rE ((S1 s i_2).2)∧rE ((S1 s i_2).3)∧rE ((S1 s i_2).4)∧True)∧z_1 - cbQ s h=z - cbQ s h+(1:Nat)∧(∀ (i_2:Nat),i_2<z_1 - cbQ s h→rE (4:Nat)∧(if i_2<z - cbQ s h then (O1 s h i_2).1 else (s.O (↑z:Int).toNat).1)=(O1 s h i_2).1∧(if i_2<z - cbQ s h then (O1 s h i_2).2 else (s.O (↑z:Int).toNat).2)=(O1 s h i_2).2∧(if i_2<z - cbQ s h then (O1 s h i_2).3 else (s.O (↑z:Int).toNat).3)=(O1 s h i_2).3∧(if i_2<z - cbQ s h then (O1 s h i_2).4 else (s.O (↑z:Int).toNat).4)=(O1 s h i_2).4∧True)∧True))∧(¬(↑z:Int)<(↑s.3:Int)→(0:Nat)<(1:Nat)∧((↑(nQ s h z):Int)<(2:Int)→(0:Nat)<(1:Nat)∧(0:Nat) <
(1:Nat)∧s.1=s.1∧(hoz2 s)∧s.3=s.3∧(hoz3 s)∧s.5=s.5∧rE (0:Int)∧rE false∧True)∧(¬(↑(nQ s h z):Int)<(2:Int)→(0:Nat)<(1:Nat)∧(0:Int)≤(0:Int)∧(0:Int)<(↑(nQ s h z):Int)∧(0:Nat)+Int.toNat (0:Int)<nQ s h z∧(0:Nat)<(1:Nat)∧rI (h+T.7)∧(0:Nat)<(1:Nat)∧(0:Nat)<(1:Nat)∧((S1 s ((0:Nat)+Int.toNat (0:Int))).3<T.6→(0:Nat)<(1:Nat)∧rI ((S1 s ((0:Nat)+Int.toNat (0:Int))).3+(1:Int))∧(0:Nat)<(1:Nat)∧(0:Nat)<(1:Nat)∧rI (s.5+T.8)∧(0:Nat)<(1:Nat)∧(0:Int)≤(1:Int)∧(1:Int)≤(↑(nQ s h z):Int)∧(↑(nQ s h z):Int)≤(↑(nQ s h z):Int)∧(0:Nat)<(1:Nat)∧(0:Nat)<(1:Nat)∧True∧(∀ (i:Nat),i<(1:Nat)→rE true)∧rE (0:Nat)∧rE (z - cbQ s h)∧(∀ (i:Nat),rE true)∧(z - cbQ s h+(1:Nat))*(32:Nat)≤(140737488355328 :
Nat)∧z - cbQ s h+(1:Nat)≤(4611686018427387904:Nat)∧False)∧(¬(S1 s ((0:Nat)+Int.toNat (0:Int))).3<T.6→(0:Nat)<(1:Nat)∧(0:Nat)<(1:Nat)∧rI (s.5+T.9)∧(0:Nat)<(1:Nat)∧(0:Int)≤(1:Int)∧(1:Int)≤(↑(nQ s h z):Int)∧(↑(nQ s h z):Int)≤(↑(nQ s h z):Int)∧(0:Nat)<(1:Nat)∧(0:Nat)<(1:Nat)∧True∧(∀ (i:Nat),i<(1:Nat)→rE true)∧rE (0:Nat)∧rE (z - cbQ s h)∧(∀ (i:Nat),rE true)∧(z - cbQ s h+(1:Nat))*(32:Nat)≤(140737488355328:Nat)∧z - cbQ s h+(1:Nat)≤(4611686018427387904:Nat)∧False)))):=by kernel_rfl
theorem trG_vc (T:Tn):trG T=((0:Nat)<(1:Nat)∧(¬((1:Int)≤(↑T.1:Int)∧(↑T.1:Int)≤(5:Int))→(false=true↔okT T)∧True)∧(¬¬((1:Int)≤(↑T.1:Int)∧(↑T.1:Int)≤(5:Int))→(0:Nat)<(1:Nat)∧(¬((0:Int)≤T.6∧T.6≤(5:Int))→(false=true↔okT T)∧True)∧(¬¬((0:Int)≤T.6∧T.6≤(5:Int))→(0:Nat)<(1:Nat)∧(¬((0:Int)≤T.5∧T.5≤(10000:Int))→(false=true↔okT T)∧True)∧(¬¬((0:Int)≤T.5∧T.5≤(10000:Int))→(0:Nat)<(1:Nat)∧(¬((1:Int)≤T.7∧T.7≤(24:Int))→(false=true↔okT T)∧True)∧(¬¬((1:Int)≤T.7∧T.7≤(24:Int))→(0:Nat)<(1:Nat)∧(¬((0:Int)≤T.8∧T.8≤(1000:Int))→(false=true↔okT T)∧True)∧(¬¬((0:Int)≤T.8∧T.8≤(1000:Int))→(0:Nat)<(1:Nat)∧(¬((0:Int)≤T.9∧T.9≤(1000:Int))→(false=true↔okT T)∧True)∧(¬¬((0:Int)≤T.9∧T.9≤(1000:Int))→(0:Nat)<(1:Nat)∧((16:Int)<(↑T.10:Int)→(false=true↔okT T)∧True)∧(¬(16:Int)<(↑T.10:Int)→(∃ (z:Nat),tbI T z∧rE (0:Nat)∧rE (0:Nat)∧(0:Int)=(↑z:Int)∧T.1=T.1∧(∀ (i:Nat),i<T.1→rE ((bxV T i).den)∧True∧True∧True∧True)∧T.5=T.5∧T.6=T.6∧T.7=T.7∧T.8=T.8∧T.9=T.9∧rE T.10∧(∀ (i:Nat),i<T.10→rE ((ldV T i).den)∧True∧True∧True)∧True)∧∀ (z:Nat),tbI T z→(0:Nat)<(1:Nat)∧((↑z:Int)<(↑T.1:Int)→(0:Nat)<(1:Nat)∧(0:Int)≤(↑z:Int)∧(↑z:Int)<(↑T.1:Int)∧(0:Nat)<(1:Nat)∧(¬((1:Int)≤T.2 (↑z:Int).toNat∧T.2 (↑z:Int).toNat≤(10000:Int))→(false=true↔okT T)∧True)∧(¬¬((1:Int)≤T.2 (↑z:Int).toNat∧T.2 (↑z:Int).toNat≤(10000:Int))→(0:Nat)<(1:Nat)∧(¬((1:Int)≤T.3 (↑z:Int).toNat∧T.3 (↑z:Int).toNat≤(10000:Int))→(false=true↔okT T)∧True)∧(¬¬((1:Int)≤T.3 (↑z:Int).toNat∧T.3 (↑z:Int).toNat≤(10000:Int))→(0:Nat)<(1:Nat)∧(0:Nat)<(1:Nat)∧(¬((0:Int)≤T.4 (↑z:Int).toNat∧T.4 (↑z:Int).toNat≤T.2 (↑z:Int).toNat)→(false=true↔okT T)∧True)∧(¬¬((0:Int)≤T.4 (↑z:Int).toNat∧T.4 (↑z:Int).toNat≤T.2 (↑z:Int).toNat)→(0:Nat)<(1:Nat)∧(0:Nat)<(1:Nat)∧rI (T.5*T.6)∧(0:Nat)<(1:Nat)∧(T.2 (↑z:Int).toNat≤T.5*T.6→(false=true↔okT T)∧True)∧(¬T.2 (↑z:Int).toNat≤T.5*T.6→rI ((↑z:Int)+(1:Int))∧∃ (z_1:Nat),tbI T z_1∧T.1 - z_1<T.1 - z∧rE (0:Nat)∧rE (0:Nat)∧(↑z:Int)+(1:Int)=(↑z_1:Int)∧T.1=T.1∧(∀ (i:Nat),i<T.1→rE ((bxV T i).den)∧True∧True∧True∧True)∧T.5=T.5∧T.6=T.6∧T.7=T.7∧T.8=T.8∧T.9=T.9∧rE T.10∧(∀ (i:Nat),i<T.10→rE ((ldV T i).den)∧True∧True∧True)∧True)))))∧(¬(↑z:Int)<(↑T.1:Int)→(∃ (z:Nat),tlI T z∧rE (0:Nat)∧rE (0:Nat)∧(0:Int)=(↑z:Int)∧T.1=T.1∧(∀ (i:Nat),i<T.1→rE ((bxV T i).den)∧True∧True∧True∧True)∧T.5=T.5∧T.6=T.6∧T.7=T.7∧T.8=T.8∧T.9=T.9∧rE T.10∧(∀ (i:Nat),i<T.10→rE ((ldV T i).den)∧True∧True∧True)∧True)∧∀ (z:Nat),tlI T z→(0:Nat)<(1:Nat)∧((↑z:Int)<(↑T.10:Int)→(0:Nat)<(1:Nat)∧(0:Int)≤(↑z:Int)∧(↑z:Int)<(↑T.10:Int)∧(0:Nat)<(1:Nat)∧(T.11 (↑z:Int).toNat<(0:Int)→(false=true↔okT T)∧True)∧(¬T.11 (↑z:Int).toNat<(0:Int)→(0:Nat)<(1:Nat)∧(0:Nat)<(1:Nat)∧(T.12 (↑z:Int).toNat<T.11 (↑z:Int).toNat→(false=true↔okT T)∧True)∧(¬T.12 (↑z:Int).toNat<T.11 (↑z:Int).toNat→(0:Nat)<(1:Nat)∧((10000:Int)<T.12 (↑z:Int).toNat→(false=true↔okT T)∧True)∧(¬(10000:Int)<T.12 (↑z:Int).toNat→rI ((↑z:Int)+(1:Int))∧∃ (z_1:Nat),tlI T z_1∧T.10 - z_1<T.10 - z∧rE (0:Nat)∧rE (0:Nat)∧(↑z:Int)+(1:Int)=(↑z_1:Int)∧T.1=T.1∧(∀ (i:Nat),i<T.1→rE ((bxV T i).den)∧True∧True∧True∧True)∧T.5=T.5∧T.6=T.6∧T.7=T.7∧T.8=T.8∧T.9=T.9∧rE T.10∧(∀ (i:Nat),i<T.10→rE ((ldV T i).den)∧True∧True∧True)∧True))))∧(¬(↑z:Int)<(↑T.10:Int)→(rE true↔okT T)∧True)))))))))):=by kernel_rfl
theorem inG_vc (n:Int) (a:Int) (b:Int):inG n a b=((a≤n→(n≤b↔a≤n∧n≤b)∧True)∧(¬a≤n→(false=true↔a≤n∧n≤b)∧True)):=by kernel_rfl
end Go.Proofs.Ytpdcajchppoocaa

set_option maxRecDepth 100000
namespace Go.Proofs.Ytpdcajchppoocaa
open Go Go.Lg
attribute [local irreducible] bodyH
theorem hoz_true {T:Tn} {s:Rs} {h a:Int} (p:hoP T s h a) (hlt:s.n+cbQ s h<2):hoz T s h a:=by
 rw [hoz_vc]
 simp only [hoz0,hoz1,hoz2,hoz3,hoz4,hoz5,hoz6,hoz7,hoz8,rI,rE,tt3,tt4,tt5,tt13,tt14,rI,rE,tt3,tt4,tt5,tt13,tt14,and_true,true_and,Nat.zero_lt_one,and_self,implies_true,Int.toNat_natCast,Nat.zero_add,Nat.add_zero,Nat.one_mul,Nat.mul_one,Classical.not_not,iff_self,Bool.false_eq_true,imp_false,and_imp,true_implies,forall_const]
 have hk:=p.k
 have hnb:=p.t.nb
 have hnm:=p.q.n
 have hc1:=cb_le1 s h
 have I:∀ z,z≤s.m→hoI s h z:=fun z hz=>⟨hz,by omega,by omega,hk⟩
 have nq:∀ z,nQ s h z=s.n+min z (cbQ s h):=fun z=>rfl
 have S1n:∀ i,i<s.n→S1 s i=s.S i:=fun i hi=>by unfold S1; rw [if_pos hi]
 have S1o:∀ i,¬ i<s.n→S1 s i=s.O 0:=fun i hi=>by unfold S1; rw [if_neg hi]
 refine ⟨⟨by omega,by omega,0,fun i hi=>by simp⟩,⟨0,⟨I 0 (by omega),by omega⟩,rfl,by rw [nq]; omega,by rw [nq]; omega,fun i hi=>?_⟩,fun z hz hzc=>⟨fun hl=>⟨by omega,hl,fun he=>?_,fun he=>?_⟩,fun hl h2=>by rw [nq] at h2; omega⟩,fun z hz hzc=>⟨fun hl=>⟨by omega,hl,fun he=>?_,fun he=>?_⟩,fun hl h2=>by rw [nq] at h2; omega⟩⟩
 ·rw [nq] at hi
  rw [S1n i (by omega)]
  exact ⟨rfl,rfl,rfl,rfl⟩
 ·have z0:z=0:=by
   rcases Nat.eq_zero_or_pos z with e | e
   ·exact e
   ·exact absurd he (hk z e (by omega))
  subst z0
  have c1:=cb_one (by omega) he
  have n0:=nq 0
  have n1:=nq 1
  refine ⟨by omega,hl,by omega,by omega,by omega,1,⟨I 1 (by omega),by omega⟩,by omega,by omega,by omega,by omega,fun i hi=>?_⟩
  by_cases e:i<nQ s h 0
  ·simp only [if_pos e,and_self]
  ·simp only [if_neg e]
   rw [S1o i (by omega)]
   exact ⟨rfl,rfl,rfl,rfl⟩
 ·have zc:z=cbQ s h:=by
   rcases Nat.eq_zero_or_pos z with e | e
   ·subst e
    rcases Nat.eq_zero_or_pos (cbQ s h) with e | e
    ·exact e.symm
    ·exact absurd (cb_k (by omega)) he
   ·omega
  have n0:=nq z
  have n1:=nq (z+1)
  refine ⟨by omega,hl,by omega,by omega,by omega,z+1,⟨I (z+1) (by omega),by omega⟩,by omega,by omega,by omega,by omega,by omega,by omega,fun i hi=>?_⟩
  obtain rfl:i=0:=by omega
  have:O1 s h 0=s.O z:=by unfold O1; rw [zc,Nat.zero_add]
  rw [this]
  exact ⟨rfl,rfl,rfl,rfl⟩
 ·exact absurd he (hk z (by omega) (by omega))
 ·have n0:=nq z
  have n1:=nq (z+1)
  refine ⟨by omega,hl,by omega,by omega,by omega,z+1,⟨I (z+1) (by omega),by omega⟩,by omega,by omega,by omega,by omega,by omega,by omega,fun i hi=>?_⟩
  by_cases e:i<z - cbQ s h
  ·simp only [if_pos e,and_self]
  ·simp only [if_neg e]
   have:O1 s h i=s.O z:=by unfold O1; rw [show i+cbQ s h=z by omega]
   rw [this]
   exact ⟨rfl,rfl,rfl,rfl⟩
theorem in_true (n a b:Int):inG n a b:=by
 rw [inG_vc]
 simp only [rI,rE,tt3,tt4,tt5,tt13,tt14,rI,rE,tt3,tt4,tt5,tt13,tt14,and_true,true_and,implies_true]
 exact ⟨fun h=>⟨fun h1=>⟨h,h1⟩,fun h1=>h1.2⟩,fun h=>noF fun h1=>h h1.1⟩
theorem in_ok:inC.Ok Try.prog:=by
 refine ⟨by kernel_rfl,fun args k hk=>?_⟩
 simp only [inC] at hk
 split at hk
 ·exact ⟨_,Does.plain (funH_does nil_cs nil_x nil_ic mixed (in_true _ _ _)) trivial,hk⟩
 ·exact hk.elim
theorem okT_iff {T:Tn}:okT T↔tbP T∧(∀ j,j<T.nb→vbx T (T.we*T.rv) j)∧∀ j,j<T.nl→vlx T j :=
 ⟨fun h=>⟨⟨h.nb,h.rv,h.we,h.re,h.wo,h.ti,h.nl⟩,fun j hj=>by have:=h.bx j hj; exact ⟨⟨this.1,this.2.1⟩,⟨this.2.2.1,this.2.2.2.1⟩,⟨this.2.2.2.2.1,this.2.2.2.2.2.1⟩,this.2.2.2.2.2.2⟩,fun j hj=>by have:=h.ld j hj; exact ⟨by omega,by omega,by omega⟩⟩,
 fun ⟨h,hb,hl⟩=>⟨h.nb,h.rv,h.we,h.re,h.wo,h.ti,h.nl,fun j hj=>by have h1:=(hb j hj).a; have h2:=(hb j hj).b; have h3:=(hb j hj).c; exact ⟨h1.1,h1.2,h2.1,h2.2,h3.1,h3.2,(hb j hj).d⟩,fun j hj=>by have h1:=(hl j hj).a; have h2:=(hl j hj).b; have h3:=(hl j hj).c; omega⟩⟩
theorem tr_true (T:Tn):trG T:=by
 rw [trG_vc]
 simp only [rI,rE,tt3,tt4,tt5,tt13,tt14,rI,rE,tt3,tt4,tt5,tt13,tt14,and_true,true_and,Nat.zero_lt_one,and_self,implies_true,Int.toNat_natCast,Nat.zero_add,Nat.add_zero,Nat.one_mul,Nat.mul_one,Classical.not_not,iff_self,imp_false,and_imp,true_implies,forall_const]
 refine ⟨fun h=>noF fun o=>h (by have:=o.nb; omega),fun a1 a2=>⟨fun h=>noF fun o=>h o.rv,fun a3 a4=>⟨fun h=>noF fun o=>h o.we,fun a5 a6=>⟨fun h=>noF fun o=>h o.re,fun a7 a8=>⟨fun h=>noF fun o=>h o.wo,fun b1 b2=>⟨fun h=>noF fun o=>h o.ti,fun b3 b4=>⟨fun h=>noF fun o=>by have:=o.nl; omega,fun b5=>?_⟩⟩⟩⟩⟩⟩⟩
 have P:tbP T:=⟨by omega,⟨a3,a4⟩,⟨a5,a6⟩,⟨a7,a8⟩,⟨b1,b2⟩,⟨b3,b4⟩,by omega⟩
 refine ⟨⟨0,⟨Nat.zero_le _,P,fun j hj=>(Nat.not_lt_zero j hj).elim⟩,rfl⟩,fun z hz=>⟨fun hl=>?_,fun hl=>⟨⟨0,⟨Nat.zero_le _,P,?_,fun j hj=>(Nat.not_lt_zero j hj).elim⟩,rfl⟩,fun y hy=>⟨fun hl=>?_,fun hl=>?_⟩⟩⟩⟩
 ·have hlt:z<T.nb:=by omega
  have V:okT T→vbx T (T.we*T.rv) z:=fun o=>(okT_iff.1 o).2.1 z hlt
  have hm:-9223372036854775808≤T.we*T.rv∧T.we*T.rv≤9223372036854775807:=by
   have h1:0≤T.we*T.rv:=Int.mul_nonneg a5 a3
   have h2:T.we*T.rv≤10000*5:=Int.mul_le_mul a6 a4 a3 (by omega)
   omega
  refine ⟨by omega,hl,fun h=>noF fun o=>h (V o).a,fun c1 c2=>⟨fun h=>noF fun o=>h (V o).b,fun c3 c4=>⟨fun h=>noF fun o=>h (V o).c,fun c5 c6=>⟨hm,fun h=>noF fun o=>by have:=(V o).d; omega,fun h=>⟨by omega,z+1,⟨by omega,P,fun j hj=>?_⟩,by omega,by omega⟩⟩⟩⟩⟩
  by_cases e:j<z
  ·exact hz.b j e
  ·obtain rfl:j=z:=by omega
   exact ⟨⟨c1,c2⟩,⟨c3,c4⟩,⟨c5,c6⟩,by omega⟩
 ·have:=hz.a
  intro j hj
  exact hz.b j (by omega)
 ·have hlt:y<T.nl:=by omega
  have V:okT T→vlx T y:=fun o=>(okT_iff.1 o).2.2 y hlt
  refine ⟨by omega,hl,fun h=>noF fun o=>by have:=(V o).b; omega,fun c1=>⟨fun h=>noF fun o=>(V o).a h,fun c2=>⟨fun h=>noF fun o=>by have:=(V o).c; omega,fun c3=>⟨by omega,y+1,⟨by omega,P,hy.v,fun j hj=>?_⟩,by omega,by omega⟩⟩⟩⟩
  by_cases e:j<y
  ·exact hy.b j e
  ·obtain rfl:j=y:=by omega
   exact ⟨by omega,by omega,by omega⟩
 ·have:=hy.a
  exact ⟨fun _=>okT_iff.2 ⟨P,hy.v,fun j hj=>hy.b j (by omega)⟩,fun _=>trivial⟩
theorem tr_ok:trC.Ok Try.prog:=by
 refine ⟨by kernel_rfl,fun args k hk=>?_⟩
 simp only [trC] at hk
 split at hk
 ·obtain ⟨T,rfl,hk⟩:=hk
  exact ⟨_,Does.plain (funH_does (ctrs_sound (by intro x hx; simp at hx; subst hx; exact in_ok)) nil_x nil_ic mixed (tr_true T)) trivial,hk⟩
 ·exact hk.elim
theorem nil_o:SoundO Try.prog (octrs []):=octrs_sound (by simp)
theorem ho_ok:hoC.OkF Try.prog:=by
 refine ⟨by kernel_rfl,fun args k hk=>?_⟩
 simp only [hoC] at hk
 split at hk
 ·rename_i h p ip a
  obtain ⟨T,s,⟨rfl,rfl,hp⟩,k1,k2,k3⟩:=hk
  by_cases hw:p
  ·have e:SV.denL [tV T,s.sv,.int .i64 h,.dec p ip,.int .i64 a]=SV.denL [tV T,s.sv,b6 h,.bool true,b6 a]:=by
    simp only [SV.denL,SV.den,b6]; simp [hw]
   rw [e]
   by_cases h2:2≤s.n+cbQ s h
   ·have t:=hot_true hp.t hp.q hp.a hp.k hp.h hp.c h2
    unfold hot hoG at t
    exact ⟨_,funY_does nil_cs nil_x nil_ic nil_o mixed t,k2 hw h2⟩
   ·exact ⟨_,funY_does nil_cs nil_x nil_ic nil_o mixed (hoz_true hp (by omega)),k3 hw (by omega)⟩
  ·have e:SV.denL [tV T,s.sv,.int .i64 h,.dec p ip,.int .i64 a]=SV.denL [tV T,s.sv,b6 h,.bool false,b6 a]:=by
    simp only [SV.denL,SV.den,b6]; simp [hw]
   rw [e]
   have t:=hof_true hp.t hp.q hp.a hp.k
   unfold hof hoG at t
   exact ⟨_,funY_does nil_cs nil_x nil_ic nil_o mixed t,k1 hw⟩
 ·exact hk.elim
theorem bg_ok:bgC.OkF Try.prog:=by
 refine ⟨by kernel_rfl,fun args k hk=>?_⟩
 simp only [bgC] at hk
 split at hk
 ·obtain ⟨T,⟨rfl,h⟩,hk⟩:=hk
  exact ⟨_,funY_does nil_cs nil_x nil_ic nil_o mixed (bg_true h),hk⟩
 ·exact hk.elim
end Go.Proofs.Ytpdcajchppoocaa

set_option maxRecDepth 100000
namespace Go.Proofs.Ytpdcajchppoocaa
open Go Go.Lg
attribute [local irreducible] bodyH
theorem nw_of {T:Tn} (hT:okT T) {w:Nat→Bool} {c:Nat→Int}:∀ {z:Nat},z≤16→(∀ k,k<z→0≤c k)→(∀ i,i<z→¬ wrQ T w c i)→∀ i,i<z→¬ wrA T (tW w) c i
 | 0,_,_,_=>fun i hi=>(Nat.not_lt_zero i hi).elim
 | z+1,hz,hc,hw=>fun i hi=>by
  have ih:=nw_of hT (z:=z) (by omega) (fun k hk=>hc k (by omega)) (fun k hk=>hw k (by omega))
  by_cases e:i<z
  ·exact ih i e
  ·obtain rfl:i=z:=by omega
   exact fun h=>hw i (by omega) ((wr_eq hT (by omega) (fun k hk=>hc k (by omega)) ih).2 h)
theorem qa_c {T:Tn} (hT:okT T) (w:Nat→Bool) (c:Nat→Int):∀ z:Nat,0≤(qA T w c z).c∧(qA T w c z).c≤1000*(z:Int)
 | 0=>⟨Int.le_refl _,Int.le_refl _⟩
 | z+1=>by
  have ih:=qa_c hT w c z
  have h1:=hT.wo
  have h2:=hT.ti
  show 0≤(wtQ T (qA T w c z) z (w z)).c∧(wtQ T (qA T w c z) z (w z)).c≤_
  cases w z with
  | false=>show 0≤(qA T w c z).c∧(qA T w c z).c≤_; omega
  | true =>
   show 0≤(qA T w c z).c+(if (S1 (qA T w c z) 0).r<T.rv then T.wo else T.ti)∧(qA T w c z).c+(if (S1 (qA T w c z) 0).r<T.rv then T.wo else T.ti)≤_
   split <;> omega
structure okC (T:Tn) (c:Nat→Int):Prop where
 t:okT T
 c:∀ k,k<T.nl→0≤c k∧c k≤1000000
theorem ho_at {T:Tn} {w:Nat→Bool} {c:Nat→Int} (h:okC T c) {z:Nat} (hz:z<T.nl) (hw:∀ i,i<z→¬ wrQ T w c i):hoP T (qA T w c z) z (c z):=by
 have hl:=h.t.nl
 have hc:∀ k,k<z→0≤c k:=fun k hk=>(h.c k (by omega)).1
 have hn:=nw_of h.t (by omega) hc hw
 have e:=qa_eq h.t (z:=z) (by omega) hc hn
 have ok:=Go.Lg.st_ok h.t (m:=z) (by omega) hc hn
 have eh:=st_h (T:=T) (w:=tW w) (c:=c) z
 have hk:=k_ne e
 rw [eh] at hk
 have:=qa_c h.t w c z
 exact ⟨h.t,ok_of e ok,h.c z hz,hk,by omega,by omega⟩
noncomputable def coE:Ctr:=⟨40,fun args k=>match args with
 | [x,.lst 1 n f,.lst 1 m g]=>∃ (T:Tn) (w:Nat→Bool) (c:Nat→Int),(x=tV T∧SV.lst 1 n f=twL T.nl w∧SV.lst 1 m g=SV.lst 1 T.nl (fun j=>b6 (c j))∧okC T c∧∀ i,i<T.nl→¬ wrQ T w c i)∧k (coR T w c)
 | _=>False⟩
theorem rg_lo {T:Tn} (h:okT T):okC T T.lo:=⟨h,fun k hk=>by have:=h.ld k hk; omega⟩
theorem rg_hi {T:Tn} (h:okT T):okC T T.hi:=⟨h,fun k hk=>by have:=h.ld k hk; omega⟩
theorem rg_no {T:Tn} {c:Nat→Int} (h:okC T c) {w:Nat→Bool} {i:Nat} (hi:i<fwA T w):¬ wrQ T w c i:=by
 have hl:=h.t.nl
 have hd:=fw_d (T:=T) (w:=w)
 have hn:∀ k,k<i→¬ wrA T (tW w) c k:=fun k hk=>fw_a (by omega)
 exact fun hq=>fw_a hi ((wr_eq h.t (by omega) (fun k hk=>(h.c k (by omega)).1) hn).1 hq)
end Go.Proofs.Ytpdcajchppoocaa

set_option maxRecDepth 100000
namespace Go.Proofs.Ytpdcajchppoocaa
open Go Go.Lg
attribute [local irreducible] bodyH
noncomputable def rrC:Ctr:=⟨16,fun args k=>match args with
 | [x,.lst 1 n f]=>∃ (T:Tn) (w:Nat→Bool),(x=tV T∧SV.lst 1 n f=twL T.nl w∧okR T w)∧k (.tup [ruV T w,b6 T.nl,b6 0])
 | _=>False⟩
noncomputable def rrD:Ctr:=⟨16,fun args k=>match args with
 | [x,.lst 1 n f]=>∃ (T:Tn) (w:Nat→Bool),(x=tV T∧SV.lst 1 n f=twL n w∧chE T n w≠0)∧k (.tup [nlS,b6 (chH T n w),b6 (chE T n w)])
 | _=>False⟩
noncomputable def bsL (T:Tn) (w:Nat→Bool) (A B:Rs) (L H:St):Nat→Option HSpec :=
 twoL 0 { appH1 115 19 (fun i=>1≤i∧i≤A.n) (fun i=>A.n - i) T.nb 3 (fun i=>mkF 115 [(12,.ptr 1 0 0),(16,.ptr 2 0 0),(19,.sl 3 0 i),(20,b6 i)])
  (fun i=>mkX [vr 7 (tV T),vr 3 A.sv,vr 3 B.sv,rw' 5 i fun k=>.agg [b6 (A.S k).b,b6 (A.S k).f,b6 (B.S k).f,b6 (A.S k).r,.bool false]]) with fz:=true }
 (oneL 2 { (natH (fun i=>i≤A.m) (fun i=>A.m - i) 3 (fun i=>mkF 115 [(12,.ptr 1 0 0),(19,.sl 3 0 (A.n+i)),(21,b6 i)])
  (fun i=>mkX [vr 7 (tV T),vr 3 A.sv,vr 3 B.sv,rw' 5 (A.n+i) fun k=>.agg [b6 (L.bx k),b6 (L.fo k),b6 (H.fo k),b6 (L.rv k),.dec (L.n≤k) inferInstance]]) fun _=>none) with ms:=gsl 115 19,fz:=true })
noncomputable def bsG (T:Tn) (w:Nat→Bool):Prop:=funY Try.prog (ctrsF [rnC,coE,rrC] (ctrs [])) noX (ictrs []) (octrs []) (bsL T w (qA T w T.lo T.nl) (qA T w T.hi T.nl) (fsA T w (coL T)) (fsA T w (coH T 0))) noL 18 [tV T,twL T.nl w] (.tup [bdV T (fsA T w (coL T)) (fsA T w (coH T 0)),b6 0])
noncomputable def bsB (T:Tn) (n:Nat) (w:Nat→Bool):Prop:=funY Try.prog (ctrsF [rrD] (ctrs [])) noX (ictrs []) (octrs []) noL noL 18 [tV T,twL n w] (.tup [nlS,b6 (chE T n w)])
end Go.Proofs.Ytpdcajchppoocaa

set_option maxRecDepth 100000
namespace Go.Proofs.Ytpdcajchppoocaa
open Go Go.Lg
end Go.Proofs.Ytpdcajchppoocaa
