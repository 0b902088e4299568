import Derived.Test.YtpdcajchppoocaaC7
import Derived.Test.YtpdcajchppoocaaPfPgPhPiPjPkPnPxPu
set_option linter.unusedVariables false
set_option linter.unusedSimpArgs false
set_option maxRecDepth 100000
namespace Go.Proofs.Ytpdcajchppoocaa
open Go Go.Lg
attribute [local irreducible] bodyH
structure Bx where
 b:Int
 f:Int
 r:Int
 k:Int
def Bx.sv (x:Bx):SV:=.agg [b6 x.b,b6 x.f,b6 x.r,b6 x.k]
def nlS:SV:=.val (.slice none 0 0)
def bgF (T:Tn) (i:Nat):SV:=.agg [b6 i,b6 (T.fo i),b6 0,b6 0]
structure bgI (T:Tn) (i:Nat):Prop where
 a:i≤T.nb
noncomputable def bgM:FS→XS→Ms:=fun t X=>match X.row 2 with
 | some R=>(match nth' (cells' (R.f 0)) 0 with
  | .sl r _ _=>[some r]
  | _=>[])
 | none=>[]
noncomputable def bgH (T:Tn):HSpec :=
 { toLSpec:={ σ:=Nat,inv:=fun i=>1≤i∧bgI T i,μ:=fun i=>T.nb - i,nr:=3,ms:=bgM,t:=fun i=>mkF 26 [(1,.ptr 0 0 0),(2,.ptr 1 0 0),(3,.ptr 2 0 0),(4,b6 i)],X:=fun i=>mkX [vr 7 (tV T),vr 3 (.agg [nlS,nlS,b6 0]),vr 3 (.agg [.sl 3 0 i,nlS,b6 0]),rw' 4 i (bgF T)],rd:=fun _ _ k=>∃ z,k z,rdOK:=fun _ _ _ h=>h,peel:=some T.nb } }
noncomputable def bgG (T:Tn):Prop:=funY Try.prog (ctrs []) noX (ictrs []) (octrs []) (oneL 0 (bgH T)) noL 29 [tV T] (.agg [.lst 4 T.nb (bgF T),nlS,b6 0])
structure rnI (T:Tn) (i:Nat):Prop where
 a:i≤T.nl
noncomputable def rnH (T:Tn):HSpec:=appH2 34 4 5 (fun i=>1≤i∧rnI T i) (fun i=>T.nl - i) T.nl 1 (fun i=>mkF 34 [(1,.ptr 0 0 0),(4,.sl 1 0 i),(5,.sl 2 0 i),(6,b6 i)]) (fun i=>mkX [vr 7 (tV T),rw' 1 i fun j=>b6 (T.lo j),rw' 1 i fun j=>b6 (T.hi j)])
noncomputable def rnG (T:Tn):Prop:=funY Try.prog (ctrs []) noX (ictrs []) (octrs []) (oneL 0 (rnH T)) noL 39 [tV T] (.tup [.lst 1 T.nl fun j=>b6 (T.lo j),.lst 1 T.nl fun j=>b6 (T.hi j)])
end Go.Proofs.Ytpdcajchppoocaa

set_option maxRecDepth 100000
namespace Go.Proofs.Ytpdcajchppoocaa
open Go Go.Lg
local notation "Z0"=>(0:Int)
local notation "N0"=>(0:Nat)
local notation "N1"=>(1:Nat)
theorem bgG_vc (T:Tn):bgG T =
((N0<N1∧(Z0<(↑T.1:Int)→N0<N1∧N0<N1∧Z0≤Z0∧Z0<(↑T.1:Int)∧True∧(∀ (i:Nat),i<N1→rE true)∧N1*(32:Nat)≤(140737488355328:Nat)∧N1≤(4611686018427387904:Nat)∧rI (Z0+(1:Int))∧∃ (z:Nat),(N1≤z∧bgI T z)∧T.1 - z<T.1∧rE N0∧rE N0∧rE N0∧rE N0∧rE N0∧rE N0∧Z0+(1:Int)=(↑z:Int)∧T.1=T.1∧(∀ (i:Nat),i<T.1→rE ((bxV T i).den)∧True∧True∧True∧True)∧T.5=T.5∧T.6=T.6∧T.7=T.7∧T.8=T.8∧T.9=T.9∧rE T.10∧(∀ (i:Nat),i<T.10→rE ((ldV T i).den)∧True∧True∧True)∧rE (Value.slice none N0 N0)∧rE (Value.slice none N0 N0)∧rE Z0∧rE N0∧N1=z∧rE (Value.slice none N0 (0 :
Nat))∧rE Z0∧z=N1∧(∀ (i:Nat),i<z→rE (4:Nat)∧Z0=(↑i:Int)∧T.4 (Int.toNat Z0)=T.4 i∧rE Z0∧rE Z0∧True)∧True)∧(¬Z0<(↑T.1:Int)→N0<N1∧N0<N1∧N0=T.1∧rE (Value.slice none N0 N0)∧rE Z0∧True))∧∀ (z:Nat),N1≤z∧bgI T z→N0<N1∧((↑z:Int)<(↑T.1:Int)→N0<N1∧N0<N1∧Z0≤(↑z:Int)∧(↑z:Int)<(↑T.1:Int)∧True∧(∀ (i:Nat),i<N1→rE true)∧rE N0∧z=z∧(∀ (i:Nat),rE true)∧(z+N1)*(32:Nat)≤(140737488355328:Nat)∧z+N1≤(4611686018427387904:Nat)∧rI ((↑z:Int)+(1:Int))∧∃ (z_1:Nat),(N1≤z_1∧bgI T z_1)∧T.1 - z_1<T.1 - z∧rE N0∧rE N0∧rE N0∧rE N0∧rE
N0∧rE N0∧(↑z:Int)+(1:Int)=(↑z_1:Int)∧T.1=T.1∧(∀ (i:Nat),i<T.1→rE ((bxV T i).den)∧True∧True∧True∧True)∧T.5=T.5∧T.6=T.6∧T.7=T.7∧T.8=T.8∧T.9=T.9∧rE T.10∧(∀ (i:Nat),i<T.10→rE ((ldV T i).den)∧True∧True∧True)∧rE (Value.slice none N0 N0)∧rE (Value.slice none N0 N0)∧rE Z0∧rE N0∧z+N1=z_1∧rE (Value.slice none N0 N0)∧rE Z0∧z_1=z+N1∧(∀ (i:Nat),i<z_1→rE (4:Nat)∧(if i<z then (↑i:Int) else (↑z:Int))=(↑i:Int)∧(if i<z then T.4 i else T.4 (↑z:Int).toNat)=T.4 i∧(if i<z then Z0 else Z0)=Z0∧(if i<z then Z0 else Z0)=Z0∧True)∧True)∧(¬(↑z:Int)<(↑T.1:Int)→N0<N1∧N0<N1∧z=T.1∧N0+T.1 ≤
z∧(∀ (i:Nat),i<T.1→rE (4:Nat)∧rE (4:Nat)∧(↑(i+N0):Int)=(↑i:Int)∧T.4 (i+N0)=T.4 i∧rE Z0∧rE Z0∧True)∧rE (Value.slice none N0 N0)∧rE Z0∧True)):=by kernel_rfl
theorem rnG_vc (T:Tn):rnG T =
((N0<N1∧(Z0<(↑T.10:Int)→N0<N1∧Z0≤Z0∧Z0<(↑T.10:Int)∧True∧(∀ (i:Nat),i<N1→rE true)∧N1*(8:Nat)≤(140737488355328:Nat)∧N1≤(4611686018427387904:Nat)∧N0<N1∧Z0≤Z0∧Z0<(↑T.10:Int)∧True∧(∀ (i:Nat),i<N1→rE true)∧N1*(8:Nat)≤(140737488355328:Nat)∧N1≤(4611686018427387904:Nat)∧rI (Z0+(1:Int))∧∃ (z:Nat),(N1≤z∧rnI T z)∧T.10 - z<T.10∧rE N0∧rE N0∧rE N0∧N1=z∧rE N0∧N1=z∧Z0+(1:Int)=(↑z:Int)∧T.1=T.1∧(∀ (i:Nat),i<T.1→rE ((bxV T i).den)∧True∧True∧True∧True)∧T.5=T.5∧T.6=T.6∧T.7=T.7∧T.8=T.8∧T.9=T.9∧rE T.10∧(∀ (i:Nat),i<T.10→rE ((ldV T
i).den)∧True∧True∧True)∧z=N1∧(∀ (i:Nat),i<z→rE N1∧T.11 (Int.toNat Z0)=T.11 i∧True)∧z=N1∧(∀ (i:Nat),i<z→rE N1∧T.12 (Int.toNat Z0)=T.12 i∧True)∧True)∧(¬Z0<(↑T.10:Int)→N0=T.10∧N0=T.10∧True))∧∀ (z:Nat),N1≤z∧rnI T z→N0<N1∧((↑z:Int)<(↑T.10:Int)→N0<N1∧Z0≤(↑z:Int)∧(↑z:Int)<(↑T.10:Int)∧True∧(∀ (i:Nat),i<N1→rE true)∧rE N0∧z=z∧(∀ (i:Nat),rE true)∧(z+N1)*(8:Nat)≤(140737488355328:Nat)∧z+N1≤(4611686018427387904:Nat)∧N0<N1∧Z0≤(↑z:Int)∧(↑z:Int)<(↑T.10:Int)∧True∧(∀ (i:Nat),i<N1→rE true)∧rE N0∧z=z∧(∀ (i:Nat),rE true)∧(z+N1)*(8:Nat) ≤
(140737488355328:Nat)∧z+N1≤(4611686018427387904:Nat)∧rI ((↑z:Int)+(1:Int))∧∃ (z_1:Nat),(N1≤z_1∧rnI T z_1)∧T.10 - z_1<T.10 - z∧rE N0∧rE N0∧rE N0∧z+N1=z_1∧rE N0∧z+N1=z_1∧(↑z:Int)+(1:Int)=(↑z_1:Int)∧T.1=T.1∧(∀ (i:Nat),i<T.1→rE ((bxV T i).den)∧True∧True∧True∧True)∧T.5=T.5∧T.6=T.6∧T.7=T.7∧T.8=T.8∧T.9=T.9∧rE T.10∧(∀ (i:Nat),i<T.10→rE ((ldV T i).den)∧True∧True∧True)∧z_1=z+N1∧(∀ (i:Nat),i<z_1→rE N1∧(if i<z then T.11 i else T.11 (↑z:Int).toNat)=T.11 i∧True)∧z_1=z+N1∧(∀ (i:Nat),i<z_1→rE N1∧(if i<z then T.12 i else T.12 (↑z:Int).toNat)=T.12 i∧True)∧True)∧(¬(↑z:Int)<(↑T.10:Int)→z=T.10∧N0+T.10≤z∧(∀ (i:Nat),i<T.10 →
rE N1∧rE N1∧T.11 (i+N0)=T.11 i∧True)∧z=T.10∧N0+T.10≤z∧(∀ (i:Nat),i<T.10→rE N1∧rE N1∧T.12 (i+N0)=T.12 i∧True)∧True)):=by kernel_rfl
end Go.Proofs.Ytpdcajchppoocaa

set_option maxRecDepth 100000
namespace Go.Proofs.Ytpdcajchppoocaa
open Go Go.Lg
attribute [local irreducible] bodyH
theorem up_if {α:Type} {g:Nat→α} {z i:Nat} (h:i<z+1):(if i<z then g i else g z)=g i:=by
 by_cases e:i<z
 ·rw [if_pos e]
 ·rw [if_neg e,show i=z by omega]
theorem bg_true {T:Tn} (hn:T.nb≤1000):bgG T:=by
 rw [bgG_vc]
 simp only [rI,rE,tt3,tt4,tt5,tt13,tt14,and_true,true_and,Nat.zero_lt_one,and_self,implies_true,Int.toNat_natCast,Nat.zero_add,Nat.add_zero,Nat.one_mul,Nat.mul_one,Classical.not_not,iff_self,Bool.false_eq_true,imp_false,and_imp,true_implies,forall_const]
 refine ⟨⟨fun h=>⟨by omega,h,by omega,by omega,by omega,1,⟨by omega,⟨by omega⟩⟩,by omega,rfl,rfl,rfl,fun i hi=>?_⟩,fun h=>by omega⟩,fun z h1 hz=>⟨fun hl=>⟨by omega,hl,by omega,by omega,by omega,z+1,⟨by omega,⟨by omega⟩⟩,by omega,by omega,rfl,rfl,fun i hi=>⟨up_if (g:=fun i=>(i:Int)) hi,up_if hi,by split <;> rfl⟩⟩,fun hl=>?_⟩⟩
 ·obtain rfl:i=0:=by omega
  exact ⟨rfl,rfl⟩
 ·have:=hz.a
  exact ⟨by omega,by omega⟩
theorem rn_true {T:Tn} (hn:T.nl≤1000):rnG T:=by
 rw [rnG_vc]
 simp only [rI,rE,tt3,tt4,tt5,tt13,tt14,and_true,true_and,Nat.zero_lt_one,and_self,implies_true,Int.toNat_natCast,Nat.zero_add,Nat.add_zero,Nat.one_mul,Nat.mul_one,Classical.not_not,iff_self,Bool.false_eq_true,imp_false,and_imp,true_implies,forall_const]
 refine ⟨⟨fun h=>⟨by omega,h,by omega,by omega,by omega,h,by omega,by omega,by omega,1,⟨by omega,⟨by omega⟩⟩,by omega,rfl,rfl,rfl,rfl,fun i hi=>?_,rfl,fun i hi=>?_⟩,fun h=>by omega⟩,fun z h1 hz=>⟨fun hl=>⟨by omega,hl,by omega,by omega,by omega,hl,by omega,by omega,by omega,z+1,⟨by omega,⟨by omega⟩⟩,by omega,rfl,rfl,by omega,rfl,fun i hi=>up_if hi,rfl,fun i hi=>up_if hi⟩,fun hl=>?_⟩⟩
 ·obtain rfl:i=0:=by omega
  rfl
 ·obtain rfl:i=0:=by omega
  rfl
 ·have:=hz.a
  exact ⟨by omega,by omega,by omega,by omega⟩
end Go.Proofs.Ytpdcajchppoocaa

set_option maxRecDepth 100000
namespace Go.Proofs.Ytpdcajchppoocaa
open Go Go.Lg
attribute [local irreducible] bodyH
structure Rs where
  n : Nat
  S : Nat → Bx
  m : Nat
  O : Nat → Bx
  c : Int
def Rs.sv (s : Rs) : SV := .agg [.lst 4 s.n fun i => (s.S i).sv, .lst 4 s.m fun i => (s.O i).sv, b6 s.c]
noncomputable def cbQ (s : Rs) (h : Int) : Nat := open Classical in if 0 < s.m ∧ (s.O 0).k = h then 1 else 0
def S1 (s : Rs) (i : Nat) : Bx := if i < s.n then s.S i else s.O 0
noncomputable def nQ (s : Rs) (h : Int) (i : Nat) : Nat := s.n + min i (cbQ s h)
noncomputable def O1 (s : Rs) (h : Int) (i : Nat) : Bx := s.O (i + cbQ s h)
structure hoI (s : Rs) (h : Int) (i : Nat) : Prop where
  a : i ≤ s.m
  n : s.n ≤ 5
  m : s.m ≤ 5
  k : ∀ j, 1 ≤ j → j < s.m → ¬ (s.O j).k = h
noncomputable def hoM : FS → XS → Ms := fun t X => match X.row 3 with
  | some R => (match nth' (cells' (R.f 0)) 0, nth' (cells' (R.f 0)) 1 with
    | .sl r _ _, .sl q _ _ => [some r, some q]
    | .sl r _ _, _ => [some r]
    | _, _ => [])
  | none => []
noncomputable def hoF (s : Rs) (h : Int) (w : Bool) (a : Int) (i : Nat) : FS := mkF 159 [(2, b6 h), (3, .bool w), (4, b6 a), (5, .ptr 0 0 0), (6, .ptr 1 0 0), (10, .ptr 2 0 0), (13, .ptr 3 0 0), (14, b6 i)]
theorem rdX (t : FS) (X : XS) {α : Type} (k : Bool × α → Prop) (h : (match X.row 3 with
  | some R => (match nth' (cells' (R.f 0)) 1 with
    | .sl _ _ _ => ∃ z, k (true, z)
    | _ => ∃ z, k (false, z))
  | none => False)) : ∃ s, k s := by
  split at h
  · split at h
    · exact h.elim fun z h => ⟨_, h⟩
    · exact h.elim fun z h => ⟨_, h⟩
  · exact h.elim
theorem alT {α : Type} {k : Bool × α → Prop} (h : (∀ z, k (false, z)) ∧ ∀ z, k (true, z)) (z : Bool × α) : k z := by
  obtain ⟨b, z⟩ := z
  cases b
  · exact h.1 z
  · exact h.2 z
noncomputable def hoH (T : Tn) (s : Rs) (h : Int) (w : Bool) (a : Int) : HSpec :=
  { toLSpec := { σ := Bool × Nat, inv := fun z => match z.1 with
                   | false => hoI s h z.2 ∧ z.2 ≤ cbQ s h
                   | true => hoI s h z.2 ∧ cbQ s h < z.2
                 μ := fun z => s.m - z.2
                 nr := 4
                 ms := hoM
                 t := fun z => hoF s h w a z.2
                 X := fun z => match z.1 with
                   | false => mkX [vr 7 (tV T), vr 3 s.sv, vr 3 (.agg [nlS, nlS, b6 0]), vr 3 (.agg [.sl 4 0 (nQ s h z.2), nlS, b6 s.c]), rw' 4 (nQ s h z.2) fun i => (S1 s i).sv]
                   | true => mkX [vr 7 (tV T), vr 3 s.sv, vr 3 (.agg [nlS, nlS, b6 0]), vr 3 (.agg [.sl 4 0 (nQ s h z.2), .sl 5 0 (z.2 - cbQ s h), b6 s.c]), rw' 4 (nQ s h z.2) (fun i => (S1 s i).sv), rw' 4 (z.2 - cbQ s h) fun i => (O1 s h i).sv]
                 rd := fun t X k => match X.row 3 with
                   | some R => (match nth' (cells' (R.f 0)) 1 with
                     | .sl _ _ _ => ∃ z, k (true, z)
                     | _ => ∃ z, k (false, z))
                   | none => False
                 rdOK := fun t X k h => rdX t X k h }
    al := fun k => (∀ z, k (false, z)) ∧ ∀ z, k (true, z), alOK := fun k h z => alT h z }
open Classical in
noncomputable def wtQ (T : Tn) (s : Rs) (h : Int) (w : Bool) : Rs := match w with
  | false => ⟨s.n + cbQ s h, S1 s, s.m - cbQ s h, O1 s h, s.c⟩
  | true => ⟨s.n + cbQ s h - 1, fun i => S1 s (i + 1), s.m - cbQ s h + 1, fun i => if i < s.m - cbQ s h then O1 s h i else ⟨(S1 s 0).b, 0, if (S1 s 0).r < T.rv then (S1 s 0).r + 1 else 0, h + T.re⟩, s.c + if (S1 s 0).r < T.rv then T.wo else T.ti⟩
def lvQ (T : Tn) (s : Rs) (a : Int) : Nat → Int
  | 0 => a
  | j + 1 => lvQ T s a j - min (min (lvQ T s a j) (T.rt (s.S j).b.toNat)) (T.rm (s.S j).b.toNat - T.we * (s.S j).r - (s.S j).f)
def tkQ (T : Tn) (s : Rs) (a : Int) (j : Nat) : Int := min (min (lvQ T s a j) (T.rt (s.S j).b.toNat)) (T.rm (s.S j).b.toNat - T.we * (s.S j).r - (s.S j).f)
def psQ (T : Tn) (s : Rs) (a : Int) (j : Nat) (i : Nat) : Bx := ⟨(s.S i).b, if i < j then (s.S i).f + tkQ T s a i else (s.S i).f, (s.S i).r, (s.S i).k⟩
noncomputable def hcQ (T : Tn) (s : Rs) (h : Int) (w : Bool) (a : Int) (j i : Nat) : Bx := match w with
  | false => psQ T (wtQ T s h false) a j i
  | true => if i = 0 then S1 s 0 else psQ T (wtQ T s h true) a j (i - 1)
structure hpI (s : Rs) (j : Nat) : Prop where
  a : j ≤ s.n
def ofQ : Bool → Nat
  | false => 0
  | true => 1
noncomputable def hpM : FS → XS → Ms := fun t X => match X.row 3 with
  | some R => (match nth' (cells' (R.f 0)) 0 with
    | .sl r _ _ => [some r]
    | _ => [])
  | none => []
noncomputable def hpH (T : Tn) (s : Rs) (h : Int) (w : Bool) (a : Int) : HSpec :=
  { toLSpec := { σ := Nat, inv := hpI (wtQ T s h w), μ := fun j => (wtQ T s h w).n - j, nr := 4, ms := hpM, t := fun j => mkF 159 [(5, .ptr 0 0 0), (10, .ptr 2 0 0), (13, .ptr 3 0 0), (16, b6 (lvQ T (wtQ T s h w) a j)), (17, b6 j)], X := fun j => mkX [vr 7 (tV T), none, vr 3 (.agg [nlS, nlS, b6 0]), vr 3 (.agg [.sl 4 (ofQ w) (wtQ T s h w).n, .lst 4 (wtQ T s h w).m fun i => ((wtQ T s h w).O i).sv, b6 (wtQ T s h w).c]), rw' 4 (ofQ w + (wtQ T s h w).n) fun i => (hcQ T s h w a j i).sv], rd := fun _ _ k => ∃ z, k z, rdOK := fun _ _ _ h => h }, fz := true }
noncomputable def hrM : FS → XS → Ms := fun t X => match sget 159 t 13 with
  | .ptr r _ _ => (match X.row r with
    | some R => (match nth' (cells' (R.f 0)) 0 with
      | .sl q _ _ => [some r, some q]
      | _ => [])
    | none => [])
  | _ => []
noncomputable def hrH (T : Tn) (s : Rs) (h : Int) (w : Bool) (a : Int) : HSpec :=
  { toLSpec := { σ := Nat, inv := fun _ => True, μ := fun _ => 0, nr := 3, ms := hrM, t := fun _ => mkF 159 [(2, b6 h), (3, .bool w), (4, b6 a), (5, .ptr 0 0 0), (6, .ptr 1 0 0), (10, .ptr 2 0 0), (13, .ptr 3 0 0)], X := fun _ => mkX [vr 7 (tV T), vr 3 s.sv, vr 3 (.agg [nlS, nlS, b6 0]), vr 3 (.agg [.sl 4 0 s.n, nlS, b6 s.c]), rw' 4 s.n fun i => (s.S i).sv], rd := fun _ _ k => ∃ z, k z, rdOK := fun _ _ _ h => h }, D := [(1, 1), (4, 1), (8, 3)], nb := some 3 }
noncomputable def hoR (T : Tn) (s : Rs) (h : Int) (w : Bool) (a : Int) : SV := .tup [.agg [.lst 4 (wtQ T s h w).n fun i => (psQ T (wtQ T s h w) a (wtQ T s h w).n i).sv, .lst 4 (wtQ T s h w).m fun i => ((wtQ T s h w).O i).sv, b6 (wtQ T s h w).c], b6 (lvQ T (wtQ T s h w) a (wtQ T s h w).n), .bool true]
noncomputable def hoG (w : Bool) (T : Tn) (s : Rs) (h a : Int) : Prop := funY Try.prog (ctrs []) noX (ictrs []) (octrs []) (twoL 0 (hoH T s h w a) (twoL 1001 (hrH T s h w a) (oneL 2 (hpH T s h w a)))) noL 30 [tV T, s.sv, b6 h, .bool w, b6 a] (hoR T s h w a)
noncomputable def hof (T : Tn) (s : Rs) (h a : Int) : Prop := hoG false T s h a
noncomputable def hot (T : Tn) (s : Rs) (h a : Int) : Prop := hoG true T s h a
end Go.Proofs.Ytpdcajchppoocaa

set_option maxRecDepth 100000
namespace Go.Proofs.Ytpdcajchppoocaa
open Go Go.Lg
local notation "Z0"=>(0:Int)
local notation "N0"=>(0:Nat)
local notation "N1"=>(1:Nat)
local notation "N4"=>(4:Nat)
def hof3 (T:Tn):Prop:=(∀ (i:Nat),i<T.1→rE ((bxV T i).den)∧True∧True∧True∧True)
def hof6 (T:Tn):Prop:=(∀ (i:Nat),i<T.10→rE ((ldV T i).den)∧True∧True∧True)
def hof0 (T:Tn) (s:Rs) (h:Int) (a:Int) (z:Nat):Prop:=((↑z:Int)<(↑(s.1+cbQ s h):Int)→N0<N1∧Z0≤(↑z:Int)∧(↑z:Int)<(↑(s.1+cbQ s h):Int)∧N0+(↑z:Int).toNat<N0+(s.1+cbQ s h)∧N0<N1∧N0<N1∧Z0≤((wtQ T s h false).S (ofQ false+(↑z:Int).toNat)).1∧((wtQ T s h false).S (ofQ false+(↑z:Int).toNat)).1<(↑T.1:Int)∧N0<N1∧N0<N1∧N0<N1∧N0<N1∧rI (T.5*((wtQ T s h false).S (ofQ false+(↑z:Int).toNat)).3)∧rI (T.2 (hcQ T s h false a z (ofQ false+(↑z:Int).toNat)).b.toNat - T.5*((wtQ T s h false).S (ofQ false+(↑z:Int).toNat)).3)∧N0<N1∧(((-9223372036854775808:Int)≤T.2 (hcQ T s h false a z (ofQ false+(↑z:Int).toNat)).b.toNat - T.5*((wtQ T s h false).S (ofQ false+(↑z:Int).toNat)).3 - if N0+(↑z:Int).toNat<z then ((wtQ T s h false).S (ofQ false+(↑z:Int).toNat)).2+tkQ T (wtQ T s h false) a (N0+(↑z:Int).toNat) else ((wtQ T s h false).S (ofQ false+(↑z:Int).toNat)).2)∧(T.2 (hcQ T s h false a z (ofQ false+(↑z:Int).toNat)).b.toNat - T.5*((wtQ T s h false).S (ofQ false+(↑z:Int).toNat)).3 - if N0+(↑z:Int).toNat<z then ((wtQ T s h false).S (ofQ false+(↑z:Int).toNat)).2+tkQ T (wtQ T s h false) a (N0+(↑z:Int).toNat) else ((wtQ T s h false).S (ofQ false+(↑z:Int).toNat)).2)≤(9223372036854775807:Int))∧N0<N1∧N0<N1∧rI ((if N0+(↑z:Int).toNat<z then ((wtQ T s h false).S (ofQ false+(↑z:Int).toNat)).2+tkQ T (wtQ T s h false) a (N0+(↑z:Int).toNat) else ((wtQ T s h false).S (ofQ false+(↑z:Int).toNat)).2)+min (min (lvQ T (wtQ T s h false) a z) (T.3 (hcQ T s h false a z (ofQ false+(↑z:Int).toNat)).b.toNat)) (T.2 (hcQ T s h false a z (ofQ false+(↑z:Int).toNat)).b.toNat - T.5*((wtQ T s h false).S (ofQ false+(↑z:Int).toNat)).3 - if N0+(↑z:Int).toNat<z then ((wtQ T s h false).S (ofQ false+(↑z:Int).toNat)).2+tkQ T (wtQ T s h false) a (N0+(↑z:Int).toNat) else ((wtQ T s h false).S (ofQ false+(↑z:Int).toNat)).2))∧Z0≤(↑z:Int)∧(↑z:Int)<(↑(s.1+cbQ s h):Int)∧N1+N1≤N4∧N0+(↑z:Int).toNat<N0+(s.1+cbQ s h)∧(∀ (i':Nat),rE true)∧rI (lvQ T (wtQ T s h false) a z - min (min (lvQ T (wtQ T s h false) a z) (T.3 (hcQ T s h false a z (ofQ false+(↑z:Int).toNat)).b.toNat)) (T.2 (hcQ T s h false a z (ofQ false+(↑z:Int).toNat)).b.toNat - T.5*((wtQ T s h false).S (ofQ false+(↑z:Int).toNat)).3 - if N0+(↑z:Int).toNat<z then ((wtQ T s h false).S (ofQ false+(↑z:Int).toNat)).2+tkQ T (wtQ T s h false) a (N0+(↑z:Int).toNat) else ((wtQ T s h false).S (ofQ false+(↑z:Int).toNat)).2))∧rI ((↑z:Int)+(1:Int))∧∃ (z_1:Nat),hpI (wtQ T s h false) z_1∧s.1+cbQ s h - z_1<s.1+cbQ s h - z∧rE N0∧rE N0∧rE N0∧rE N0∧rE N0∧rE N0∧lvQ T (wtQ T s h false) a z - min (min (lvQ T (wtQ T s h false) a z) (T.3 (hcQ T s h false a z (ofQ false+(↑z:Int).toNat)).b.toNat)) (T.2 (hcQ T s h false a z (ofQ false+(↑z:Int).toNat)).b.toNat - T.5*((wtQ T s h false).S (ofQ false+(↑z:Int).toNat)).3 - if N0+(↑z:Int).toNat<z then ((wtQ T s h false).S (ofQ false+(↑z:Int).toNat)).2+tkQ T (wtQ T s h false) a (N0+(↑z:Int).toNat) else ((wtQ T s h false).S (ofQ false+(↑z:Int).toNat)).2)=lvQ T (wtQ T s h false) a z_1∧(↑z:Int)+(1:Int)=(↑z_1:Int)∧T.1=T.1∧(hof3 T)∧T.5=T.5∧T.6=T.6∧T.7=T.7∧T.8=T.8∧T.9=T.9∧rE T.10∧(hof6 T)∧rE (Value.slice none N0 N0)∧rE (Value.slice none N0 N0)∧rE Z0∧rE N0∧rE (s.1+cbQ s h)∧rE (s.3 - cbQ s h)∧(∀ (i:Nat),i<s.3 - cbQ s h→rE (((wtQ T s h false).O i).sv.den)∧True∧True∧True∧True∧True)∧s.5=s.5∧rE (N0+(s.1+cbQ s h))∧(∀ (i_2:Nat),i_2<N0+(s.1+cbQ s h)→rE N4∧(if i_2=N0+(↑z:Int).toNat then ((wtQ T s h false).S i_2).1 else ((wtQ T s h false).S i_2).1)=((wtQ T s h false).S i_2).1∧((if i_2=N0+(↑z:Int).toNat then (if N0+(↑z:Int).toNat<z then ((wtQ T s h false).S (ofQ false+(↑z:Int).toNat)).2+tkQ T (wtQ T s h false) a (N0+(↑z:Int).toNat) else ((wtQ T s h false).S (ofQ false+(↑z:Int).toNat)).2)+min (min (lvQ T (wtQ T s h false) a z) (T.3 (hcQ T s h false a z (ofQ false+(↑z:Int).toNat)).b.toNat)) (T.2 (hcQ T s h false a z (ofQ false+(↑z:Int).toNat)).b.toNat - T.5*((wtQ T s h false).S (ofQ false+(↑z:Int).toNat)).3 - if N0+(↑z:Int).toNat<z then ((wtQ T s h false).S (ofQ false+(↑z:Int).toNat)).2+tkQ T (wtQ T s h false) a (N0+(↑z:Int).toNat) else ((wtQ T s h false).S (ofQ false+(↑z:Int).toNat)).2) else if i_2<z then ((wtQ T s h false).S i_2).2+tkQ T (wtQ T s h false) a i_2 else ((wtQ T s h false).S i_2).2)=if i_2<z_1 then ((wtQ T s h false).S i_2).2+tkQ T (wtQ T s h false) a i_2 else ((wtQ T s h false).S i_2).2)∧(if i_2=N0+(↑z:Int).toNat then ((wtQ T s h false).S i_2).3 else ((wtQ T s h false).S i_2).3)=((wtQ T s h false).S i_2).3∧(if i_2=N0+(↑z:Int).toNat then ((wtQ T s h false).S i_2).4 else ((wtQ T s h false).S i_2).4)=((wtQ T s h false).S i_2).4∧True)∧True)
def hof1 (s:Rs):Prop:=(∀ (i:Nat),i<s.1→rE N4∧(if i<N0 then Z0 else (s.S (i - N0)).1)=(s.S i).1∧(if i<N0 then Z0 else (s.S (i - N0)).2)=(s.S i).2∧(if i<N0 then Z0 else (s.S (i - N0)).3)=(s.S i).3∧(if i<N0 then Z0 else (s.S (i - N0)).4)=(s.S i).4∧True)
def hof4 (s:Rs):Prop:=(∀ (i:Nat),i<s.1→rE ((s.S i).sv.den)∧True∧True∧True∧True∧True)
def hof5 (s:Rs):Prop:=(∀ (i:Nat),i<s.3→rE ((s.O i).sv.den)∧True∧True∧True∧True∧True)
def hof2 (T:Tn) (s:Rs) (h:Int) (a:Int):Prop:=(True∧(True∧N0<N1∧True∧(∀ (i:Nat),i<s.1→rE true)∧rE N0∧rE N0∧(∀ (i:Nat),rE true)∧(N0+s.1)*(32:Nat)≤(140737488355328:Nat)∧N0+s.1≤(4611686018427387904:Nat)∧True∧True∧∃ (z:Nat),True∧h=h∧rE false∧a=a∧rE N0∧rE N0∧rE N0∧rE N0∧rE N0∧rE N0∧rE N0∧rE N0∧T.1=T.1∧(hof3 T)∧T.5=T.5∧T.6=T.6∧T.7=T.7∧T.8=T.8∧T.9=T.9∧rE T.10∧(hof6 T)∧s.1=s.1∧(hof4 s)∧s.3=s.3∧(hof5 s)∧s.5=s.5∧rE (Value.slice none N0 N0)∧rE (Value.slice none N0 N0)∧rE Z0∧rE N0∧N0+s.1=s.1∧rE (Value.slice none N0 N0)∧s.5=s.5∧s.1=N0+s.1∧(hof1 s)∧True)∧(True∧(∀ (i:Nat),i<s.1→rE true)∧rE N0∧rE N0∧(∀ (i:Nat),rE true)∧(N0+s.1)*(32:Nat)≤(140737488355328:Nat)∧N0+s.1≤(4611686018427387904:Nat)∧True∧N0<N1∧True∧True∧∃ (z:Nat),True∧h=h∧rE false∧a=a∧rE N0∧rE N0∧rE N0∧rE N0∧rE N0∧rE N0∧rE N0∧rE N0∧T.1=T.1∧(hof3 T)∧T.5=T.5∧T.6=T.6∧T.7=T.7∧T.8=T.8∧T.9=T.9∧rE T.10∧(hof6 T)∧s.1=s.1∧(hof4 s)∧s.3=s.3∧(hof5 s)∧s.5=s.5∧rE (Value.slice none N0 N0)∧rE (Value.slice none N0 N0)∧rE Z0∧rE N0∧N0+s.1=s.1∧rE (Value.slice none N0 N0)∧s.5=s.5∧s.1=N0+s.1∧(hof1 s)∧True)∧True)
def hof7 (T:Tn) (s:Rs) (h:Int) (a:Int) (z:Nat):Prop:=(¬(↑z:Int)<(↑(s.1+cbQ s h):Int)→N0<N1∧N0<N1∧rE (s.1+cbQ s h)∧N0+(s.1+cbQ s h)≤N0+(s.1+cbQ s h)∧(∀ (i_1:Nat),i_1<s.1+cbQ s h→rE N4∧rE N4∧((wtQ T s h false).S (i_1+ofQ false)).1=((wtQ T s h false).S i_1).1∧((if i_1+N0<z then ((wtQ T s h false).S (i_1+ofQ false)).2+tkQ T (wtQ T s h false) a (i_1+N0) else ((wtQ T s h false).S (i_1+ofQ false)).2)=if i_1<s.1+cbQ s h then ((wtQ T s h false).S i_1).2+tkQ T (wtQ T s h false) a i_1 else ((wtQ T s h false).S i_1).2)∧((wtQ T s h false).S (i_1+ofQ false)).3=((wtQ T s h false).S i_1).3∧((wtQ T s h false).S (i_1+ofQ false)).4=((wtQ T s h false).S i_1).4∧True)∧rE (s.3 - cbQ s h)∧(∀ (i:Nat),i<s.3 - cbQ s h→rE (((wtQ T s h false).O i).sv.den)∧True∧True∧True∧True∧True)∧s.5=s.5∧lvQ T (wtQ T s h false) a z=lvQ T (wtQ T s h false) a (s.1+cbQ s h)∧rE true∧True)
def hof8 (T:Tn) (s:Rs) (h:Int) (a:Int):Prop:=(True∧(∀ (i:Nat),i<s.1→rE true)∧rE N0∧rE N0∧(∀ (i:Nat),rE true)∧(N0+s.1)*(32:Nat)≤(140737488355328:Nat)∧N0+s.1≤(4611686018427387904:Nat)∧True∧True∧True∧∃ (z:Nat),True∧h=h∧rE false∧a=a∧rE N0∧rE N0∧rE N0∧rE N0∧rE N0∧rE N0∧rE N0∧rE N0∧T.1=T.1∧(hof3 T)∧T.5=T.5∧T.6=T.6∧T.7=T.7∧T.8=T.8∧T.9=T.9∧rE T.10∧(hof6 T)∧s.1=s.1∧(hof4 s)∧s.3=s.3∧(hof5 s)∧s.5=s.5∧rE (Value.slice none N0 N0)∧rE (Value.slice none N0 N0)∧rE Z0∧rE N0∧N0+s.1=s.1∧rE (Value.slice none N0 N0)∧s.5=s.5∧s.1=N0+s.1∧(hof1 s)∧True)
def hof9 (T:Tn) (s:Rs) (h:Int) (a:Int):Prop:=(True∧True∧(∀ (i:Nat),i<s.1→rE true)∧rE N0∧rE N0∧(∀ (i:Nat),rE true)∧(N0+s.1)*(32:Nat)≤(140737488355328:Nat)∧N0+s.1≤(4611686018427387904:Nat)∧True∧True∧∃ (z:Nat),True∧h=h∧rE false∧a=a∧rE N0∧rE N0∧rE N0∧rE N0∧rE N0∧rE N0∧rE N0∧rE N0∧T.1=T.1∧(hof3 T)∧T.5=T.5∧T.6=T.6∧T.7=T.7∧T.8=T.8∧T.9=T.9∧rE T.10∧(hof6 T)∧s.1=s.1∧(hof4 s)∧s.3=s.3∧(hof5 s)∧s.5=s.5∧rE (Value.slice none N0 N0)∧rE (Value.slice none N0 N0)∧rE Z0∧rE N0∧N0+s.1=s.1∧rE (Value.slice none N0 N0)∧s.5=s.5∧s.1=N0+s.1∧(hof1 s)∧True)
def hof10 (s:Rs) (h:Int) (z:Nat) (z_1:Nat):Prop:=(∀ (i_2:Nat),i_2<nQ s h z_1→rE N4∧(if i_2<nQ s h z then (S1 s i_2).1 else (s.O (↑z:Int).toNat).1)=(S1 s i_2).1∧(if i_2<nQ s h z then (S1 s i_2).2 else (s.O (↑z:Int).toNat).2)=(S1 s i_2).2∧(if i_2<nQ s h z then (S1 s i_2).3 else (s.O (↑z:Int).toNat).3)=(S1 s i_2).3∧(if i_2<nQ s h z then (S1 s i_2).4 else (s.O (↑z:Int).toNat).4)=(S1 s i_2).4∧True)
theorem hof_vc (T:Tn) (s:Rs) (h:Int) (a:Int):hof T s h a =
((True∧True∧True∧N0<N1∧(True∧N0<N1∧(True∧(hof8 T s h a)∧(hof9 T s h a)∧True)∧(True∧True∧True∧(∀ (i:Nat),i<s.1→rE true)∧rE N0∧rE N0∧(∀ (i:Nat),rE true)∧(N0+s.1)*(32:Nat)≤(140737488355328:Nat)∧N0+s.1≤(4611686018427387904:Nat)∧True∧True∧∃ (z:Nat),True∧h=h∧rE false∧a=a∧rE N0∧rE N0∧rE N0∧rE N0∧rE N0∧rE N0∧rE N0∧rE N0∧T.1=T.1∧(hof3 T)∧T.5=T.5∧T.6=T.6∧T.7=T.7∧T.8=T.8∧T.9=T.9∧rE T.10∧(hof6 T)∧s.1=s.1∧(hof4 s)∧s.3=s.3∧(hof5 s)∧s.5=s.5∧rE (Value.slice none N0 N0)∧rE (Value.slice none N0 N0)∧rE Z0∧rE N0∧N0+s.1=s.1∧rE (Value.slice none N0 N0)∧s.5=s.5∧s.1=(0 :
Nat)+s.1∧(hof1 s)∧True)∧True)∧(True∧(True∧N0<N1∧(hof8 T s h a)∧(hof9 T s h a)∧True)∧(True∧(∀ (i:Nat),i<s.1→rE true)∧rE N0∧rE N0∧(∀ (i:Nat),rE true)∧(N0+s.1)*(32:Nat)≤(140737488355328:Nat)∧N0+s.1≤(4611686018427387904:Nat)∧True∧N0<N1∧True∧True∧True∧∃ (z:Nat),True∧h=h∧rE false∧a=a∧rE N0∧rE N0∧rE N0∧rE N0∧rE N0∧rE N0∧rE N0∧rE N0∧T.1=T.1∧(hof3 T)∧T.5=T.5∧T.6=T.6∧T.7=T.7∧T.8=T.8∧T.9=T.9∧rE T.10∧(hof6 T)∧s.1=s.1∧(hof4 s)∧s.3=s.3∧(hof5 s)∧s.5=s.5∧rE (Value.slice none N0 N0)∧rE (Value.slice none N0 N0)∧rE Z0∧rE N0∧N0+s.1=s.1∧rE (Value.slice none N0 N0)∧s.5 =
s.5∧s.1=N0+s.1∧(hof1 s)∧True)∧(hof2 T s h a)∧True)∧(True∧(True∧N0<N1∧True∧True∧(∀ (i:Nat),i<s.1→rE true)∧rE N0∧rE N0∧(∀ (i:Nat),rE true)∧(N0+s.1)*(32:Nat)≤(140737488355328:Nat)∧N0+s.1≤(4611686018427387904:Nat)∧True∧True∧∃ (z:Nat),True∧h=h∧rE false∧a=a∧rE N0∧rE N0∧rE N0∧rE N0∧rE N0∧rE N0∧rE N0∧rE N0∧T.1=T.1∧(hof3 T)∧T.5=T.5∧T.6=T.6∧T.7=T.7∧T.8=T.8∧T.9=T.9∧rE T.10∧(hof6 T)∧s.1=s.1∧(hof4 s)∧s.3=s.3∧(hof5 s)∧s.5=s.5∧rE (Value.slice none N0 N0)∧rE (Value.slice none N0 N0)∧rE Z0∧rE N0∧N0+s.1=s.1∧rE (Value.slice none N0 N0)∧s.5=s.5∧s.1=N0+s.1∧(hof1 s)
∧ True)∧(hof2 T s h a)∧True)∧True)∧∀ (z:Nat),True→(∃ (z:Nat),(hoI s h z∧z≤cbQ s h)∧h=h∧rE false∧a=a∧rE N0∧rE N0∧rE N0∧rE N0∧rE N0∧rE N0∧rE N0∧rE N0∧Z0=(↑z:Int)∧T.1=T.1∧(hof3 T)∧T.5=T.5∧T.6=T.6∧T.7=T.7∧T.8=T.8∧T.9=T.9∧rE T.10∧(hof6 T)∧s.1=s.1∧(hof4 s)∧s.3=s.3∧(hof5 s)∧s.5=s.5∧rE (Value.slice none N0 N0)∧rE (Value.slice none N0 N0)∧rE Z0∧rE N0∧s.1=nQ s h z∧rE (Value.slice none N0 N0)∧s.5=s.5∧nQ s h z=s.1∧(∀ (i_1:Nat),i_1<nQ s h z→rE N4∧(s.S i_1).1=(S1 s i_1).1∧(s.S i_1).2=(S1 s i_1).2∧(s.S i_1).3=(S1 s i_1).3∧(s.S i_1).4=(S1 s i_1).4∧True)∧True)∧(∀ (z:Nat),hoI s h z∧z≤cbQ s h→N0<N1∧((↑z :
Int)<(↑s.3:Int)→N0<N1∧Z0≤(↑z:Int)∧(↑z:Int)<(↑s.3:Int)∧((s.O (↑z:Int).toNat).4=h→N0<N1∧N0<N1∧Z0≤(↑z:Int)∧(↑z:Int)<(↑s.3:Int)∧True∧(∀ (i:Nat),i<N1→rE true)∧rE N0∧rE (nQ s h z)∧(∀ (i:Nat),rE true)∧(nQ s h z+N1)*(32:Nat)≤(140737488355328:Nat)∧nQ s h z+N1≤(4611686018427387904:Nat)∧rI ((↑z:Int)+(1:Int))∧∃ (z_1:Nat),(hoI s h z_1∧z_1≤cbQ s h)∧s.3 - z_1<s.3 - z∧h=h∧rE false∧a=a∧rE N0∧rE N0∧rE N0∧rE N0∧rE N0∧rE N0∧rE N0∧rE N0∧(↑z:Int)+(1:Int)=(↑z_1:Int)∧T.1=T.1∧(hof3 T)∧T.5=T.5∧T.6=T.6∧T.7=T.7∧T.8=T.8∧T.9=T.9∧rE T.10∧(hof6 T)∧s.1=s.1∧(hof4 s)∧s.3=s.3∧(hof5 s)∧s.5=s.5
∧ rE (Value.slice none N0 N0)∧rE (Value.slice none N0 N0)∧rE Z0∧rE N0∧nQ s h z+N1=nQ s h z_1∧rE (Value.slice none N0 N0)∧s.5=s.5∧nQ s h z_1=nQ s h z+N1∧(hof10 s h z z_1)∧True)∧(¬(s.O (↑z:Int).toNat).4=h→N0<N1∧N0<N1∧Z0≤(↑z:Int)∧(↑z:Int)<(↑s.3:Int)∧True∧(∀ (i:Nat),i<N1→rE true)∧N1*(32:Nat)≤(140737488355328:Nat)∧N1≤(4611686018427387904:Nat)∧rI ((↑z:Int)+(1:Int))∧∃ (z_1:Nat),(hoI s h z_1∧cbQ s h<z_1)∧s.3 - z_1<s.3 - z∧h=h∧rE false∧a=a∧rE N0∧rE N0∧rE N0∧rE N0∧rE N0∧rE N0∧rE N0∧rE N0∧(↑z:Int)+(1:Int)=(↑z_1:Int)∧T.1=T.1∧(hof3 T)∧T.5=T.5∧T.6=T.6∧T.7=T.7∧T.8
= T.8∧T.9=T.9∧rE T.10∧(hof6 T)∧s.1=s.1∧(hof4 s)∧s.3=s.3∧(hof5 s)∧s.5=s.5∧rE (Value.slice none N0 N0)∧rE (Value.slice none N0 N0)∧rE Z0∧rE N0∧nQ s h z=nQ s h z_1∧rE N0∧N1=z_1 - cbQ s h∧s.5=s.5∧nQ s h z_1=nQ s h z∧(∀ (i_2:Nat),i_2<nQ s h z_1→rE N4∧rE ((S1 s i_2).1)∧rE ((S1 s i_2).2)∧rE ((S1 s i_2).3)∧rE ((S1 s i_2).4)∧True)∧z_1 - cbQ s h=N1∧(∀ (i_2:Nat),i_2<z_1 - cbQ s h→rE N4∧(s.O (↑z:Int).toNat).1=(O1 s h i_2).1∧(s.O (↑z:Int).toNat).2=(O1 s h i_2).2∧(s.O (↑z:Int).toNat).3=(O1 s h i_2).3∧(s.O (↑z:Int).toNat).4=(O1 s h i_2).4∧True)∧True))∧(¬(↑z:Int)<(↑s.3:Int)→(∃ (z_1:Nat),hpI (wtQ T s h false) z_1∧rE N0∧rE N0∧rE N0∧rE N0∧rE N0∧rE N0∧a =
lvQ T (wtQ T s h false) a z_1∧Z0=(↑z_1:Int)∧T.1=T.1∧(hof3 T)∧T.5=T.5∧T.6=T.6∧T.7=T.7∧T.8=T.8∧T.9=T.9∧rE T.10∧(hof6 T)∧rE (Value.slice none N0 N0)∧rE (Value.slice none N0 N0)∧rE Z0∧rE N0∧nQ s h z=s.1+cbQ s h∧N0=s.3 - cbQ s h∧s.5=s.5∧N0+(s.1+cbQ s h)=nQ s h z∧(∀ (i_2:Nat),i_2<N0+(s.1+cbQ s h)→rE N4∧(S1 s i_2).1=((wtQ T s h false).S i_2).1∧((S1 s i_2).2=if i_2<z_1 then ((wtQ T s h false).S i_2).2+tkQ T (wtQ T s h false) a i_2 else ((wtQ T s h false).S i_2).2)∧(S1 s i_2).3=((wtQ T s h false).S i_2).3∧(S1 s i_2).4=((wtQ T s h false).S i_2).4∧True)∧True)∧∀ (z:Nat),hpI (wtQ T s h false) z→N0<N1∧(hof0 T s h a z)∧(hof7 T s h a z)))∧∀ (z:Nat),hoI s h z∧cbQ s h<z→N0<(1 :
Nat)∧((↑z:Int)<(↑s.3:Int)→N0<N1∧Z0≤(↑z:Int)∧(↑z:Int)<(↑s.3:Int)∧((s.O (↑z:Int).toNat).4=h→N0<N1∧N0<N1∧Z0≤(↑z:Int)∧(↑z:Int)<(↑s.3:Int)∧True∧(∀ (i:Nat),i<N1→rE true)∧rE N0∧rE (nQ s h z)∧(∀ (i:Nat),rE true)∧(nQ s h z+N1)*(32:Nat)≤(140737488355328:Nat)∧nQ s h z+N1≤(4611686018427387904:Nat)∧rI ((↑z:Int)+(1:Int))∧∃ (z_1:Nat),(hoI s h z_1∧cbQ s h<z_1)∧s.3 - z_1<s.3 - z∧h=h∧rE false∧a=a∧rE N0∧rE N0∧rE N0∧rE N0∧rE N0∧rE N0∧rE N0∧rE N0∧(↑z:Int)+(1:Int)=(↑z_1:Int)∧T.1=T.1∧(hof3 T)∧T.5=T.5∧T.6=T.6∧T.7=T.7∧T.8=T.8∧T.9=T.9∧rE T.10∧(hof6 T)∧s.1=s.1∧(hof4 s)∧s.3=s.3∧(hof5
s)∧s.5=s.5∧rE (Value.slice none N0 N0)∧rE (Value.slice none N0 N0)∧rE Z0∧rE N0∧nQ s h z+N1=nQ s h z_1∧rE N0∧z - cbQ s h=z_1 - cbQ s h∧s.5=s.5∧nQ s h z_1=nQ s h z+N1∧(hof10 s h z z_1)∧z_1 - cbQ s h=z - cbQ s h∧(∀ (i_2:Nat),i_2<z_1 - cbQ s h→rE N4∧rE ((O1 s h i_2).1)∧rE ((O1 s h i_2).2)∧rE ((O1 s h i_2).3)∧rE ((O1 s h i_2).4)∧True)∧True)∧(¬(s.O (↑z:Int).toNat).4=h→N0<N1∧N0<N1∧Z0≤(↑z:Int)∧(↑z:Int)<(↑s.3:Int)∧True∧(∀ (i:Nat),i<N1→rE true)∧rE N0∧rE (z - cbQ s h)∧(∀ (i:Nat),rE true)∧(z - cbQ s h+N1)*(32:Nat)≤(140737488355328:Nat)∧z - cbQ s h+N1≤(4611686018427387904:Nat)∧rI ((↑z:Int)+(1:Int))∧∃ (z_1:Nat),(hoI s h z_1∧cbQ
s h<z_1)∧s.3 - z_1<s.3 - z∧h=h∧rE false∧a=a∧rE N0∧rE N0∧rE N0∧rE N0∧rE N0∧rE N0∧rE N0∧rE N0∧(↑z:Int)+(1:Int)=(↑z_1:Int)∧T.1=T.1∧(hof3 T)∧T.5=T.5∧T.6=T.6∧T.7=T.7∧T.8=T.8∧T.9=T.9∧rE T.10∧(hof6 T)∧s.1=s.1∧(hof4 s)∧s.3=s.3∧(hof5 s)∧s.5=s.5∧rE (Value.slice none N0 N0)∧rE (Value.slice none N0 N0)∧rE Z0∧rE N0∧nQ s h z=nQ s h z_1∧rE N0∧z - cbQ s h+N1=z_1 - cbQ s h∧s.5=s.5∧nQ s h z_1=nQ s h z∧(∀ (i_2:Nat),i_2<nQ s h z_1→rE N4∧rE ((S1 s i_2).1)∧rE ((S1 s i_2).2)∧rE ((S1 s i_2).3)∧rE ((S1 s i_2).4)∧True)∧z_1 - cbQ s h=z - cbQ s h+N1∧(∀ (i_2:Nat),i_2<z_1 - cbQ s h→rE N4∧(if i_2<z - cbQ s h then (O1 s h i_2).1 else
(s.O (↑z:Int).toNat).1)=(O1 s h i_2).1∧(if i_2<z - cbQ s h then (O1 s h i_2).2 else (s.O (↑z:Int).toNat).2)=(O1 s h i_2).2∧(if i_2<z - cbQ s h then (O1 s h i_2).3 else (s.O (↑z:Int).toNat).3)=(O1 s h i_2).3∧(if i_2<z - cbQ s h then (O1 s h i_2).4 else (s.O (↑z:Int).toNat).4)=(O1 s h i_2).4∧True)∧True))∧(¬(↑z:Int)<(↑s.3:Int)→(∃ (z_1:Nat),hpI (wtQ T s h false) z_1∧rE N0∧rE N0∧rE N0∧rE N0∧rE N0∧rE N0∧a=lvQ T (wtQ T s h false) a z_1∧Z0=(↑z_1:Int)∧T.1=T.1∧(hof3 T)∧T.5=T.5∧T.6=T.6∧T.7=T.7∧T.8=T.8∧T.9=T.9∧rE T.10∧(hof6 T)∧rE (Value.slice none N0 N0)∧rE (Value.slice none N0 N0)∧rE Z0∧rE N0∧nQ s h z=s.1+cbQ s h∧z - cbQ s h=s.3 - cbQ s h∧N0+(z - cbQ s h)≤z - cbQ s h∧(∀ (i:Nat),
i<s.3 - cbQ s h→(O1 s h (i+N0)).sv.den=((wtQ T s h false).O i).sv.den∧rE N4∧True∧True∧True∧True∧True)∧s.5=s.5∧N0+(s.1+cbQ s h)=nQ s h z∧(∀ (i_2:Nat),i_2<N0+(s.1+cbQ s h)→rE N4∧(S1 s i_2).1=((wtQ T s h false).S i_2).1∧((S1 s i_2).2=if i_2<z_1 then ((wtQ T s h false).S i_2).2+tkQ T (wtQ T s h false) a i_2 else ((wtQ T s h false).S i_2).2)∧(S1 s i_2).3=((wtQ T s h false).S i_2).3∧(S1 s i_2).4=((wtQ T s h false).S i_2).4∧True)∧True)∧∀ (z:Nat),hpI (wtQ T s h false) z→N0<N1∧(hof0 T s h a z)∧(hof7 T s h a z))):=by kernel_rfl
end Go.Proofs.Ytpdcajchppoocaa

set_option maxRecDepth 100000
namespace Go.Proofs.Ytpdcajchppoocaa
open Go Go.Lg
local notation "Z0"=>(0:Int)
local notation "N0"=>(0:Nat)
local notation "Z1"=>(1:Int)
local notation "N1"=>(1:Nat)
local notation "N140737488355328"=>(140737488355328:Nat)
local notation "N32"=>(32:Nat)
local notation "N4"=>(4:Nat)
local notation "N4611686018427387904"=>(4611686018427387904:Nat)
def hot4 (T:Tn):Prop:=(∀ (i:Nat),i<T.1→rE ((bxV T i).den)∧True∧True∧True∧True)
def hot5 (T:Tn):Prop:=(∀ (i:Nat),i<T.10→rE ((ldV T i).den)∧True∧True∧True)
def hot0 (T:Tn) (s:Rs) (h:Int) (a:Int) (z:Nat):Prop:=((↑z:Int)<(↑(s.1+cbQ s h - N1):Int)→N0<N1∧Z0≤(↑z:Int)∧(↑z:Int)<(↑(s.1+cbQ s h - N1):Int)∧N1+(↑z:Int).toNat<N1+(s.1+cbQ s h - N1)∧N0<N1∧N0<N1∧Z0≤(hcQ T s h true a z (ofQ true+(↑z:Int).toNat)).1∧(hcQ T s h true a z (ofQ true+(↑z:Int).toNat)).1<(↑T.1:Int)∧N0<N1∧N0<N1∧N0<N1∧N0<N1∧rI (T.5*(hcQ T s h true a z (ofQ true+(↑z:Int).toNat)).3)∧rI (T.2 (hcQ T s h true a z (ofQ true+(↑z:Int).toNat)).b.toNat - T.5*(hcQ T s h true a z (ofQ true+(↑z:Int).toNat)).3)∧N0<N1∧rI (T.2 (hcQ T s h true a z (ofQ true+(↑z:Int).toNat)).b.toNat - T.5*(hcQ T s h true a z (ofQ true+(↑z:Int).toNat)).3 - (hcQ T s h true a z (ofQ true+(↑z:Int).toNat)).2)∧N0<N1∧N0<N1∧rI ((hcQ T s h true a z (ofQ true+(↑z:Int).toNat)).2+min (min (lvQ T (wtQ T s h true) a z) (T.3 (hcQ T s h true a z (ofQ true+(↑z:Int).toNat)).b.toNat)) (T.2 (hcQ T s h true a z (ofQ true+(↑z:Int).toNat)).b.toNat - T.5*(hcQ T s h true a z (ofQ true+(↑z:Int).toNat)).3 - (hcQ T s h true a z (ofQ true+(↑z:Int).toNat)).2))∧Z0≤(↑z:Int)∧(↑z:Int)<(↑(s.1+cbQ s h - N1):Int)∧N1+N1≤N4∧N1+(↑z:Int).toNat<N1+(s.1+cbQ s h - N1)∧(∀ (i':Nat),rE true)∧rI (lvQ T (wtQ T s h true) a z - min (min (lvQ T (wtQ T s h true) a z) (T.3 (hcQ T s h true a z (ofQ true+(↑z:Int).toNat)).b.toNat)) (T.2 (hcQ T s h true a z (ofQ true+(↑z:Int).toNat)).b.toNat - T.5*(hcQ T s h true a z (ofQ true+(↑z:Int).toNat)).3 - (hcQ T s h true a z (ofQ true+(↑z:Int).toNat)).2))∧rI ((↑z:Int)+Z1)∧∃ (z_1:Nat),hpI (wtQ T s h true) z_1∧s.1+cbQ s h - N1 - z_1<s.1+cbQ s h - N1 - z∧rE N0∧rE N0∧rE N0∧rE N0∧rE N0∧rE N0∧lvQ T (wtQ T s h true) a z - min (min (lvQ T (wtQ T s h true) a z) (T.3 (hcQ T s h true a z (ofQ true+(↑z:Int).toNat)).b.toNat)) (T.2 (hcQ T s h true a z (ofQ true+(↑z:Int).toNat)).b.toNat - T.5*(hcQ T s h true a z (ofQ true+(↑z:Int).toNat)).3 - (hcQ T s h true a z (ofQ true+(↑z:Int).toNat)).2)=lvQ T (wtQ T s h true) a z_1∧(↑z:Int)+Z1=(↑z_1:Int)∧T.1=T.1∧(hot4 T)∧T.5=T.5∧T.6=T.6∧T.7=T.7∧T.8=T.8∧T.9=T.9∧rE T.10∧(hot5 T)∧rE (Value.slice none N0 N0)∧rE (Value.slice none N0 N0)∧rE Z0∧rE N1∧rE (s.1+cbQ s h - N1)∧rE (s.3 - cbQ s h+N1)∧(∀ (i:Nat),i<s.3 - cbQ s h+N1→rE (((wtQ T s h true).O i).sv.den)∧True∧True∧True∧True∧True)∧((s.5+if (S1 s N0).3<T.6 then T.8 else T.9)=s.5+if (S1 s N0).3<T.6 then T.8 else T.9)∧rE (N1+(s.1+cbQ s h - N1))∧(∀ (i_2:Nat),i_2<N1+(s.1+cbQ s h - N1)→rE N4∧(if i_2=N1+(↑z:Int).toNat then (hcQ T s h true a z i_2).1 else (hcQ T s h true a z i_2).1)=(hcQ T s h true a z_1 i_2).1∧(if i_2=N1+(↑z:Int).toNat then (hcQ T s h true a z (ofQ true+(↑z:Int).toNat)).2+min (min (lvQ T (wtQ T s h true) a z) (T.3 (hcQ T s h true a z (ofQ true+(↑z:Int).toNat)).b.toNat)) (T.2 (hcQ T s h true a z (ofQ true+(↑z:Int).toNat)).b.toNat - T.5*(hcQ T s h true a z (ofQ true+(↑z:Int).toNat)).3 - (hcQ T s h true a z (ofQ true+(↑z:Int).toNat)).2) else (hcQ T s h true a z i_2).2)=(hcQ T s h true a z_1 i_2).2∧(if i_2=N1+(↑z:Int).toNat then (hcQ T s h true a z i_2).3 else (hcQ T s h true a z i_2).3)=(hcQ T s h true a z_1 i_2).3∧(if i_2=N1+(↑z:Int).toNat then (hcQ T s h true a z i_2).4 else (hcQ T s h true a z i_2).4)=(hcQ T s h true a z_1 i_2).4∧True)∧True)
def hot1 (T:Tn) (s:Rs) (h:Int) (a:Int) (z:Nat):Prop:=(¬(↑z:Int)<(↑(s.1+cbQ s h - N1):Int)→N0<N1∧N0<N1∧rE (s.1+cbQ s h - N1)∧N1+(s.1+cbQ s h - N1)≤N1+(s.1+cbQ s h - N1)∧(∀ (i_1:Nat),i_1<s.1+cbQ s h - N1→rE N4∧rE N4∧((wtQ T s h true).S (i_1+ofQ true - N1)).1=((wtQ T s h true).S i_1).1∧((if i_1+N1 - N1<z then ((wtQ T s h true).S (i_1+ofQ true - N1)).2+tkQ T (wtQ T s h true) a (i_1+N1 - N1) else ((wtQ T s h true).S (i_1+ofQ true - N1)).2)=if i_1<s.1+cbQ s h - N1 then ((wtQ T s h true).S i_1).2+tkQ T (wtQ T s h true) a i_1 else ((wtQ T s h true).S i_1).2)∧((wtQ T s h true).S (i_1+ofQ true - N1)).3=((wtQ T s h true).S i_1).3∧((wtQ T s h true).S (i_1+ofQ true - N1)).4=((wtQ T s h true).S i_1).4∧True)∧rE (s.3 - cbQ s h+N1)∧(∀ (i:Nat),i<s.3 - cbQ s h+N1→rE (((wtQ T s h true).O i).sv.den)∧True∧True∧True∧True∧True)∧((s.5+if (S1 s N0).3<T.6 then T.8 else T.9)=s.5+if (S1 s N0).3<T.6 then T.8 else T.9)∧lvQ T (wtQ T s h true) a z=lvQ T (wtQ T s h true) a (s.1+cbQ s h - N1)∧rE true∧True)
def hot2 (s:Rs):Prop:=(∀ (i:Nat),i<s.1→rE N4∧(if i<N0 then Z0 else (s.S (i - N0)).1)=(s.S i).1∧(if i<N0 then Z0 else (s.S (i - N0)).2)=(s.S i).2∧(if i<N0 then Z0 else (s.S (i - N0)).3)=(s.S i).3∧(if i<N0 then Z0 else (s.S (i - N0)).4)=(s.S i).4∧True)
def hot6 (s:Rs):Prop:=(∀ (i:Nat),i<s.1→rE ((s.S i).sv.den)∧True∧True∧True∧True∧True)
def hot7 (s:Rs):Prop:=(∀ (i:Nat),i<s.3→rE ((s.O i).sv.den)∧True∧True∧True∧True∧True)
def hot3 (T:Tn) (s:Rs) (h:Int) (a:Int):Prop:=(True∧(True∧N0<N1∧True∧(∀ (i:Nat),i<s.1→rE true)∧rE N0∧rE N0∧(∀ (i:Nat),rE true)∧(N0+s.1)*N32≤N140737488355328∧N0+s.1≤N4611686018427387904∧True∧True∧∃ (z:Nat),True∧h=h∧rE true∧a=a∧rE N0∧rE N0∧rE N0∧rE N0∧rE N0∧rE N0∧rE N0∧rE N0∧T.1=T.1∧(hot4 T)∧T.5=T.5∧T.6=T.6∧T.7=T.7∧T.8=T.8∧T.9=T.9∧rE T.10∧(hot5 T)∧s.1=s.1∧(hot6 s)∧s.3=s.3∧(hot7 s)∧s.5=s.5∧rE (Value.slice none N0 N0)∧rE (Value.slice none N0 N0)∧rE Z0∧rE N0∧N0+s.1=s.1∧rE (Value.slice none N0 N0)∧s.5=s.5∧s.1=N0+s.1∧(hot2 s)∧True)∧(True∧(∀ (i:Nat),i<s.1→rE true)∧rE N0∧rE N0∧(∀ (i:Nat),rE true)∧(N0+s.1)*N32≤N140737488355328∧N0+s.1≤N4611686018427387904∧True∧N0<N1∧True∧True∧∃ (z:Nat),True∧h=h∧rE true∧a=a∧rE N0∧rE N0∧rE N0∧rE N0∧rE N0∧rE N0∧rE N0∧rE N0∧T.1=T.1∧(hot4 T)∧T.5=T.5∧T.6=T.6∧T.7=T.7∧T.8=T.8∧T.9=T.9∧rE T.10∧(hot5 T)∧s.1=s.1∧(hot6 s)∧s.3=s.3∧(hot7 s)∧s.5=s.5∧rE (Value.slice none N0 N0)∧rE (Value.slice none N0 N0)∧rE Z0∧rE N0∧N0+s.1=s.1∧rE (Value.slice none N0 N0)∧s.5=s.5∧s.1=N0+s.1∧(hot2 s)∧True)∧True)
def hot8 (T:Tn) (s:Rs) (h:Int) (a:Int):Prop:=(True∧(∀ (i:Nat),i<s.1→rE true)∧rE N0∧rE N0∧(∀ (i:Nat),rE true)∧(N0+s.1)*N32≤N140737488355328∧N0+s.1≤N4611686018427387904∧True∧True∧True∧∃ (z:Nat),True∧h=h∧rE true∧a=a∧rE N0∧rE N0∧rE N0∧rE N0∧rE N0∧rE N0∧rE N0∧rE N0∧T.1=T.1∧(hot4 T)∧T.5=T.5∧T.6=T.6∧T.7=T.7∧T.8=T.8∧T.9=T.9∧rE T.10∧(hot5 T)∧s.1=s.1∧(hot6 s)∧s.3=s.3∧(hot7 s)∧s.5=s.5∧rE (Value.slice none N0 N0)∧rE (Value.slice none N0 N0)∧rE Z0∧rE N0∧N0+s.1=s.1∧rE (Value.slice none N0 N0)∧s.5=s.5∧s.1=N0+s.1∧(hot2 s)∧True)
def hot9 (T:Tn) (s:Rs) (h:Int) (a:Int):Prop:=(True∧True∧(∀ (i:Nat),i<s.1→rE true)∧rE N0∧rE N0∧(∀ (i:Nat),rE true)∧(N0+s.1)*N32≤N140737488355328∧N0+s.1≤N4611686018427387904∧True∧True∧∃ (z:Nat),True∧h=h∧rE true∧a=a∧rE N0∧rE N0∧rE N0∧rE N0∧rE N0∧rE N0∧rE N0∧rE N0∧T.1=T.1∧(hot4 T)∧T.5=T.5∧T.6=T.6∧T.7=T.7∧T.8=T.8∧T.9=T.9∧rE T.10∧(hot5 T)∧s.1=s.1∧(hot6 s)∧s.3=s.3∧(hot7 s)∧s.5=s.5∧rE (Value.slice none N0 N0)∧rE (Value.slice none N0 N0)∧rE Z0∧rE N0∧N0+s.1=s.1∧rE (Value.slice none N0 N0)∧s.5=s.5∧s.1=N0+s.1∧(hot2 s)∧True)
def hot10 (T:Tn) (s:Rs) (h:Int) (a:Int) (z_1:Nat):Prop:=(∀ (i_2:Nat),i_2<N1+(s.1+cbQ s h - N1)→rE N4∧(S1 s i_2).1=(hcQ T s h true a z_1 i_2).1∧(S1 s i_2).2=(hcQ T s h true a z_1 i_2).2∧(S1 s i_2).3=(hcQ T s h true a z_1 i_2).3∧(S1 s i_2).4=(hcQ T s h true a z_1 i_2).4∧True)
def hot11 (T:Tn) (s:Rs) (h:Int) (a:Int) (z:Nat):Prop:=((↑(nQ s h z):Int)<(2:Int)→N0<N1∧N0<N1∧s.1=s.1+cbQ s h - N1∧(∀ (i:Nat),i<s.1+cbQ s h - N1→(s.S i).sv.den=(psQ T (wtQ T s h true) a (wtQ T s h true).n i).sv.den∧True∧True∧True∧True∧True)∧s.3=s.3 - cbQ s h+N1∧(∀ (i:Nat),i<s.3 - cbQ s h+N1→(s.O i).sv.den=((wtQ T s h true).O i).sv.den∧True∧True∧True∧True∧True)∧(s.5=s.5+if (S1 s N0).3<T.6 then T.8 else T.9)∧Z0=lvQ T (wtQ T s h true) a (s.1+cbQ s h - N1)∧false=true∧True)
def hot12 (s:Rs) (h:Int) (z:Nat) (z_1:Nat):Prop:=(∀ (i_2:Nat),i_2<nQ s h z_1→rE N4∧(if i_2<nQ s h z then (S1 s i_2).1 else (s.O (↑z:Int).toNat).1)=(S1 s i_2).1∧(if i_2<nQ s h z then (S1 s i_2).2 else (s.O (↑z:Int).toNat).2)=(S1 s i_2).2∧(if i_2<nQ s h z then (S1 s i_2).3 else (s.O (↑z:Int).toNat).3)=(S1 s i_2).3∧(if i_2<nQ s h z then (S1 s i_2).4 else (s.O (↑z:Int).toNat).4)=(S1 s i_2).4∧True)
theorem hot_vc (T:Tn) (s:Rs) (h:Int) (a:Int):hot T s h a =
((True∧True∧True∧N0<N1∧(True∧N0<N1∧(True∧(hot8 T s h a)∧(hot9 T s h a)∧True)∧(True∧True∧True∧(∀ (i:Nat),i<s.1→rE true)∧rE N0∧rE N0∧(∀ (i:Nat),rE true)∧(N0+s.1)*N32≤N140737488355328∧N0+s.1≤N4611686018427387904∧True∧True∧∃ (z:Nat),True∧h=h∧rE true∧a=a∧rE N0∧rE N0∧rE N0∧rE N0∧rE N0∧rE N0∧rE N0∧rE N0∧T.1=T.1∧(hot4 T)∧T.5=T.5∧T.6=T.6∧T.7=T.7∧T.8=T.8∧T.9=T.9∧rE T.10∧(hot5 T)∧s.1=s.1∧(hot6 s)∧s.3=s.3∧(hot7 s)∧s.5=s.5∧rE (Value.slice none N0 N0)∧rE (Value.slice none N0 N0)∧rE Z0∧rE N0∧N0+s.1=s.1∧rE (Value.slice none N0 N0)∧s.5=s.5∧s.1=(0 :
Nat)+s.1∧(hot2 s)∧True)∧True)∧(True∧(True∧N0<N1∧(hot8 T s h a)∧(hot9 T s h a)∧True)∧(True∧(∀ (i:Nat),i<s.1→rE true)∧rE N0∧rE N0∧(∀ (i:Nat),rE true)∧(N0+s.1)*N32≤N140737488355328∧N0+s.1≤N4611686018427387904∧True∧N0<N1∧True∧True∧True∧∃ (z:Nat),True∧h=h∧rE true∧a=a∧rE N0∧rE N0∧rE N0∧rE N0∧rE N0∧rE N0∧rE N0∧rE N0∧T.1=T.1∧(hot4 T)∧T.5=T.5∧T.6=T.6∧T.7=T.7∧T.8=T.8∧T.9=T.9∧rE T.10∧(hot5 T)∧s.1=s.1∧(hot6 s)∧s.3=s.3∧(hot7 s)∧s.5=s.5∧rE (Value.slice none N0 N0)∧rE (Value.slice none N0 N0)∧rE Z0∧rE N0∧N0+s.1=s.1∧rE (Value.slice none N0 N0)∧s.5 =
s.5∧s.1=N0+s.1∧(hot2 s)∧True)∧(hot3 T s h a)∧True)∧(True∧(True∧N0<N1∧True∧True∧(∀ (i:Nat),i<s.1→rE true)∧rE N0∧rE N0∧(∀ (i:Nat),rE true)∧(N0+s.1)*N32≤N140737488355328∧N0+s.1≤N4611686018427387904∧True∧True∧∃ (z:Nat),True∧h=h∧rE true∧a=a∧rE N0∧rE N0∧rE N0∧rE N0∧rE N0∧rE N0∧rE N0∧rE N0∧T.1=T.1∧(hot4 T)∧T.5=T.5∧T.6=T.6∧T.7=T.7∧T.8=T.8∧T.9=T.9∧rE T.10∧(hot5 T)∧s.1=s.1∧(hot6 s)∧s.3=s.3∧(hot7 s)∧s.5=s.5∧rE (Value.slice none N0 N0)∧rE (Value.slice none N0 N0)∧rE Z0∧rE N0∧N0+s.1=s.1∧rE (Value.slice none N0 N0)∧s.5=s.5∧s.1=N0+s.1∧(hot2 s) ∧
True)∧(hot3 T s h a)∧True)∧True)∧∀ (z:Nat),True→(∃ (z:Nat),(hoI s h z∧z≤cbQ s h)∧h=h∧rE true∧a=a∧rE N0∧rE N0∧rE N0∧rE N0∧rE N0∧rE N0∧rE N0∧rE N0∧Z0=(↑z:Int)∧T.1=T.1∧(hot4 T)∧T.5=T.5∧T.6=T.6∧T.7=T.7∧T.8=T.8∧T.9=T.9∧rE T.10∧(hot5 T)∧s.1=s.1∧(hot6 s)∧s.3=s.3∧(hot7 s)∧s.5=s.5∧rE (Value.slice none N0 N0)∧rE (Value.slice none N0 N0)∧rE Z0∧rE N0∧s.1=nQ s h z∧rE (Value.slice none N0 N0)∧s.5=s.5∧nQ s h z=s.1∧(∀ (i_1:Nat),i_1<nQ s h z→rE N4∧(s.S i_1).1=(S1 s i_1).1∧(s.S i_1).2=(S1 s i_1).2∧(s.S i_1).3=(S1 s i_1).3∧(s.S i_1).4=(S1 s i_1).4∧True)∧True)∧(∀ (z:Nat),hoI s h z∧z≤cbQ s h→N0<N1∧((↑z:Int)
< (↑s.3:Int)→N0<N1∧Z0≤(↑z:Int)∧(↑z:Int)<(↑s.3:Int)∧((s.O (↑z:Int).toNat).4=h→N0<N1∧N0<N1∧Z0≤(↑z:Int)∧(↑z:Int)<(↑s.3:Int)∧True∧(∀ (i:Nat),i<N1→rE true)∧rE N0∧rE (nQ s h z)∧(∀ (i:Nat),rE true)∧(nQ s h z+N1)*N32≤N140737488355328∧nQ s h z+N1≤N4611686018427387904∧rI ((↑z:Int)+Z1)∧∃ (z_1:Nat),(hoI s h z_1∧z_1≤cbQ s h)∧s.3 - z_1<s.3 - z∧h=h∧rE true∧a=a∧rE N0∧rE N0∧rE N0∧rE N0∧rE N0∧rE N0∧rE N0∧rE N0∧(↑z:Int)+Z1=(↑z_1:Int)∧T.1=T.1∧(hot4 T)∧T.5=T.5∧T.6=T.6∧T.7=T.7∧T.8=T.8∧T.9=T.9∧rE T.10∧(hot5 T)∧s.1=s.1∧(hot6 s)∧s.3=s.3∧(hot7 s)∧s.5=s.5∧rE
(Value.slice none N0 N0)∧rE (Value.slice none N0 N0)∧rE Z0∧rE N0∧nQ s h z+N1=nQ s h z_1∧rE (Value.slice none N0 N0)∧s.5=s.5∧nQ s h z_1=nQ s h z+N1∧(hot12 s h z z_1)∧True)∧(¬(s.O (↑z:Int).toNat).4=h→N0<N1∧N0<N1∧Z0≤(↑z:Int)∧(↑z:Int)<(↑s.3:Int)∧True∧(∀ (i:Nat),i<N1→rE true)∧N1*N32≤N140737488355328∧N1≤N4611686018427387904∧rI ((↑z:Int)+Z1)∧∃ (z_1:Nat),(hoI s h z_1∧cbQ s h<z_1)∧s.3 - z_1<s.3 - z∧h=h∧rE true∧a=a∧rE N0∧rE N0∧rE N0∧rE N0∧rE N0∧rE N0∧rE N0∧rE N0∧(↑z:Int)+Z1=(↑z_1:Int)∧T.1=T.1∧(hot4 T)∧T.5=T.5∧T.6=T.6∧T.7=T.7∧T.8=T.8
∧ T.9=T.9∧rE T.10∧(hot5 T)∧s.1=s.1∧(hot6 s)∧s.3=s.3∧(hot7 s)∧s.5=s.5∧rE (Value.slice none N0 N0)∧rE (Value.slice none N0 N0)∧rE Z0∧rE N0∧nQ s h z=nQ s h z_1∧rE N0∧N1=z_1 - cbQ s h∧s.5=s.5∧nQ s h z_1=nQ s h z∧(∀ (i_2:Nat),i_2<nQ s h z_1→rE N4∧rE ((S1 s i_2).1)∧rE ((S1 s i_2).2)∧rE ((S1 s i_2).3)∧rE ((S1 s i_2).4)∧True)∧z_1 - cbQ s h=N1∧(∀ (i_2:Nat),i_2<z_1 - cbQ s h→rE N4∧(s.O (↑z:Int).toNat).1=(O1 s h i_2).1∧(s.O (↑z:Int).toNat).2=(O1 s h i_2).2∧(s.O (↑z:Int).toNat).3=(O1 s h i_2).3∧(s.O (↑z:Int).toNat).4=(O1 s h i_2).4∧True)∧True))∧(¬(↑z:Int)<(↑s.3:Int)→N0<N1∧(hot11 T s h a z)∧(¬(↑(nQ s h z):Int)<(2:Int)→N0<N1∧Z0≤Z0∧Z0 <
(↑(nQ s h z):Int)∧N0+Int.toNat Z0<nQ s h z∧N0<N1∧rI (h+T.7)∧N0<N1∧N0<N1∧((S1 s (N0+Int.toNat Z0)).3<T.6→N0<N1∧rI ((S1 s (N0+Int.toNat Z0)).3+Z1)∧N0<N1∧N0<N1∧rI (s.5+T.8)∧N0<N1∧Z0≤Z1∧Z1≤(↑(nQ s h z):Int)∧(↑(nQ s h z):Int)≤(↑(nQ s h z):Int)∧N0<N1∧N0<N1∧True∧(∀ (i:Nat),i<N1→rE true)∧N1*N32≤N140737488355328∧N1≤N4611686018427387904∧(∃ (z_1:Nat),hpI (wtQ T s h true) z_1∧rE N0∧rE N0∧rE N0∧rE N0∧rE N0∧rE N0∧a=lvQ T (wtQ T s h true) a z_1∧Z0=(↑z_1:Int)∧T.1=T.1∧(hot4 T)∧T.5=T.5
∧ T.6=T.6∧T.7=T.7∧T.8=T.8∧T.9=T.9∧rE T.10∧(hot5 T)∧rE (Value.slice none N0 N0)∧rE (Value.slice none N0 N0)∧rE Z0∧N0+Int.toNat Z1=N1∧((↑(nQ s h z):Int) - Z1).toNat=s.1+cbQ s h - N1∧N1=s.3 - cbQ s h+N1∧N0+N1≤N1∧(∀ (i:Nat),i<s.3 - cbQ s h+N1→((rowsK (Try.prog.cellsOf (55:Nat)) N1 (chainF [SV.agg [SV.int IntKind.i64 (S1 s (N0+Int.toNat Z0)).1,SV.int IntKind.i64 Z0,SV.int IntKind.i64 ((S1 s (N0+Int.toNat Z0)).3+Z1),SV.int IntKind.i64 (h+T.7)]])).f (i+N0)).den=((wtQ T s h true).O i).sv.den∧rE N4∧True∧True∧True∧True∧True)∧(s.5+T.8=s.5+if (S1 s N0).3<T.6 then T.8 else T.9)∧N1+(s.1+cbQ s h - N1) =
nQ s h z∧(hot10 T s h a z_1)∧True)∧∀ (z:Nat),hpI (wtQ T s h true) z→N0<N1∧(hot0 T s h a z)∧(hot1 T s h a z))∧(¬(S1 s (N0+Int.toNat Z0)).3<T.6→N0<N1∧N0<N1∧rI (s.5+T.9)∧N0<N1∧Z0≤Z1∧Z1≤(↑(nQ s h z):Int)∧(↑(nQ s h z):Int)≤(↑(nQ s h z):Int)∧N0<N1∧N0<N1∧True∧(∀ (i:Nat),i<N1→rE true)∧N1*N32≤N140737488355328∧N1≤N4611686018427387904∧(∃ (z_1:Nat),hpI (wtQ T s h true) z_1∧rE N0∧rE N0∧rE N0∧rE N0∧rE N0∧rE N0∧a=lvQ T (wtQ T s h true) a z_1∧Z0=(↑z_1:Int)∧T.1=T.1∧(hot4 T)∧T.5=T.5∧T.6=T.6∧T.7=T.7∧T.8=T.8∧T.9=T.9∧rE T.10∧(hot5 T)∧rE (Value.slice none (0 :
Nat) N0)∧rE (Value.slice none N0 N0)∧rE Z0∧N0+Int.toNat Z1=N1∧((↑(nQ s h z):Int) - Z1).toNat=s.1+cbQ s h - N1∧N1=s.3 - cbQ s h+N1∧N0+N1≤N1∧(∀ (i:Nat),i<s.3 - cbQ s h+N1→((rowsK (Try.prog.cellsOf (55:Nat)) N1 (chainF [SV.agg [SV.int IntKind.i64 (S1 s (N0+Int.toNat Z0)).1,SV.int IntKind.i64 Z0,SV.int IntKind.i64 Z0,SV.int IntKind.i64 (h+T.7)]])).f (i+N0)).den=((wtQ T s h true).O i).sv.den∧rE N4∧True∧True∧True∧True∧True)∧(s.5+T.9=s.5+if (S1 s N0).3<T.6 then T.8 else T.9)∧N1+(s.1+cbQ s h - N1)=nQ s h z∧(hot10 T s h a z_1)∧True)∧∀ (z:Nat),hpI (wtQ T s h true) z→N0<N1∧(hot0 T s h a z)∧(hot1 T s h a z))))) ∧
∀ (z:Nat),hoI s h z∧cbQ s h<z→N0<N1∧((↑z:Int)<(↑s.3:Int)→N0<N1∧Z0≤(↑z:Int)∧(↑z:Int)<(↑s.3:Int)∧((s.O (↑z:Int).toNat).4=h→N0<N1∧N0<N1∧Z0≤(↑z:Int)∧(↑z:Int)<(↑s.3:Int)∧True∧(∀ (i:Nat),i<N1→rE true)∧rE N0∧rE (nQ s h z)∧(∀ (i:Nat),rE true)∧(nQ s h z+N1)*N32≤N140737488355328∧nQ s h z+N1≤N4611686018427387904∧rI ((↑z:Int)+Z1)∧∃ (z_1:Nat),(hoI s h z_1∧cbQ s h<z_1)∧s.3 - z_1<s.3 - z∧h=h∧rE true∧a=a∧rE N0∧rE N0∧rE N0∧rE N0∧rE N0∧rE N0∧rE N0∧rE N0∧(↑z:Int)+Z1=(↑z_1:Int)∧T.1=T.1∧(hot4 T)∧T.5=T.5∧T.6=T.6∧T.7=T.7∧T.8=T.8∧T.9=T.9∧rE T.10
∧ (hot5 T)∧s.1=s.1∧(hot6 s)∧s.3=s.3∧(hot7 s)∧s.5=s.5∧rE (Value.slice none N0 N0)∧rE (Value.slice none N0 N0)∧rE Z0∧rE N0∧nQ s h z+N1=nQ s h z_1∧rE N0∧z - cbQ s h=z_1 - cbQ s h∧s.5=s.5∧nQ s h z_1=nQ s h z+N1∧(hot12 s h z z_1)∧z_1 - cbQ s h=z - cbQ s h∧(∀ (i_2:Nat),i_2<z_1 - cbQ s h→rE N4∧rE ((O1 s h i_2).1)∧rE ((O1 s h i_2).2)∧rE ((O1 s h i_2).3)∧rE ((O1 s h i_2).4)∧True)∧True)∧(¬(s.O (↑z:Int).toNat).4=h→N0<N1∧N0<N1∧Z0≤(↑z:Int)∧(↑z:Int)<(↑s.3:Int)∧True∧(∀ (i:Nat),i<N1→rE true)∧rE N0∧rE (z - cbQ s h)∧(∀ (i:Nat),rE true)∧(z - cbQ s h+N1)*N32≤N140737488355328∧z - cbQ s h+N1≤N4611686018427387904∧rI ((↑z :
Int)+Z1)∧∃ (z_1:Nat),(hoI s h z_1∧cbQ s h<z_1)∧s.3 - z_1<s.3 - z∧h=h∧rE true∧a=a∧rE N0∧rE N0∧rE N0∧rE N0∧rE N0∧rE N0∧rE N0∧rE N0∧(↑z:Int)+Z1=(↑z_1:Int)∧T.1=T.1∧(hot4 T)∧T.5=T.5∧T.6=T.6∧T.7=T.7∧T.8=T.8∧T.9=T.9∧rE T.10∧(hot5 T)∧s.1=s.1∧(hot6 s)∧s.3=s.3∧(hot7 s)∧s.5=s.5∧rE (Value.slice none N0 N0)∧rE (Value.slice none N0 N0)∧rE Z0∧rE N0∧nQ s h z=nQ s h z_1∧rE N0∧z - cbQ s h+N1=z_1 - cbQ s h∧s.5=s.5∧nQ s h z_1=nQ s h z∧(∀ (i_2:Nat),i_2<nQ s h z_1→rE N4∧rE ((S1 s i_2).1)∧rE ((S1 s i_2).2)∧rE ((S1 s i_2).3)∧rE ((S1 s i_2).4)∧True)∧z_1 - cbQ s h=z - cbQ s h+N1∧(∀ (i_2:Nat),i_2<z_1 - cbQ s h→rE (4 :
Nat)∧(if i_2<z - cbQ s h then (O1 s h i_2).1 else (s.O (↑z:Int).toNat).1)=(O1 s h i_2).1∧(if i_2<z - cbQ s h then (O1 s h i_2).2 else (s.O (↑z:Int).toNat).2)=(O1 s h i_2).2∧(if i_2<z - cbQ s h then (O1 s h i_2).3 else (s.O (↑z:Int).toNat).3)=(O1 s h i_2).3∧(if i_2<z - cbQ s h then (O1 s h i_2).4 else (s.O (↑z:Int).toNat).4)=(O1 s h i_2).4∧True)∧True))∧(¬(↑z:Int)<(↑s.3:Int)→N0<N1∧(hot11 T s h a z)∧(¬(↑(nQ s h z):Int)<(2:Int)→N0<N1∧Z0≤Z0∧Z0<(↑(nQ s h z):Int)∧N0+Int.toNat Z0<nQ s h z∧N0<N1∧rI (h+T.7)∧N0<N1∧N0<N1∧((S1 s (N0+Int.toNat Z0)).3<T.6→N0<N1∧rI ((S1 s (N0+Int.toNat Z0)).3+Z1)∧N0<N1∧N0<N1
∧ rI (s.5+T.8)∧N0<N1∧Z0≤Z1∧Z1≤(↑(nQ s h z):Int)∧(↑(nQ s h z):Int)≤(↑(nQ s h z):Int)∧N0<N1∧N0<N1∧True∧(∀ (i:Nat),i<N1→rE true)∧rE N0∧rE (z - cbQ s h)∧(∀ (i:Nat),rE true)∧(z - cbQ s h+N1)*N32≤N140737488355328∧z - cbQ s h+N1≤N4611686018427387904∧(∃ (z_1:Nat),hpI (wtQ T s h true) z_1∧rE N0∧rE N0∧rE N0∧rE N0∧rE N0∧rE N0∧a=lvQ T (wtQ T s h true) a z_1∧Z0=(↑z_1:Int)∧T.1=T.1∧(hot4 T)∧T.5=T.5∧T.6=T.6∧T.7=T.7∧T.8=T.8∧T.9=T.9∧rE T.10∧(hot5 T)∧rE (Value.slice none N0 N0)∧rE (Value.slice none N0 N0)∧rE Z0∧N0+Int.toNat Z1=N1∧((↑(nQ s h z):Int) - (1 :
Int)).toNat=s.1+cbQ s h - N1∧z - cbQ s h+N1=s.3 - cbQ s h+N1∧N0+(z - cbQ s h+N1)≤z - cbQ s h+N1∧(∀ (i_2:Nat),i_2<s.3 - cbQ s h+N1→((rowsK (Try.prog.cellsOf (55:Nat)) (z - cbQ s h+N1) (appF (z - cbQ s h) (fun i=>(O1 s h i).sv) (chainF [SV.agg [SV.int IntKind.i64 (S1 s (N0+Int.toNat Z0)).1,SV.int IntKind.i64 Z0,SV.int IntKind.i64 ((S1 s (N0+Int.toNat Z0)).3+Z1),SV.int IntKind.i64 (h+T.7)]]))).f (i_2+N0)).den=((wtQ T s h true).O i_2).sv.den∧rE N4∧True∧True∧True∧True∧True)∧(s.5+T.8=s.5+if (S1 s N0).3<T.6 then T.8 else T.9)∧N1+(s.1+cbQ s h - N1)=nQ s h z∧(hot10 T s h a z_1)∧True)∧∀ (z:Nat),hpI (wtQ T s h true) z→N0<N1∧(hot0 T s h a z)∧(hot1 T s h a
z))∧(¬(S1 s (N0+Int.toNat Z0)).3<T.6→N0<N1∧N0<N1∧rI (s.5+T.9)∧N0<N1∧Z0≤Z1∧Z1≤(↑(nQ s h z):Int)∧(↑(nQ s h z):Int)≤(↑(nQ s h z):Int)∧N0<N1∧N0<N1∧True∧(∀ (i:Nat),i<N1→rE true)∧rE N0∧rE (z - cbQ s h)∧(∀ (i:Nat),rE true)∧(z - cbQ s h+N1)*N32≤N140737488355328∧z - cbQ s h+N1≤N4611686018427387904∧(∃ (z_1:Nat),hpI (wtQ T s h true) z_1∧rE N0∧rE N0∧rE N0∧rE N0∧rE N0∧rE N0∧a=lvQ T (wtQ T s h true) a z_1∧Z0=(↑z_1:Int)∧T.1=T.1∧(hot4 T)∧T.5=T.5∧T.6=T.6∧T.7=T.7∧T.8=T.8∧T.9=T.9∧rE T.10∧(hot5 T)∧rE (Value.slice none N0 N0)∧rE (Value.slice none (0 :
Nat) N0)∧rE Z0∧N0+Int.toNat Z1=N1∧((↑(nQ s h z):Int) - Z1).toNat=s.1+cbQ s h - N1∧z - cbQ s h+N1=s.3 - cbQ s h+N1∧N0+(z - cbQ s h+N1)≤z - cbQ s h+N1∧(∀ (i_2:Nat),i_2<s.3 - cbQ s h+N1→((rowsK (Try.prog.cellsOf (55:Nat)) (z - cbQ s h+N1) (appF (z - cbQ s h) (fun i=>(O1 s h i).sv) (chainF [SV.agg [SV.int IntKind.i64 (S1 s (N0+Int.toNat Z0)).1,SV.int IntKind.i64 Z0,SV.int IntKind.i64 Z0,SV.int IntKind.i64 (h+T.7)]]))).f (i_2+N0)).den=((wtQ T s h true).O i_2).sv.den∧rE N4∧True∧True∧True∧True∧True)∧(s.5+T.9=s.5+if (S1 s N0).3<T.6 then T.8 else T.9)∧N1+(s.1+cbQ s h - N1)=nQ s h z∧(hot10 T s h a z_1)∧True)∧∀ (z:Nat),hpI (wtQ T s h true)
z→N0<N1∧(hot0 T s h a z)∧(hot1 T s h a z))))):=by kernel_rfl
end Go.Proofs.Ytpdcajchppoocaa
