import Derived.Test.YtpdcajchppoocaaC8
set_option linter.unusedVariables false
set_option linter.unusedSimpArgs false
set_option maxRecDepth 100000
namespace Go.Proofs.Ytpdcajchppoocaa
open Go Go.Lg
attribute [local irreducible] bodyH
def crA (T:Tn) (m:Nat) (b:Nat→Int) (i:Nat):Int:=T.lo i+(b (((i:Int).tmod m).toNat)).tmod (T.hi i - T.lo i+1)
structure csI (T:Tn) (i:Nat):Prop where
 a:1≤i∧i≤T.nl
def u6 (z:Int):SV:=.int .u16 z
noncomputable def csG (T:Tn) (m:Nat) (b:Nat→Int):Prop:=funY Try.prog (ctrs []) noX (ictrs []) (octrs []) (oneL 0 (appH1 39 5 (csI T) (fun i=>T.nl - i) T.nl 1 (fun i=>mkF 39 [(1,.lst 1 m fun j=>u6 (b j)),(2,.ptr 0 0 0),(5,.sl 1 0 i),(9,.lst 2 T.nl (ldV T)),(10,b6 T.nl),(11,b6 i)]) (fun i=>mkX [vr 7 (tV T),rw' 1 i fun j=>b6 (crA T m b j)]))) noL 28 [tV T,.lst 1 m fun j=>u6 (b j)] (.lst 1 T.nl fun j=>b6 (crA T m b j))
noncomputable def csC:Ctr:=⟨28,fun args k=>match args with
 | [x,.lst 1 m f]=>∃ (T:Tn) (b:Nat→Int),(x=tV T∧(f=fun j=>u6 (b j))∧okT T∧0<m∧∀ j,j<m→0≤b j∧b j≤65535)∧k (.lst 1 T.nl fun j=>b6 (crA T m b j))
 | _=>False⟩
noncomputable def hoE:Ctr:=⟨30,fun args k=>match args with
 | [x,y,.int .i64 h,.dec p _,.int .i64 a]=>∃ (T:Tn) (s:Rs) (w:Bool),(x=tV T∧y=s.sv∧hoP T s h a∧(p↔w=true)∧(w=true→2≤s.n+cbQ s h))∧k (.tup [(nxQ T s h w a).sv,b6 (lvQ T (wtQ T s h w) a (wtQ T s h w).n),.bool true])
 | _=>False⟩
def sm (f:Nat→Int):Nat→Int
 | 0=>0
 | n+1=>sm f n+f n
noncomputable def ltQ (T:Tn) (w:Nat→Bool) (c:Nat→Int) (h:Nat):Int:=if w h=true then ((qA T w c h).S 0).f else 0
def alQ (s:Rs) (j:Nat):Bx:=if j<s.n then s.S j else s.O (j - s.n)
noncomputable def tuB (T:Tn) (w:Nat→Bool) (c:Nat→Int) (h:Nat):List (Nat × SV):=[(1,twL T.nl w),(3,.ptr 0 0 0),(7,ruV T w),(8,b6 T.nl),(10,bdV T (fsA T w (coL T)) (fsA T w (coH T 0))),(12,.lst 1 T.nl fun j=>b6 (c j)),(13,.ptr 1 0 0),(14,b6 (sm c h)),(15,b6 (sm (slQ T w c) h)),(16,b6 (sm T.fo T.nb)),(17,b6 (sm (ltQ T w c) h)),(137,b6 T.nl),(138,b6 h)]
noncomputable def tuX (T:Tn) (w:Nat→Bool) (c:Nat→Int) (h:Nat):XS:=mkX [vr 7 (tV T),vr 3 (qA T w c h).sv]
structure tu0I (T:Tn) (i:Nat):Prop where
 a:i≤T.nb
structure tu2I (T:Tn) (h:Nat):Prop where
 a:h≤T.nl
structure tu4I (T:Tn) (w:Nat→Bool) (c:Nat→Int) (h i:Nat):Prop where
 a:h<T.nl
 b:i≤(qA T w c h).m
noncomputable def tu0 (T:Tn) (w:Nat→Bool) (c:Nat→Int):HSpec:={ natH (tu0I T) (fun i=>T.nb - i) 2
 (fun i=>mkF 309 [(1,twL T.nl w),(3,.ptr 0 0 0),(7,ruV T w),(8,b6 T.nl),(10,bdV T (fsA T w (coL T)) (fsA T w (coH T 0))),(12,.lst 1 T.nl fun j=>b6 (c j)),(13,.ptr 1 0 0),(14,b6 0),(15,b6 0),(16,b6 (sm T.fo i)),(17,b6 0),(126,bxL T),(127,b6 T.nb),(128,b6 i)]) (fun _=>tuX T w c 0) fun _=>none with fz:=true }
noncomputable def tu2 (T:Tn) (w:Nat→Bool) (c:Nat→Int):HSpec:={ natH (tu2I T) (fun h=>T.nl - h) 2 (fun h=>mkF 309 (tuB T w c h)) (tuX T w c) fun _=>none with fz:=true }
noncomputable def tu4 (T:Tn) (w:Nat→Bool) (c:Nat→Int):HSpec :=
 { toLSpec:={ σ:=Nat × Nat,inv:=fun z=>tu4I T w c z.1 z.2,μ:=fun z=>(qA T w c z.1).m - z.2,nr:=2,ms:=fun _ _=>[],t:=fun z=>mkF 309 ((20,b6 z.1) :: (21,b6 (nQ (qA T w c z.1) z.1 z.2)) :: (149,.lst 4 (qA T w c z.1).m fun j=>((qA T w c z.1).O j).sv) :: (150,b6 (qA T w c z.1).m) :: (151,b6 z.2) :: tuB T w c z.1),X:=fun z=>tuX T w c z.1,rd:=fun _ _ k=>∃ z,k z,rdOK:=fun _ _ _ h=>h },par:=some (parI 309 20),kinv:=fun y z=>z.1=y,fz:=true }
noncomputable def tu6 (T:Tn) (w:Nat→Bool) (c:Nat→Int):HSpec:={ natH (tu0I T) (fun i=>T.nb - i) 2
 (fun i=>mkF 309 [(10,bdV T (fsA T w (coL T)) (fsA T w (coH T 0))),(13,.ptr 1 0 0),(14,b6 (sm c T.nl)),(15,b6 (sm (slQ T w c) T.nl)),(16,b6 (sm T.fo T.nb)),(17,b6 (sm (ltQ T w c) T.nl)),(29,b6 (sm (fun j=>(alQ (qA T w c T.nl) j).f) i)),(233,.lst 4 T.nb fun j=>(alQ (qA T w c T.nl) j).sv),(234,b6 T.nb),(235,b6 i)]) (fun _=>tuX T w c T.nl) fun _=>none with fz:=true }
noncomputable def tuR (T:Tn) (w:Nat→Bool) (c:Nat→Int):HSpec:=regH 2 (gsl 309 30) (mkF 309 ((29,b6 0) :: (30,.sl 2 0 T.nb) :: tuB T w c T.nl)) (mkX [vr 7 (tV T),vr 3 (qA T w c T.nl).sv,rw' 4 T.nb fun j=>(alQ (qA T w c T.nl) j).sv]) [(2,1),(5,1)] [] (some 2)
noncomputable def tuG (T:Tn) (w:Nat→Bool) (m:Nat) (b:Nat→Int):Prop:=funY Try.prog (ctrsF [bgC,hoE,csC] (ctrs [grC,alvC,ruC,bdC,trC])) noX (ictrs []) (octrs []) (twoL 0 (tu0 T w (crA T m b)) (twoL 2 (tu2 T w (crA T m b)) (twoL 4 (tu4 T w (crA T m b)) (twoL 1042 (tuR T w (crA T m b)) (oneL 6 (tu6 T w (crA T m b))))))) noL 7 [tV T,twL T.nl w,.lst 1 m fun j=>u6 (b j)] (.bool true)
noncomputable def tuBG (T:Tn) (n:Nat) (w:Nat→Bool) (m:Nat) (b:Nat→Int):Prop:=funH Try.prog (ctrs [grC,alvC,ruD,bdD]) noX (ictrs []) noL noL 7 [tV T,twL n w,.lst 1 m fun j=>u6 (b j)] (.bool true)
end Go.Proofs.Ytpdcajchppoocaa

set_option maxRecDepth 100000
namespace Go.Proofs.Ytpdcajchppoocaa
open Go Go.Lg
theorem csG_vc (T:Tn) (m:Nat) (b:Nat→Int):csG T m b=((0:Nat)<(1:Nat)∧(((0:Int)<(↑T.10:Int)→(0:Int)≤(0:Int)∧(0:Int)<(↑T.10:Int)∧(0:Nat)<(1:Nat)∧((↑m:Int)=(0:Int)→False)∧(0:Int)≤Int.tmod (0:Int) (↑m:Int)∧Int.tmod (0:Int) (↑m:Int)<(↑m:Int)∧rI (b (Int.tmod (0:Int) (↑m:Int)).toNat)∧(0:Nat)<(1:Nat)∧(0:Nat)<(1:Nat)∧rI (T.12 (Int.toNat (0:Int)) - T.11 (Int.toNat (0:Int)))∧rI (T.12 (Int.toNat (0:Int)) - T.11 (Int.toNat (0:Int))+(1:Int))∧(T.12 (Int.toNat (0:Int)) - T.11 (Int.toNat
(0:Int))+(1:Int)=(0:Int)→False)∧rI (T.11 (Int.toNat (0:Int))+(b (Int.tmod (0:Int) (↑m:Int)).toNat).tmod (T.12 (Int.toNat (0:Int)) - T.11 (Int.toNat (0:Int))+(1:Int)))∧True∧(∀ (i:Nat),i<(1:Nat)→rE true)∧(1:Nat)*(8:Nat)≤(140737488355328:Nat)∧(1:Nat)≤(4611686018427387904:Nat)∧rI ((0:Int)+(1:Int))∧∃ (z:Nat),csI T z∧T.10 - z<T.10∧m=m∧(∀ (i:Nat),i<m→rE ((u6 (b i)).den)∧True)∧rE (0:Nat)∧rE (0:Nat)∧rE (0:Nat)∧(1:Nat)=z∧rE T.10∧(∀ (i:Nat),i<T.10→rE ((ldV T i).den)∧True∧True
∧ True)∧rE (↑T.10:Int)∧(0:Int)+(1:Int)=(↑z:Int)∧T.1=T.1∧(∀ (i:Nat),i<T.1→rE ((bxV T i).den)∧True∧True∧True∧True)∧T.5=T.5∧T.6=T.6∧T.7=T.7∧T.8=T.8∧T.9=T.9∧rE T.10∧(∀ (i:Nat),i<T.10→rE ((ldV T i).den)∧True∧True∧True)∧z=(1:Nat)∧(∀ (i:Nat),i<z→rE (1:Nat)∧T.11 (Int.toNat (0:Int))+(b (Int.tmod (0:Int) (↑m:Int)).toNat).tmod (T.12 (Int.toNat (0:Int)) - T.11 (Int.toNat (0:Int))+(1:Int))=crA T m b i∧True)∧True)∧(¬(0:Int)<(↑T.10:Int)→(0:Nat)=T.10∧True))∧∀ (z:Nat),csI T
z→((↑z:Int)<(↑T.10:Int)→(0:Int)≤(↑z:Int)∧(↑z:Int)<(↑T.10:Int)∧(0:Nat)<(1:Nat)∧((↑m:Int)=(0:Int)→False)∧(0:Int)≤(↑z:Int).tmod (↑m:Int)∧(↑z:Int).tmod (↑m:Int)<(↑m:Int)∧rI (b ((↑z:Int).tmod (↑m:Int)).toNat)∧(0:Nat)<(1:Nat)∧(0:Nat)<(1:Nat)∧rI (T.12 (↑z:Int).toNat - T.11 (↑z:Int).toNat)∧rI (T.12 (↑z:Int).toNat - T.11 (↑z:Int).toNat+(1:Int))∧(T.12 (↑z:Int).toNat - T.11 (↑z:Int).toNat+(1:Int)=(0:Int)→False)∧rI (T.11 (↑z:Int).toNat+(b ((↑z:Int).tmod (↑m:Int)).toNat).tmod
(T.12 (↑z:Int).toNat - T.11 (↑z:Int).toNat+(1:Int)))∧True∧(∀ (i:Nat),i<(1:Nat)→rE true)∧rE (0:Nat)∧z=z∧(∀ (i:Nat),rE true)∧(z+(1:Nat))*(8:Nat)≤(140737488355328:Nat)∧z+(1:Nat)≤(4611686018427387904:Nat)∧rI ((↑z:Int)+(1:Int))∧∃ (z_1:Nat),csI T z_1∧T.10 - z_1<T.10 - z∧m=m∧(∀ (i:Nat),i<m→rE ((u6 (b i)).den)∧True)∧rE (0:Nat)∧rE (0:Nat)∧rE (0:Nat)∧z+(1:Nat)=z_1∧rE T.10∧(∀ (i:Nat),i<T.10→rE ((ldV T i).den)∧True∧True∧True)∧rE (↑T.10:Int)∧(↑z:Int)+(1:Int)=(↑z_1 :
Int)∧T.1=T.1∧(∀ (i:Nat),i<T.1→rE ((bxV T i).den)∧True∧True∧True∧True)∧T.5=T.5∧T.6=T.6∧T.7=T.7∧T.8=T.8∧T.9=T.9∧rE T.10∧(∀ (i:Nat),i<T.10→rE ((ldV T i).den)∧True∧True∧True)∧z_1=z+(1:Nat)∧(∀ (i:Nat),i<z_1→rE (1:Nat)∧(if i<z then crA T m b i else T.11 (↑z:Int).toNat+(b ((↑z:Int).tmod (↑m:Int)).toNat).tmod (T.12 (↑z:Int).toNat - T.11 (↑z:Int).toNat+(1:Int)))=crA T m b i∧True)∧True)∧(¬(↑z:Int)<(↑T.10:Int)→z=T.10∧(0:Nat)+T.10≤z∧(∀ (i:Nat),i<T.10→rE (1:Nat)∧rE (1 :
Nat)∧crA T m b (i+(0:Nat))=crA T m b i∧True)∧True)):=by kernel_rfl
theorem tuBG_vc (T:Tn) (n:Nat) (w:Nat→Bool) (m:Nat) (b:Nat→Int):tuBG T n w m b=((0:Nat)<(1:Nat)∧(∀ (i:Nat),i<T.1→True∧True∧True∧True)∧(∀ (i:Nat),i<T.10→True∧True∧True)∧∃ T_1,tV T=tV T_1∧((16:Int)<(↑T_1.nl:Int)∧T_1.nl≤(16:Nat)∨(24:Nat)<T_1.nl∨(9:Nat)<T_1.nb→rE true∧True)∧(¬((16:Int)<(↑T_1.nl:Int)∧T_1.nl≤(16:Nat)∨(24:Nat)<T_1.nl∨(9:Nat)<T_1.nb)→((30:Int)<(↑n:Int)→rE true∧True)∧(¬(30:Int)<(↑n:Int)→((↑m:Int)=(0:Int)→rE true∧True)∧(¬(↑m:Int)=(0 :
Int)→(0:Nat)<(1:Nat)∧(∀ (i:Nat),i<T.1→True∧True∧True∧True)∧(∀ (i:Nat),i<T.10→True∧True∧True)∧(∀ (i:Nat),i<n→True)∧∃ T_2 w_1,(tV T=tV T_2∧(twL n w)=twL n w_1∧(chE T_2 n w_1=(0:Int)→False))∧(0:Nat)<(1:Nat)∧(∀ (i:Nat),i<T.1→True∧True∧True∧True)∧(∀ (i:Nat),i<T.10→True∧True∧True)∧(∀ (i:Nat),i<n→True)∧∃ T_3 w_2,(tV T=tV T_3∧(twL n w)=twL n w_2∧(chE T_3 n w_2=(0:Int)→False))∧(¬chE T_2 n w_1=(0:Int)→((↑(0:Nat):Int)=(0:Int)→((↑(0:Nat):Int)=(0:Int) →
(chE T_3 n w_2=chE T_2 n w_1→(chE T_2 n w_1=(6:Int)→(chH T_2 n w_1<(↑n:Int)→rE true∧True)∧(¬chH T_2 n w_1<(↑n:Int)→(chH T_2 n w_1=(0:Int)→rE true∧True)∧(¬chH T_2 n w_1=(0:Int)→false=true∧True)))∧(¬chE T_2 n w_1=(6:Int)→(chH T_2 n w_1=(0:Int)→rE true∧True)∧(¬chH T_2 n w_1=(0:Int)→false=true∧True)))∧(¬chE T_3 n w_2=chE T_2 n w_1→false=true∧True))∧(¬(↑(0:Nat):Int)=(0:Int)→false=true∧True))∧(¬(↑(0:Nat):Int)=(0:Int)→false=true∧True))∧(¬¬chE T_2 n w_1=(0:Int)→(0:Nat)<(1 :
Nat)∧False))))):=by kernel_rfl
end Go.Proofs.Ytpdcajchppoocaa

set_option maxRecDepth 100000
namespace Go.Proofs.Ytpdcajchppoocaa
open Go Go.Lg
def tuG1 (T:Tn) (w:Nat→Bool) (m:Nat) (b:Nat→Int) (z:Nat):Prop:=(∀ (i_1:Nat),i_1<T.1→rE (4:Nat)∧(if i_1<(0:Nat)+(qA T w (crA T m b) z).1 then if i_1<(0:Nat) then (0:Int) else ((qA T w (crA T m b) z).S (i_1 - (0:Nat))).1 else ((qA T w (crA T m b) z).O (i_1 - ((0:Nat)+(qA T w (crA T m b) z).n))).1)=(alQ (qA T w (crA T m b) T.nl) i_1).1∧(if i_1<(0:Nat)+(qA T w (crA T m b) z).1 then if i_1<(0:Nat) then (0:Int) else ((qA T w (crA T m b) z).S (i_1 - (0:Nat))).2 else ((qA T w (crA T m b) z).O (i_1 - ((0:Nat)+(qA T w (crA T m b) z).n))).2)=(alQ (qA T w (crA T m b) T.nl) i_1).2∧(if i_1<(0:Nat)+(qA T w (crA T m b) z).1 then if i_1<(0:Nat) then (0:Int) else ((qA T w (crA T m b) z).S (i_1 - (0:Nat))).3 else ((qA T w (crA T m b) z).O (i_1 - ((0:Nat)+(qA T w (crA T m b) z).n))).3)=(alQ (qA T w (crA T m b) T.nl) i_1).3∧(if i_1<(0:Nat)+(qA T w (crA T m b) z).1 then if i_1<(0:Nat) then (0:Int) else ((qA T w (crA T m b) z).S (i_1 - (0:Nat))).4 else ((qA T w (crA T m b) z).O (i_1 - ((0:Nat)+(qA T w (crA T m b) z).n))).4)=(alQ (qA T w (crA T m b) T.nl) i_1).4∧True)
def tuG2 (T:Tn) (w:Nat→Bool):Prop:=(∀ (i:Nat),i<T.1→rE ((SV.agg [b6 ((fsA T w (coL T)).bx i),b6 ((fsA T w (coL T)).fo i),b6 ((fsA T w (coH T (0:Int))).fo i),b6 ((fsA T w (coL T)).rv i),SV.dec ((fsA T w (coL T)).n≤(↑i:Int)) inferInstance]).den)∧True∧True∧True∧True∧True∧True)
def tuG5 (T:Tn):Prop:=(∀ (i:Nat),i<T.1→rE ((bxV T i).den)∧True∧True∧True∧True)
def tuG6 (T:Tn):Prop:=(∀ (i:Nat),i<T.10→rE ((ldV T i).den)∧True∧True∧True)
def tuG7 (T:Tn) (w:Nat→Bool):Prop:=(∀ (i:Nat),i<T.10→rE ((SV.agg [b6 (loA T w i),b6 (hiA T w i)]).den)∧True∧True∧True)
def tuG8 (T:Tn) (w:Nat→Bool):Prop:=(∀ (i:Nat),i<T.10→rE ((SV.dec (w i=true) inferInstance).den)∧True)
def tuG0 (T:Tn) (w:Nat→Bool) (m:Nat) (b:Nat→Int) (z:Nat):Prop:=(True∧(0:Nat)<(1:Nat)∧True∧(∀ (i_1:Nat),i_1<(qA T w (crA T m b) z).1→rE true)∧rE (0:Nat)∧rE (0:Nat)∧(∀ (i:Nat),rE true)∧((0:Nat)+(qA T w (crA T m b) z).1)*(32:Nat)≤(140737488355328:Nat)∧(0:Nat)+(qA T w (crA T m b) z).1≤(4611686018427387904:Nat)∧True∧(∀ (i_1:Nat),i_1<(qA T w (crA T m b) z).3→rE true)∧rE (0:Nat)∧rE ((0:Nat)+(qA T w (crA T m b) z).1)∧(∀ (i:Nat),rE true)∧((0:Nat)+(qA T w (crA T m b) z).1+(qA T w (crA T m b) z).3)*(32:Nat)≤(140737488355328:Nat)∧(0:Nat)+(qA T w (crA T m b) z).1+(qA T w (crA T m b) z).3≤(4611686018427387904:Nat)∧True∧True∧rE T.10∧(tuG8 T w)∧rE (0:Nat)∧rE (0:Nat)∧rE T.10∧(tuG7 T w)∧rE (↑T.10:Int)∧T.1=T.1∧(tuG2 T w)∧rE T.10∧(∀ (i:Nat),i<T.10→rE ((b6 (crA T m b i)).den)∧True)∧rE (0:Nat)∧rE (0:Nat)∧sm (crA T m b) z=sm (crA T m b) T.10∧sm (slQ T w (crA T m b)) z=sm (slQ T w (crA T m b)) T.10∧rE (sm T.fo T.1)∧sm (ltQ T w (crA T m b)) z=sm (ltQ T w (crA T m b)) T.10∧rE (0:Int)∧rE (0:Nat)∧(0:Nat)+(qA T w (crA T m b) z).1+(qA T w (crA T m b) z).3=T.1∧rE (↑T.10:Int)∧(↑z:Int)=(↑T.10:Int)∧T.1=T.1∧(tuG5 T)∧T.5=T.5∧T.6=T.6∧T.7=T.7∧T.8=T.8∧T.9=T.9∧rE T.10∧(tuG6 T)∧(qA T w (crA T m b) z).1=(qA T w (crA T m b) T.nl).1∧(∀ (i_1:Nat),i_1<(qA T w (crA T m b) T.nl).1→((qA T w (crA T m b) z).S i_1).sv.den=((qA T w (crA T m b) T.nl).S i_1).sv.den∧True∧True∧True∧True∧True)∧(qA T w (crA T m b) z).3=(qA T w (crA T m b) T.nl).3∧(∀ (i_1:Nat),i_1<(qA T w (crA T m b) T.nl).3→((qA T w (crA T m b) z).O i_1).sv.den=((qA T w (crA T m b) T.nl).O i_1).sv.den∧True∧True∧True∧True∧True)∧(qA T w (crA T m b) z).5=(qA T w (crA T m b) T.nl).5∧T.1=(0:Nat)+(qA T w (crA T m b) z).1+(qA T w (crA T m b) z).3∧(tuG1 T w m b z)∧True)
def tuG3 (T:Tn) (w:Nat→Bool) (m:Nat) (b:Nat→Int) (z:Nat):Prop:=(True∧(0:Nat)<(1:Nat)∧(True∧True∧(∀ (i_1:Nat),i_1<(qA T w (crA T m b) z).1→rE true)∧rE (0:Nat)∧rE (0:Nat)∧(∀ (i:Nat),rE true)∧((0:Nat)+(qA T w (crA T m b) z).1)*(32:Nat)≤(140737488355328:Nat)∧(0:Nat)+(qA T w (crA T m b) z).1≤(4611686018427387904:Nat)∧True∧(∀ (i_1:Nat),i_1<(qA T w (crA T m b) z).3→rE true)∧rE (0:Nat)∧rE ((0:Nat)+(qA T w (crA T m b) z).1)∧(∀ (i:Nat),rE true)∧((0:Nat)+(qA T w (crA T m b) z).1+(qA T w (crA T m b) z).3)*(32:Nat)≤(140737488355328:Nat)∧(0:Nat)+(qA T w (crA T m b) z).1+(qA T w (crA T m b) z).3≤(4611686018427387904:Nat)∧True∧True∧rE T.10∧(tuG8 T w)∧rE (0:Nat)∧rE (0:Nat)∧rE T.10∧(tuG7 T w)∧rE (↑T.10:Int)∧T.1=T.1∧(tuG2 T w)∧rE T.10∧(∀ (i:Nat),i<T.10→rE ((b6 (crA T m b i)).den)∧True)∧rE (0:Nat)∧rE (0:Nat)∧sm (crA T m b) z=sm (crA T m b) T.10∧sm (slQ T w (crA T m b)) z=sm (slQ T w (crA T m b)) T.10∧rE (sm T.fo T.1)∧sm (ltQ T w (crA T m b)) z=sm (ltQ T w (crA T m b)) T.10∧rE (0:Int)∧rE (0:Nat)∧(0:Nat)+(qA T w (crA T m b) z).1+(qA T w (crA T m b) z).3=T.1∧rE (↑T.10:Int)∧(↑z:Int)=(↑T.10:Int)∧T.1=T.1∧(tuG5 T)∧T.5=T.5∧T.6=T.6∧T.7=T.7∧T.8=T.8∧T.9=T.9∧rE T.10∧(tuG6 T)∧(qA T w (crA T m b) z).1=(qA T w (crA T m b) T.nl).1∧(∀ (i_1:Nat),i_1<(qA T w (crA T m b) T.nl).1→((qA T w (crA T m b) z).S i_1).sv.den=((qA T w (crA T m b) T.nl).S i_1).sv.den∧True∧True∧True∧True∧True)∧(qA T w (crA T m b) z).3=(qA T w (crA T m b) T.nl).3∧(∀ (i_1:Nat),i_1<(qA T w (crA T m b) T.nl).3→((qA T w (crA T m b) z).O i_1).sv.den=((qA T w (crA T m b) T.nl).O i_1).sv.den∧True∧True∧True∧True∧True)∧(qA T w (crA T m b) z).5=(qA T w (crA T m b) T.nl).5∧T.1=(0:Nat)+(qA T w (crA T m b) z).1+(qA T w (crA T m b) z).3∧(tuG1 T w m b z)∧True)∧True)
def tuG4 (T:Tn) (w:Nat→Bool) (m:Nat) (b:Nat→Int) (z:Nat):Prop:=(True∧(∀ (i_1:Nat),i_1<(qA T w (crA T m b) z).1→rE true)∧rE (0:Nat)∧rE (0:Nat)∧(∀ (i:Nat),rE true)∧((0:Nat)+(qA T w (crA T m b) z).1)*(32:Nat)≤(140737488355328:Nat)∧(0:Nat)+(qA T w (crA T m b) z).1≤(4611686018427387904:Nat)∧True∧(0:Nat)<(1:Nat)∧True∧(∀ (i_1:Nat),i_1<(qA T w (crA T m b) z).3→rE true)∧rE (0:Nat)∧rE ((0:Nat)+(qA T w (crA T m b) z).1)∧(∀ (i:Nat),rE true)∧((0:Nat)+(qA T w (crA T m b) z).1+(qA T w (crA T m b) z).3)*(32:Nat)≤(140737488355328:Nat)∧(0:Nat)+(qA T w (crA T m b) z).1+(qA T w (crA T m b) z).3≤(4611686018427387904:Nat)∧True∧True∧rE T.10∧(tuG8 T w)∧rE (0:Nat)∧rE (0:Nat)∧rE T.10∧(tuG7 T w)∧rE (↑T.10:Int)∧T.1=T.1∧(tuG2 T w)∧rE T.10∧(∀ (i:Nat),i<T.10→rE ((b6 (crA T m b i)).den)∧True)∧rE (0:Nat)∧rE (0:Nat)∧sm (crA T m b) z=sm (crA T m b) T.10∧sm (slQ T w (crA T m b)) z=sm (slQ T w (crA T m b)) T.10∧rE (sm T.fo T.1)∧sm (ltQ T w (crA T m b)) z=sm (ltQ T w (crA T m b)) T.10∧rE (0:Int)∧rE (0:Nat)∧(0:Nat)+(qA T w (crA T m b) z).1+(qA T w (crA T m b) z).3=T.1∧rE (↑T.10:Int)∧(↑z:Int)=(↑T.10:Int)∧T.1=T.1∧(tuG5 T)∧T.5=T.5∧T.6=T.6∧T.7=T.7∧T.8=T.8∧T.9=T.9∧rE T.10∧(tuG6 T)∧(qA T w (crA T m b) z).1=(qA T w (crA T m b) T.nl).1∧(∀ (i_1:Nat),i_1<(qA T w (crA T m b) T.nl).1→((qA T w (crA T m b) z).S i_1).sv.den=((qA T w (crA T m b) T.nl).S i_1).sv.den∧True∧True∧True∧True∧True)∧(qA T w (crA T m b) z).3=(qA T w (crA T m b) T.nl).3∧(∀ (i_1:Nat),i_1<(qA T w (crA T m b) T.nl).3→((qA T w (crA T m b) z).O i_1).sv.den=((qA T w (crA T m b) T.nl).O i_1).sv.den∧True∧True∧True∧True∧True)∧(qA T w (crA T m b) z).5=(qA T w (crA T m b) T.nl).5∧T.1=(0:Nat)+(qA T w (crA T m b) z).1+(qA T w (crA T m b) z).3∧(tuG1 T w m b z)∧True)
def tuG9 (T:Tn) (w:Nat→Bool) (m:Nat) (b:Nat→Int) (zp9_1:Nat × Nat) (zp9_2:Nat × Nat):Prop:=(∀ (i_3:Nat),i_3<(qA T w (crA T m b) zp9_2.fst).3→((qA T w (crA T m b) zp9_1.fst).O i_3).sv.den=((qA T w (crA T m b) zp9_2.fst).O i_3).sv.den∧True∧True∧True∧True∧True)
theorem tuG_vc (T:Tn) (w:Nat→Bool) (m:Nat) (b:Nat→Int):tuG T w m b=((0:Nat)<(1:Nat)∧(∀ (i:Nat),i<T.1→True∧True∧True∧True)∧(∀ (i:Nat),i<T.10→True∧True∧True)∧∃ T_1,tV T=tV T_1∧((16:Int)<(↑T_1.nl:Int)∧T_1.nl≤(16:Nat)∨(24:Nat)<T_1.nl∨(9:Nat)<T_1.nb→rE true∧True)∧(¬((16:Int)<(↑T_1.nl:Int)∧T_1.nl≤(16:Nat)∨(24:Nat)<T_1.nl∨(9:Nat)<T_1.nb)→((30:Int)<(↑T.10:Int)→rE true∧True)∧(¬(30:Int)<(↑T.10:Int)→((↑m:Int)=(0:Int)→rE true∧True)∧(¬(↑m:Int)=(0:Int)→(0:Nat)<(1:Nat)∧(∀ (i:Nat),i<T.1→True∧True∧True∧True)∧(∀ (i:Nat),i<T.10→True∧True∧True)∧(∀ (i:Nat),i<T.10→True)∧∃ T_2 w_1,(tV T=tV T_2∧(twL T.nl w)=twL T_2.nl w_1∧okR T_2 w_1)∧(0:Nat)<(1:Nat)∧(∀ (i:Nat),i<T.1→True∧True∧True∧True)∧(∀ (i:Nat),i<T.10→True∧True∧True)∧(∀ (i:Nat),i<T.10→True)
∧ ∃ T_3 w_2,(tV T=tV T_3∧(twL T.nl w)=twL T_3.nl w_2∧okR T_3 w_2)∧(¬(0:Int)=(0:Int)→((↑T_2.10:Int)=(0:Int)→((↑T_3.1:Int)=(0:Int)→(rE (0:Int)→((0:Int)=(6:Int)→((↑T_2.10:Int)<(↑T.10:Int)→rE true∧True)∧(¬(↑T_2.10:Int)<(↑T.10:Int)→((↑T_2.10:Int)=(0:Int)→rE true∧True)∧(¬(↑T_2.10:Int)=(0:Int)→false=true∧True)))∧(¬(0:Int)=(6:Int)→((↑T_2.10:Int)=(0:Int)→rE true∧True)∧(¬(↑T_2.10:Int)=(0:Int)→false=true∧True)))∧(¬(0:Int)=(0:Int)→false=true∧True))∧(¬(↑T_3.1:Int)=(0:Int)→false=true∧True))∧(¬(↑T_2.10:Int)=(0:Int)→false=true∧True))∧(¬¬(0:Int)=(0:Int)→(0:Nat)<(1:Nat)∧(∀ (i:Nat),i<T.1→True∧True∧True∧True)∧(∀ (i:Nat),i<T.10→True∧True∧True)∧∃ T_4,tV T=tV T_4∧(¬okT T_4→false=true∧True)
∧ (¬¬okT T_4→(¬(0:Int)=(0:Int)→false=true∧True)∧(¬¬(0:Int)=(0:Int)→(0:Nat)<(1:Nat)∧(¬(↑T_2.10:Int)=(↑T.10:Int)→false=true∧True)∧(¬¬(↑T_2.10:Int)=(↑T.10:Int)→(¬(↑T_2.10:Int)=(↑T_2.10:Int)→false=true∧True)∧(¬¬(↑T_2.10:Int)=(↑T_2.10:Int)→(0:Nat)<(1:Nat)∧(¬(↑T_3.1:Int)=(↑T.1:Int)→false=true∧True)∧(¬¬(↑T_3.1:Int)=(↑T.1:Int)→(0:Nat)<(1:Nat)∧(∀ (i:Nat),i<T.1→True∧True∧True∧True)∧(∀ (i:Nat),i<T.10→True∧True∧True)∧(∀ (i:Nat),i<m→True)∧∃ T_5 b_1,(tV T=tV T_5∧((fun j=>u6 (b j))=fun j=>u6 (b_1 j))∧okT T_5∧(0:Nat)<m∧∀ (j:Nat),j<m→(0:Int)≤b_1 j∧b_1 j≤(65535:Int))∧(0:Nat)<(1:Nat)∧(∀ (i:Nat),i<T.1→True∧True∧True∧True)∧(∀ (i:Nat),i<T.10→True∧True∧True)∧∃ T_6,(tV T=tV T_6 ∧
T_6.1≤(1000:Nat))∧(0:Nat)<(1:Nat)∧(∃ (z:Nat),tu0I T z∧rE T.10∧(tuG8 T w)∧rE (0:Nat)∧rE (0:Nat)∧T_2.10=T.10∧(∀ (i:Nat),i<T.10→(SV.agg [b6 (loA T_2 w_1 i),b6 (hiA T_2 w_1 i)]).den=(SV.agg [b6 (loA T w i),b6 (hiA T w i)]).den∧True∧True∧True)∧(↑T_2.10:Int)=(↑T.10:Int)∧T_3.1=T.1∧(∀ (i:Nat),i<T.1→(SV.agg [b6 ((fsA T_3 w_2 (coL T_3)).bx i),b6 ((fsA T_3 w_2 (coL T_3)).fo i),b6 ((fsA T_3 w_2 (coH T_3 (0:Int))).fo i),b6 ((fsA T_3 w_2 (coL T_3)).rv i),SV.dec ((fsA T_3 w_2 (coL T_3)).n≤(↑i:Int)) inferInstance]).den=(SV.agg [b6 ((fsA T w (coL T)).bx i),b6 ((fsA T w (coL T)).fo i),b6 ((fsA T w (coH T (0:Int))).fo i),b6 ((fsA T w (coL T)).rv i),SV.dec ((fsA T w (coL T)).n≤(↑i:Int)) inferInstance]).den∧True∧True∧True∧True∧True∧True)∧T_5.10=T.10∧(∀ (i:Nat),i<T.10→(b6 (crA T_5 m b_1
i)).den=(b6 (crA T m b i)).den∧True)∧rE (0:Nat)∧rE (0:Nat)∧rE (0:Int)∧rE (0:Int)∧(0:Int)=sm T.fo z∧rE (0:Int)∧T.1=T.1∧(tuG5 T)∧rE (↑T.1:Int)∧(0:Int)=(↑z:Int)∧T.1=T.1∧(tuG5 T)∧T.5=T.5∧T.6=T.6∧T.7=T.7∧T.8=T.8∧T.9=T.9∧rE T.10∧(tuG6 T)∧T_6.1=T.1∧(∀ (i:Nat),i<T.1→(bgF T_6 i).den=((qA T w (crA T m b) (0:Nat)).S i).sv.den∧True∧True∧True∧True∧True)∧rE (0:Nat)∧rE (0:Int)∧True)∧∀ (z:Nat),tu0I T z→((↑z:Int)<(↑T.1:Int)→(0:Int)≤(↑z:Int)∧(↑z:Int)<(↑T.1:Int)∧(0:Nat)<(1:Nat)∧rI (sm T.fo z+T.4 (↑z:Int).toNat)∧rI ((↑z:Int)+(1:Int))∧∃ (z_1:Nat),tu0I T z_1∧T.1 - z_1<T.1 - z∧rE T.10∧(tuG8 T w)∧rE (0:Nat)∧rE (0:Nat)∧rE T.10∧(tuG7 T w)∧rE (↑T.10:Int)∧T.1=T.1∧(tuG2 T w)∧rE T.10∧(∀ (i:Nat),i<T.10→rE
((b6 (crA T m b i)).den)∧True)∧rE (0:Nat)∧rE (0:Nat)∧rE (0:Int)∧rE (0:Int)∧sm T.fo z+T.4 (↑z:Int).toNat=sm T.fo z_1∧rE (0:Int)∧T.1=T.1∧(tuG5 T)∧rE (↑T.1:Int)∧(↑z:Int)+(1:Int)=(↑z_1:Int)∧T.1=T.1∧(tuG5 T)∧T.5=T.5∧T.6=T.6∧T.7=T.7∧T.8=T.8∧T.9=T.9∧rE T.10∧(tuG6 T)∧T.1=T.1∧(∀ (i:Nat),i<T.1→rE (((qA T w (crA T m b) (0:Nat)).S i).sv.den)∧True∧True∧True∧True∧True)∧rE (0:Nat)∧(∀ (i:Nat),i<(0:Nat)→rE (((qA T w (crA T m b) (0:Nat)).O i).sv.den)∧True∧True∧True∧True∧True)∧rE (0:Int)∧True)∧(¬(↑z:Int)<(↑T.1:Int)→(∃ (z_1:Nat),tu2I T z_1∧rE T.10∧(tuG8 T w)∧rE (0:Nat)∧rE (0:Nat)∧rE T.10∧(tuG7 T w)∧rE (↑T.10:Int)∧T.1=T.1∧(tuG2 T w)∧rE T.10∧(∀ (i:Nat),i<T.10→rE ((b6 (crA T m b i)).den)∧True)∧rE (0:Nat)∧rE (0 :
Nat)∧(0:Int)=sm (crA T m b) z_1∧(0:Int)=sm (slQ T w (crA T m b)) z_1∧sm T.fo z=sm T.fo T.1∧(0:Int)=sm (ltQ T w (crA T m b)) z_1∧rE (↑T.10:Int)∧(0:Int)=(↑z_1:Int)∧T.1=T.1∧(tuG5 T)∧T.5=T.5∧T.6=T.6∧T.7=T.7∧T.8=T.8∧T.9=T.9∧rE T.10∧(tuG6 T)∧T.1=(qA T w (crA T m b) z_1).1∧(∀ (i_2:Nat),i_2<(qA T w (crA T m b) z_1).1→((qA T w (crA T m b) (0:Nat)).S i_2).sv.den=((qA T w (crA T m b) z_1).S i_2).sv.den∧True∧True∧True∧True∧True)∧(0:Nat)=(qA T w (crA T m b) z_1).3∧(∀ (i_2:Nat),i_2<(qA T w (crA T m b) z_1).3→((qA T w (crA T m b) (0:Nat)).O i_2).sv.den=((qA T w (crA T m b) z_1).O i_2).sv.den∧True∧True∧True∧True∧True)∧(0:Int)=(qA T w (crA T m b) z_1).5∧True)∧∀ (z:Nat),tu2I T z→((↑z:Int)<(↑T.10:Int)→(0:Int)≤(↑z:Int)∧(↑z:Int)<(↑T.10:Int)∧(w (↑z :
Int).toNat=true→(0:Nat)<(1:Nat)∧(0:Nat)<(1:Nat)∧(∃ (zp9_1:Nat × Nat),(tu4I T w (crA T m b) zp9_1.fst zp9_1.snd∧zp9_1.1=(↑z:Int).toNat)∧rE T.10∧(tuG8 T w)∧rE (0:Nat)∧rE (0:Nat)∧rE T.10∧(tuG7 T w)∧rE (↑T.10:Int)∧T.1=T.1∧(tuG2 T w)∧rE T.10∧(∀ (i:Nat),i<T.10→rE ((b6 (crA T m b i)).den)∧True)∧rE (0:Nat)∧rE (0:Nat)∧sm (crA T m b) z=sm (crA T m b) zp9_1.1∧sm (slQ T w (crA T m b)) z=sm (slQ T w (crA T m b)) zp9_1.1∧rE (sm T.fo T.1)∧sm (ltQ T w (crA T m b)) z=sm (ltQ T w (crA T m b)) zp9_1.1∧(↑z:Int)=(↑zp9_1.1:Int)∧(↑(qA T w (crA T m b) z).1:Int)=(↑(nQ (qA T w (crA T m b) zp9_1.fst) (↑zp9_1.1:Int) zp9_1.2):Int)∧rE (↑T.10:Int)∧(↑z:Int)=(↑zp9_1.1:Int)∧(qA T w (crA T m b) z).3=(qA T w (crA T m b) zp9_1.fst).3∧(∀ (i_2:Nat),i_2<(qA T w (crA T m b) zp9_1.fst).3→((qA T w
(crA T m b) z).O i_2).sv.den=((qA T w (crA T m b) zp9_1.fst).O i_2).sv.den∧True∧True∧True∧True∧True)∧(↑(qA T w (crA T m b) z).3:Int)=(↑(qA T w (crA T m b) zp9_1.fst).3:Int)∧(0:Int)=(↑zp9_1.2:Int)∧T.1=T.1∧(tuG5 T)∧T.5=T.5∧T.6=T.6∧T.7=T.7∧T.8=T.8∧T.9=T.9∧rE T.10∧(tuG6 T)∧(qA T w (crA T m b) z).1=(qA T w (crA T m b) zp9_1.fst).1∧(∀ (i_2:Nat),i_2<(qA T w (crA T m b) zp9_1.fst).1→((qA T w (crA T m b) z).S i_2).sv.den=((qA T w (crA T m b) zp9_1.fst).S i_2).sv.den∧True∧True∧True∧True∧True)∧(qA T w (crA T m b) z).3=(qA T w (crA T m b) zp9_1.fst).3∧(∀ (i_2:Nat),i_2<(qA T w (crA T m b) zp9_1.fst).3→((qA T w (crA T m b) z).O i_2).sv.den=((qA T w (crA T m b) zp9_1.fst).O i_2).sv.den∧True∧True∧True∧True∧True)∧(qA T w (crA T m b) z).5=(qA T w (crA T m b) zp9_1.fst).5∧True)∧∀ (zp9_1 :
Nat × Nat),tu4I T w (crA T m b) zp9_1.fst zp9_1.snd∧zp9_1.1=(↑z:Int).toNat→((↑zp9_1.2:Int)<(↑(qA T w (crA T m b) zp9_1.fst).3:Int)→(0:Int)≤(↑zp9_1.2:Int)∧(↑zp9_1.2:Int)<(↑(qA T w (crA T m b) zp9_1.fst).3:Int)∧(0:Nat)<(1:Nat)∧(((qA T w (crA T m b) zp9_1.fst).O (↑zp9_1.snd:Int).toNat).4=(↑zp9_1.1:Int)→rI ((↑(nQ (qA T w (crA T m b) zp9_1.fst) (↑zp9_1.1:Int) zp9_1.2):Int)+(1:Int))∧rI ((↑zp9_1.2:Int)+(1:Int))∧∃ (zp9_2:Nat × Nat),(tu4I T w (crA T m b) zp9_2.fst zp9_2.snd∧zp9_2.1=(↑z:Int).toNat)∧(qA T w (crA T m b) zp9_2.fst).3 - zp9_2.2<(qA T w (crA T m b) zp9_1.fst).3 - zp9_1.2∧rE T.10∧(tuG8 T w)∧rE (0:Nat)∧rE (0:Nat)∧rE T.10∧(tuG7 T w)∧rE (↑T.10:Int)∧T.1=T.1∧(tuG2 T w)∧rE T.10∧(∀ (i:Nat),i<T.10→rE ((b6 (crA T m b i)).den)∧True)∧rE (0:Nat)∧rE (0:Nat)∧sm (crA T m b)
zp9_1.1=sm (crA T m b) zp9_2.1∧sm (slQ T w (crA T m b)) zp9_1.1=sm (slQ T w (crA T m b)) zp9_2.1∧rE (sm T.fo T.1)∧sm (ltQ T w (crA T m b)) zp9_1.1=sm (ltQ T w (crA T m b)) zp9_2.1∧(↑zp9_1.1:Int)=(↑zp9_2.1:Int)∧(↑(nQ (qA T w (crA T m b) zp9_1.fst) (↑zp9_1.1:Int) zp9_1.2):Int)+(1:Int)=(↑(nQ (qA T w (crA T m b) zp9_2.fst) (↑zp9_2.1:Int) zp9_2.2):Int)∧rE (↑T.10:Int)∧(↑zp9_1.1:Int)=(↑zp9_2.1:Int)∧(qA T w (crA T m b) zp9_1.fst).3=(qA T w (crA T m b) zp9_2.fst).3∧(tuG9 T w m b zp9_1 zp9_2)∧(↑(qA T w (crA T m b) zp9_1.fst).3:Int)=(↑(qA T w (crA T m b) zp9_2.fst).3:Int)∧(↑zp9_1.2:Int)+(1:Int)=(↑zp9_2.2:Int)∧T.1=T.1∧(tuG5 T)∧T.5=T.5∧T.6=T.6∧T.7=T.7∧T.8=T.8∧T.9=T.9∧rE T.10∧(tuG6 T)∧(qA T w (crA T m b) zp9_1.fst).1=(qA T w (crA T m b) zp9_2.fst).1∧(∀ (i_3:Nat),i_3<(qA T w (crA T m b)
zp9_2.fst).1→((qA T w (crA T m b) zp9_1.fst).S i_3).sv.den=((qA T w (crA T m b) zp9_2.fst).S i_3).sv.den∧True∧True∧True∧True∧True)∧(qA T w (crA T m b) zp9_1.fst).3=(qA T w (crA T m b) zp9_2.fst).3∧(tuG9 T w m b zp9_1 zp9_2)∧(qA T w (crA T m b) zp9_1.fst).5=(qA T w (crA T m b) zp9_2.fst).5∧True)∧(¬((qA T w (crA T m b) zp9_1.fst).O (↑zp9_1.snd:Int).toNat).4=(↑zp9_1.1:Int)→rI ((↑zp9_1.2:Int)+(1:Int))∧∃ (zp9_2:Nat × Nat),(tu4I T w (crA T m b) zp9_2.fst zp9_2.snd∧zp9_2.1=(↑z:Int).toNat)∧(qA T w (crA T m b) zp9_2.fst).3 - zp9_2.2<(qA T w (crA T m b) zp9_1.fst).3 - zp9_1.2∧rE T.10∧(tuG8 T w)∧rE (0:Nat)∧rE (0:Nat)∧rE T.10∧(tuG7 T w)∧rE (↑T.10:Int)∧T.1=T.1∧(tuG2 T w)∧rE T.10∧(∀ (i:Nat),i<T.10→rE ((b6 (crA T m b i)).den)∧True)∧rE (0:Nat)∧rE (0:Nat)∧sm (crA T m b) zp9_1.1=sm (crA T m b)
zp9_2.1∧sm (slQ T w (crA T m b)) zp9_1.1=sm (slQ T w (crA T m b)) zp9_2.1∧rE (sm T.fo T.1)∧sm (ltQ T w (crA T m b)) zp9_1.1=sm (ltQ T w (crA T m b)) zp9_2.1∧(↑zp9_1.1:Int)=(↑zp9_2.1:Int)∧(↑(nQ (qA T w (crA T m b) zp9_1.fst) (↑zp9_1.1:Int) zp9_1.2):Int)=(↑(nQ (qA T w (crA T m b) zp9_2.fst) (↑zp9_2.1:Int) zp9_2.2):Int)∧rE (↑T.10:Int)∧(↑zp9_1.1:Int)=(↑zp9_2.1:Int)∧(qA T w (crA T m b) zp9_1.fst).3=(qA T w (crA T m b) zp9_2.fst).3∧(tuG9 T w m b zp9_1 zp9_2)∧(↑(qA T w (crA T m b) zp9_1.fst).3:Int)=(↑(qA T w (crA T m b) zp9_2.fst).3:Int)∧(↑zp9_1.2:Int)+(1:Int)=(↑zp9_2.2:Int)∧T.1=T.1∧(tuG5 T)∧T.5=T.5∧T.6=T.6∧T.7=T.7∧T.8=T.8∧T.9=T.9∧rE T.10∧(tuG6 T)∧(qA T w (crA T m b) zp9_1.fst).1=(qA T w (crA T m b) zp9_2.fst).1∧(∀ (i_3:Nat),i_3<(qA T w (crA T m b) zp9_2.fst).1→((qA T w (crA T m b)
zp9_1.fst).S i_3).sv.den=((qA T w (crA T m b) zp9_2.fst).S i_3).sv.den∧True∧True∧True∧True∧True)∧(qA T w (crA T m b) zp9_1.fst).3=(qA T w (crA T m b) zp9_2.fst).3∧(tuG9 T w m b zp9_1 zp9_2)∧(qA T w (crA T m b) zp9_1.fst).5=(qA T w (crA T m b) zp9_2.fst).5∧True))∧(¬(↑zp9_1.2:Int)<(↑(qA T w (crA T m b) zp9_1.fst).3:Int)→((↑(nQ (qA T w (crA T m b) zp9_1.fst) (↑zp9_1.1:Int) zp9_1.2):Int)<(2:Int)→false=true∧True)∧(¬(↑(nQ (qA T w (crA T m b) zp9_1.fst) (↑zp9_1.1:Int) zp9_1.2):Int)<(2:Int)→(0:Nat)<(1:Nat)∧((0:Int)<(↑(qA T w (crA T m b) zp9_1.fst).1:Int)→(0:Nat)<(1:Nat)∧(0:Int)≤(0:Int)∧(0:Int)<(↑(qA T w (crA T m b) zp9_1.fst).1:Int)∧(0:Nat)<(1:Nat)∧rI (sm (ltQ T w (crA T m b)) zp9_1.1+((qA T w (crA T m b) zp9_1.fst).S (Int.toNat (0:Int))).2)∧(0:Nat)<(1:Nat)∧(0:Nat)<(1 :
Nat)∧(0:Int)≤(↑zp9_1.1:Int)∧(↑zp9_1.1:Int)<(↑T.10:Int)∧(0:Int)≤(↑zp9_1.1:Int)∧(↑zp9_1.1:Int)<(↑T.10:Int)∧(∀ (i:Nat),i<T.1→True∧True∧True∧True)∧(∀ (i:Nat),i<T.10→True∧True∧True)∧(∀ (i_2:Nat),i_2<(qA T w (crA T m b) zp9_1.fst).1→True∧True∧True∧True∧True)∧(∀ (i_2:Nat),i_2<(qA T w (crA T m b) zp9_1.fst).3→True∧True∧True∧True∧True)∧∃ T_7 s w_3,(tV T=tV T_7∧SV.agg [SV.lst (4:Nat) (qA T w (crA T m b) zp9_1.fst).n fun i=>((qA T w (crA T m b) zp9_1.fst).S i).sv,SV.lst (4:Nat) (qA T w (crA T m b) zp9_1.fst).m fun i=>((qA T w (crA T m b) zp9_1.fst).O i).sv,b6 (qA T w (crA T m b) zp9_1.fst).c]=s.sv∧hoP T_7 s (↑zp9_1.fst:Int) (crA T m b (↑zp9_1.fst:Int).toNat)∧(w (↑zp9_1.fst:Int).toNat=true↔w_3=true)∧(w_3=true→(2:Nat)≤s.1+cbQ s (↑zp9_1.1:Int)))∧(0:Int) ≤
(↑zp9_1.1:Int)∧(↑zp9_1.1:Int)<(↑T.10:Int)∧(lvQ T_7 (wtQ T_7 s (↑zp9_1.fst:Int) w_3) (crA T m b (↑zp9_1.1:Int).toNat) (wtQ T_7 s (↑zp9_1.fst:Int) w_3).1<loA T w (↑zp9_1.1:Int).toNat→false=true∧True)∧(¬lvQ T_7 (wtQ T_7 s (↑zp9_1.fst:Int) w_3) (crA T m b (↑zp9_1.1:Int).toNat) (wtQ T_7 s (↑zp9_1.fst:Int) w_3).1<loA T w (↑zp9_1.1:Int).toNat→(0:Int)≤(↑zp9_1.1:Int)∧(↑zp9_1.1:Int)<(↑T.10:Int)∧(hiA T w (↑zp9_1.1:Int).toNat<lvQ T_7 (wtQ T_7 s (↑zp9_1.fst:Int) w_3) (crA T m b (↑zp9_1.1:Int).toNat) (wtQ T_7 s (↑zp9_1.fst:Int) w_3).1→false=true∧True)∧(¬hiA T w (↑zp9_1.1:Int).toNat<lvQ T_7 (wtQ T_7 s (↑zp9_1.fst:Int) w_3) (crA T m b (↑zp9_1.1:Int).toNat) (wtQ T_7 s (↑zp9_1.fst:Int) w_3).1→(0:Int)≤(↑zp9_1.1:Int)∧(↑zp9_1.1:Int)<(↑T.10:Int)∧rI (sm (crA T m b) zp9_1.1+crA T m b (↑zp9_1.1 :
Int).toNat)∧rI (sm (slQ T w (crA T m b)) zp9_1.1+lvQ T_7 (wtQ T_7 s (↑zp9_1.fst:Int) w_3) (crA T m b (↑zp9_1.1:Int).toNat) (wtQ T_7 s (↑zp9_1.fst:Int) w_3).1)∧(0:Nat)<(1:Nat)∧rI ((↑zp9_1.1:Int)+(1:Int))∧∃ (z_2:Nat),tu2I T z_2∧T.10 - z_2<T.10 - z∧rE T.10∧(tuG8 T w)∧rE (0:Nat)∧rE (0:Nat)∧rE T.10∧(tuG7 T w)∧rE (↑T.10:Int)∧T.1=T.1∧(tuG2 T w)∧rE T.10∧(∀ (i:Nat),i<T.10→rE ((b6 (crA T m b i)).den)∧True)∧rE (0:Nat)∧rE (0:Nat)∧sm (crA T m b) zp9_1.1+crA T m b (↑zp9_1.1:Int).toNat=sm (crA T m b) z_2∧sm (slQ T w (crA T m b)) zp9_1.1+lvQ T_7 (wtQ T_7 s (↑zp9_1.fst:Int) w_3) (crA T m b (↑zp9_1.1:Int).toNat) (wtQ T_7 s (↑zp9_1.fst:Int) w_3).1=sm (slQ T w (crA T m b)) z_2∧rE (sm T.fo T.1)∧sm (ltQ T w (crA T m b)) zp9_1.1+((qA T w (crA T m b) zp9_1.fst).S (Int.toNat (0:Int))).2=sm (ltQ T w
(crA T m b)) z_2∧rE (↑T.10:Int)∧(↑zp9_1.1:Int)+(1:Int)=(↑z_2:Int)∧T.1=T.1∧(tuG5 T)∧T.5=T.5∧T.6=T.6∧T.7=T.7∧T.8=T.8∧T.9=T.9∧rE T.10∧(tuG6 T)∧(wtQ T_7 s (↑zp9_1.fst:Int) w_3).1=(qA T w (crA T m b) z_2).1∧(∀ (i_3:Nat),i_3<(qA T w (crA T m b) z_2).1→((nxQ T_7 s (↑zp9_1.fst:Int) w_3 (crA T m b (↑zp9_1.fst:Int).toNat)).S i_3).sv.den=((qA T w (crA T m b) z_2).S i_3).sv.den∧True∧True∧True∧True∧True)∧(wtQ T_7 s (↑zp9_1.fst:Int) w_3).3=(qA T w (crA T m b) z_2).3∧(∀ (i_3:Nat),i_3<(qA T w (crA T m b) z_2).3→((nxQ T_7 s (↑zp9_1.fst:Int) w_3 (crA T m b (↑zp9_1.fst:Int).toNat)).O i_3).sv.den=((qA T w (crA T m b) z_2).O i_3).sv.den∧True∧True∧True∧True∧True)∧(wtQ T_7 s (↑zp9_1.fst:Int) w_3).5=(qA T w (crA T m b) z_2).5∧True)))∧(¬(0:Int)<(↑(qA T w (crA T m b) zp9_1.fst).1:Int) →
false=true∧True))))∧(¬w (↑z:Int).toNat=true→(0:Nat)<(1:Nat)∧(0:Nat)<(1:Nat)∧(0:Int)≤(↑z:Int)∧(↑z:Int)<(↑T.10:Int)∧(0:Int)≤(↑z:Int)∧(↑z:Int)<(↑T.10:Int)∧(∀ (i:Nat),i<T.1→True∧True∧True∧True)∧(∀ (i:Nat),i<T.10→True∧True∧True)∧(∀ (i_1:Nat),i_1<(qA T w (crA T m b) z).1→True∧True∧True∧True∧True)∧(∀ (i_1:Nat),i_1<(qA T w (crA T m b) z).3→True∧True∧True∧True∧True)∧∃ T_7 s w_3,(tV T=tV T_7∧SV.agg [SV.lst (4:Nat) (qA T w (crA T m b) z).n fun i=>((qA T w (crA T m b) z).S i).sv,SV.lst (4:Nat) (qA T w (crA T m b) z).m fun i=>((qA T w (crA T m b) z).O i).sv,b6 (qA T w (crA T m b) z).c]=s.sv∧hoP T_7 s (↑z:Int) (crA T m b (↑z:Int).toNat)∧(w (↑z:Int).toNat=true↔w_3=true)∧(w_3=true→(2:Nat)≤s.1+cbQ s (↑z:Int)))∧(0:Int)≤(↑z:Int) ∧
(↑z:Int)<(↑T.10:Int)∧(lvQ T_7 (wtQ T_7 s (↑z:Int) w_3) (crA T m b (↑z:Int).toNat) (wtQ T_7 s (↑z:Int) w_3).1<loA T w (↑z:Int).toNat→false=true∧True)∧(¬lvQ T_7 (wtQ T_7 s (↑z:Int) w_3) (crA T m b (↑z:Int).toNat) (wtQ T_7 s (↑z:Int) w_3).1<loA T w (↑z:Int).toNat→(0:Int)≤(↑z:Int)∧(↑z:Int)<(↑T.10:Int)∧(hiA T w (↑z:Int).toNat<lvQ T_7 (wtQ T_7 s (↑z:Int) w_3) (crA T m b (↑z:Int).toNat) (wtQ T_7 s (↑z:Int) w_3).1→false=true∧True)∧(¬hiA T w (↑z:Int).toNat<lvQ T_7 (wtQ T_7 s (↑z:Int) w_3) (crA T m b (↑z:Int).toNat) (wtQ T_7 s (↑z:Int) w_3).1→(0:Int)≤(↑z:Int)∧(↑z:Int)<(↑T.10:Int)∧rI (sm (crA T m b) z+crA T m b (↑z:Int).toNat)∧rI (sm (slQ T w (crA T m b)) z+lvQ T_7 (wtQ T_7 s (↑z:Int) w_3) (crA T m b (↑z:Int).toNat) (wtQ T_7 s (↑z:Int) w_3).1)∧(0:Nat)<(1:Nat)∧rI ((↑z:Int) +
(1:Int))∧∃ (z_1:Nat),tu2I T z_1∧T.10 - z_1<T.10 - z∧rE T.10∧(tuG8 T w)∧rE (0:Nat)∧rE (0:Nat)∧rE T.10∧(tuG7 T w)∧rE (↑T.10:Int)∧T.1=T.1∧(tuG2 T w)∧rE T.10∧(∀ (i:Nat),i<T.10→rE ((b6 (crA T m b i)).den)∧True)∧rE (0:Nat)∧rE (0:Nat)∧sm (crA T m b) z+crA T m b (↑z:Int).toNat=sm (crA T m b) z_1∧sm (slQ T w (crA T m b)) z+lvQ T_7 (wtQ T_7 s (↑z:Int) w_3) (crA T m b (↑z:Int).toNat) (wtQ T_7 s (↑z:Int) w_3).1=sm (slQ T w (crA T m b)) z_1∧rE (sm T.fo T.1)∧sm (ltQ T w (crA T m b)) z=sm (ltQ T w (crA T m b)) z_1∧rE (↑T.10:Int)∧(↑z:Int)+(1:Int)=(↑z_1:Int)∧T.1=T.1∧(tuG5 T)∧T.5=T.5∧T.6=T.6∧T.7=T.7∧T.8=T.8∧T.9=T.9∧rE T.10∧(tuG6 T)∧(wtQ T_7 s (↑z:Int) w_3).1=(qA T w (crA T m b) z_1).1∧(∀ (i_2:Nat),i_2<(qA T w (crA T m b) z_1).1→((nxQ T_7 s (↑z:Int) w_3 (crA T
m b (↑z:Int).toNat)).S i_2).sv.den=((qA T w (crA T m b) z_1).S i_2).sv.den∧True∧True∧True∧True∧True)∧(wtQ T_7 s (↑z:Int) w_3).3=(qA T w (crA T m b) z_1).3∧(∀ (i_2:Nat),i_2<(qA T w (crA T m b) z_1).3→((nxQ T_7 s (↑z:Int) w_3 (crA T m b (↑z:Int).toNat)).O i_2).sv.den=((qA T w (crA T m b) z_1).O i_2).sv.den∧True∧True∧True∧True∧True)∧(wtQ T_7 s (↑z:Int) w_3).5=(qA T w (crA T m b) z_1).5∧True))))∧(¬(↑z:Int)<(↑T.10:Int)→(True∧True∧(True∧(True∧(0:Nat)<(1:Nat)∧(tuG4 T w m b z)∧(tuG0 T w m b z)∧True)∧(True∧(0:Nat)<(1:Nat)∧(tuG0 T w m b z)∧True)∧True)∧(True∧(0:Nat)<(1:Nat)∧(True∧(tuG4 T w m b z)∧(tuG0 T w m b z)∧True)∧(tuG3 T w m b z)∧True)∧(True∧(0:Nat)<(1:Nat)∧(True∧(tuG0 T w m b z)∧True)∧(tuG3 T w m b z)∧True)∧True)∧∀ (zp4_0:Unit),True→(∃ (z :
Nat),tu0I T z∧T.1=T.1∧(tuG2 T w)∧rE (0:Nat)∧rE (0:Nat)∧rE (sm (crA T m b) T.10)∧rE (sm (slQ T w (crA T m b)) T.10)∧rE (sm T.fo T.1)∧rE (sm (ltQ T w (crA T m b)) T.10)∧(0:Int)=sm (fun j=>(alQ (qA T w (crA T m b) T.nl) j).f) z∧T.1=T.1∧(0:Nat)+T.1≤T.1∧(∀ (i:Nat),i<T.1→(alQ (qA T w (crA T m b) T.nl) (i+(0:Nat))).sv.den=(alQ (qA T w (crA T m b) T.nl) i).sv.den∧rE (4:Nat)∧True∧True∧True∧True∧True)∧rE (↑T.1:Int)∧(0:Int)=(↑z:Int)∧T.1=T.1∧(tuG5 T)∧T.5=T.5∧T.6=T.6∧T.7=T.7∧T.8=T.8∧T.9=T.9∧rE T.10∧(tuG6 T)∧rE ((qA T w (crA T m b) T.nl).1)∧(∀ (i:Nat),i<(qA T w (crA T m b) T.nl).1→rE (((qA T w (crA T m b) T.nl).S i).sv.den)∧True∧True∧True∧True∧True)∧rE ((qA T w (crA T m b) T.nl).3)∧(∀ (i:Nat),i<(qA T w (crA T m b) T.nl).3→rE (((qA T w (crA T m b) T.nl).O
i).sv.den)∧True∧True∧True∧True∧True)∧rE ((qA T w (crA T m b) T.nl).5)∧True)∧∀ (z:Nat),tu0I T z→((↑z:Int)<(↑T.1:Int)→(0:Int)≤(↑z:Int)∧(↑z:Int)<(↑T.1:Int)∧(0:Int)≤(↑z:Int)∧(↑z:Int)<(↑T.1:Int)∧(0:Nat)<(1:Nat)∧(0:Nat)<(1:Nat)∧(¬(fsA T w (coL T)).3 (↑z:Int).toNat=(alQ (qA T w (crA T m b) T.nl) (↑z:Int).toNat).1→false=true∧True)∧(¬¬(fsA T w (coL T)).3 (↑z:Int).toNat=(alQ (qA T w (crA T m b) T.nl) (↑z:Int).toNat).1→(0:Nat)<(1:Nat)∧(0:Nat)<(1:Nat)∧(¬(fsA T w (coL T)).5 (↑z:Int).toNat=(alQ (qA T w (crA T m b) T.nl) (↑z:Int).toNat).3→false=true∧True)∧(¬¬(fsA T w (coL T)).5 (↑z:Int).toNat=(alQ (qA T w (crA T m b) T.nl) (↑z:Int).toNat).3→(0:Nat)<(1:Nat)∧(0:Nat)<(1:Nat)∧(¬((fsA T w (coL T)).2≤(↑(↑z:Int).toNat:Int)↔(↑(qA T w (crA T m b)
T.nl).1:Int)≤(↑z:Int))→false=true∧True)∧(¬¬((fsA T w (coL T)).2≤(↑(↑z:Int).toNat:Int)↔(↑(qA T w (crA T m b) T.nl).1:Int)≤(↑z:Int))→(0:Nat)<(1:Nat)∧(0:Nat)<(1:Nat)∧((alQ (qA T w (crA T m b) T.nl) (↑z:Int).toNat).2<(fsA T w (coL T)).4 (↑z:Int).toNat→false=true∧True)∧(¬(alQ (qA T w (crA T m b) T.nl) (↑z:Int).toNat).2<(fsA T w (coL T)).4 (↑z:Int).toNat→(0:Nat)<(1:Nat)∧(0:Nat)<(1:Nat)∧((fsA T w (coH T (0:Int))).4 (↑z:Int).toNat<(alQ (qA T w (crA T m b) T.nl) (↑z:Int).toNat).2→false=true∧True)∧(¬(fsA T w (coH T (0:Int))).4 (↑z:Int).toNat<(alQ (qA T w (crA T m b) T.nl) (↑z:Int).toNat).2→(0:Nat)<(1:Nat)∧((fsA T w (coL T)).2≤(↑(↑z:Int).toNat:Int)→(0:Nat)<(1:Nat)∧(¬((fsA T w (coL T)).4 (↑z:Int).toNat=(0:Int)∧(fsA T w (coH T (0:Int))).4 (↑z:Int).toNat =
(0:Int))→false=true∧True)∧(¬¬((fsA T w (coL T)).4 (↑z:Int).toNat=(0:Int)∧(fsA T w (coH T (0:Int))).4 (↑z:Int).toNat=(0:Int))→(0:Nat)<(1:Nat)∧rI (sm (fun j=>(alQ (qA T w (crA T m b) T.nl) j).f) z+(alQ (qA T w (crA T m b) T.nl) (↑z:Int).toNat).2)∧rI ((↑z:Int)+(1:Int))∧∃ (z_1:Nat),tu0I T z_1∧T.1 - z_1<T.1 - z∧T.1=T.1∧(tuG2 T w)∧rE (0:Nat)∧rE (0:Nat)∧rE (sm (crA T m b) T.10)∧rE (sm (slQ T w (crA T m b)) T.10)∧rE (sm T.fo T.1)∧rE (sm (ltQ T w (crA T m b)) T.10)∧sm (fun j=>(alQ (qA T w (crA T m b) T.nl) j).f) z+(alQ (qA T w (crA T m b) T.nl) (↑z:Int).toNat).2=sm (fun j=>(alQ (qA T w (crA T m b) T.nl) j).f) z_1∧T.1=T.1∧(∀ (i:Nat),i<T.1→rE ((alQ (qA T w (crA T m b) T.nl) i).sv.den)∧True∧True∧True∧True∧True)∧rE (↑T.1:Int)∧(↑z:Int)+(1:Int)=(↑z_1:Int)∧T.1=T.1 ∧
(tuG5 T)∧T.5=T.5∧T.6=T.6∧T.7=T.7∧T.8=T.8∧T.9=T.9∧rE T.10∧(tuG6 T)∧rE ((qA T w (crA T m b) T.nl).1)∧(∀ (i:Nat),i<(qA T w (crA T m b) T.nl).1→rE (((qA T w (crA T m b) T.nl).S i).sv.den)∧True∧True∧True∧True∧True)∧rE ((qA T w (crA T m b) T.nl).3)∧(∀ (i:Nat),i<(qA T w (crA T m b) T.nl).3→rE (((qA T w (crA T m b) T.nl).O i).sv.den)∧True∧True∧True∧True∧True)∧rE ((qA T w (crA T m b) T.nl).5)∧True))∧(¬(fsA T w (coL T)).2≤(↑(↑z:Int).toNat:Int)→(0:Nat)<(1:Nat)∧rI (sm (fun j=>(alQ (qA T w (crA T m b) T.nl) j).f) z+(alQ (qA T w (crA T m b) T.nl) (↑z:Int).toNat).2)∧rI ((↑z:Int)+(1:Int))∧∃ (z_1:Nat),tu0I T z_1∧T.1 - z_1<T.1 - z∧T.1=T.1∧(tuG2 T w)∧rE (0:Nat)∧rE (0:Nat)∧rE (sm (crA T m b) T.10)∧rE (sm (slQ T w (crA T m b)) T.10)∧rE (sm T.fo T.1)∧rE (sm (ltQ T w (crA T m
b)) T.10)∧sm (fun j=>(alQ (qA T w (crA T m b) T.nl) j).f) z+(alQ (qA T w (crA T m b) T.nl) (↑z:Int).toNat).2=sm (fun j=>(alQ (qA T w (crA T m b) T.nl) j).f) z_1∧T.1=T.1∧(∀ (i:Nat),i<T.1→rE ((alQ (qA T w (crA T m b) T.nl) i).sv.den)∧True∧True∧True∧True∧True)∧rE (↑T.1:Int)∧(↑z:Int)+(1:Int)=(↑z_1:Int)∧T.1=T.1∧(tuG5 T)∧T.5=T.5∧T.6=T.6∧T.7=T.7∧T.8=T.8∧T.9=T.9∧rE T.10∧(tuG6 T)∧rE ((qA T w (crA T m b) T.nl).1)∧(∀ (i:Nat),i<(qA T w (crA T m b) T.nl).1→rE (((qA T w (crA T m b) T.nl).S i).sv.den)∧True∧True∧True∧True∧True)∧rE ((qA T w (crA T m b) T.nl).3)∧(∀ (i:Nat),i<(qA T w (crA T m b) T.nl).3→rE (((qA T w (crA T m b) T.nl).O i).sv.den)∧True∧True∧True∧True∧True)∧rE ((qA T w (crA T m b) T.nl).5)∧True)))))))∧(¬(↑z:Int)<(↑T.1:Int)→rI (sm T.fo T.1+sm (crA T m b)
T.10)∧rI (sm (fun j=>(alQ (qA T w (crA T m b) T.nl) j).f) z+sm (slQ T w (crA T m b)) T.10)∧rI (sm (fun j=>(alQ (qA T w (crA T m b) T.nl) j).f) z+sm (slQ T w (crA T m b)) T.10+sm (ltQ T w (crA T m b)) T.10)∧(sm T.fo T.1+sm (crA T m b) T.10=sm (fun j=>(alQ (qA T w (crA T m b) T.nl) j).f) z+sm (slQ T w (crA T m b)) T.10+sm (ltQ T w (crA T m b)) T.10→rE true∧True)∧(¬sm T.fo T.1+sm (crA T m b) T.10=sm (fun j=>(alQ (qA T w (crA T m b) T.nl) j).f) z+sm (slQ T w (crA T m b)) T.10+sm (ltQ T w (crA T m b)) T.10→false=true∧True)))))))))))))):=by kernel_rfl
end Go.Proofs.Ytpdcajchppoocaa

set_option maxRecDepth 100000
namespace Go.Proofs.Ytpdcajchppoocaa
open Go Go.Lg
attribute [local irreducible] bodyH
theorem sm_congr {f g:Nat→Int}:∀ {n:Nat},(∀ i,i<n→f i=g i)→sm f n=sm g n
 | 0,_=>rfl
 | n+1,h=>by
  show sm f n+f n=sm g n+g n
  rw [sm_congr (n:=n) fun i hi=>h i (by omega),h n (by omega)]
theorem sm_in {f:Nat→Int} {B:Int}:∀ {n:Nat},(∀ i,i<n→0≤f i∧f i≤B)→0≤sm f n∧sm f n≤B*(n:Int)
 | 0,_=>⟨Int.le_refl _,by show (0:Int)≤B*0; omega⟩
 | n+1,h=>by
  have ih:=sm_in (n:=n) fun i hi=>h i (by omega)
  have h1:=h n (by omega)
  have e:B*((n+1:Nat):Int)=B*n+B:=by rw [show ((n+1:Nat):Int)=(n:Int)+1 by omega,Int.mul_add,Int.mul_one]
  show 0≤sm f n+f n∧sm f n+f n≤_
  rw [e]; omega
theorem sm_zero {f:Nat→Int} {n:Nat} (h:∀ i,i<n→f i=0):sm f n=0:=by
 have:=sm_in (f:=f) (B:=0) (n:=n) fun i hi=>by rw [h i hi]; omega
 omega
theorem sm_add {f g:Nat→Int}:∀ n:Nat,sm (fun i=>f i+g i) n=sm f n+sm g n
 | 0=>rfl
 | n+1=>by
  show sm (fun i=>f i+g i) n+(f n+g n)=sm f n+f n+(sm g n+g n)
  rw [sm_add n]; omega
theorem sm_shift {f:Nat→Int}:∀ n:Nat,sm f (n+1)=f 0+sm (fun i=>f (i+1)) n
 | 0=>by show (0:Int)+f 0=f 0+0; omega
 | n+1=>by
  show sm f (n+1)+f (n+1)=f 0+(sm (fun i=>f (i+1)) n+f (n+1))
  rw [sm_shift n]; omega
theorem sm_app {f:Nat→Int} {n:Nat}:∀ m:Nat,sm f (n+m)=sm f n+sm (fun i=>f (n+i)) m
 | 0=>by show sm f n=sm f n+0; omega
 | m+1=>by
  show sm f (n+m)+f (n+m)=sm f n+(sm (fun i=>f (n+i)) m+f (n+m))
  rw [sm_app m]; omega
def gQ (r:Rs):Int:=sm (fun i=>(r.S i).f) r.n
theorem lv_sm {T:Tn} {r:Rs} {a:Int}:∀ j:Nat,lvQ T r a j=a - sm (tkQ T r a) j
 | 0=>by show a=a - 0; omega
 | j+1=>by
  show lvQ T r a j - tkQ T r a j=a - (sm (tkQ T r a) j+tkQ T r a j)
  rw [lv_sm j]; omega
theorem g_ps {T:Tn} {r:Rs} {a:Int}:sm (fun i=>(psQ T r a r.n i).f) r.n=gQ r+a - lvQ T r a r.n:=by
 have:sm (fun i=>(psQ T r a r.n i).f) r.n=sm (fun i=>(r.S i).f+tkQ T r a i) r.n:=sm_congr fun i hi=>by
  show (if i<r.n then (r.S i).f+tkQ T r a i else (r.S i).f)=_
  rw [if_pos hi]
 rw [this,sm_add,lv_sm]; unfold gQ; omega
theorem s1_sm {r:Rs} {h:Int} (ho:∀ i,i<r.m→(r.O i).f=0):sm (fun i=>(S1 r i).f) (r.n+cbQ r h)=gQ r:=by
 have c:=cb_le1 r h
 have e:sm (fun i=>(S1 r i).f) r.n=gQ r:=sm_congr fun i hi=>by show (S1 r i).f=_; unfold S1; rw [if_pos hi]
 rw [sm_app,e,sm_zero (f:=fun i=>(S1 r (r.n+i)).f) (n:=cbQ r h) fun i hi=>by
  show (S1 r (r.n+i)).f=0
  unfold S1
  rw [if_neg (by omega)]; exact ho 0 (by omega)]
 omega
theorem g_wt {T:Tn} {r:Rs} {h:Int} {w:Bool} (hn:1≤r.n) (ho:∀ i,i<r.m→(r.O i).f=0) (h2:w=true→2≤r.n+cbQ r h):gQ (wtQ T r h w)=gQ r - (if w=true then (r.S 0).f else 0):=by
 cases w with
 | false =>
  have:gQ (wtQ T r h false)=sm (fun i=>(S1 r i).f) (r.n+cbQ r h):=rfl
  rw [this,s1_sm ho]; simp
 | true =>
  have h2:=h2 rfl
  have e:gQ (wtQ T r h true)=sm (fun i=>(S1 r (i+1)).f) (r.n+cbQ r h - 1):=rfl
  have e2:=s1_sm (h:=h) ho
  rw [show r.n+cbQ r h=r.n+cbQ r h - 1+1 by omega,sm_shift] at e2
  have e3:(S1 r 0).f=(r.S 0).f:=by unfold S1; rw [if_pos (by omega)]
  rw [e,if_pos rfl,← e2,← e3]; omega
section
variable {T:Tn} {w:Nat→Bool} {c:Nat→Int}
theorem q_n (h:okC T c) (hw:fwA T w=T.nl) {z:Nat} (hz:z≤T.nl):eqQ T (stA T (tW w) c z) (qA T w c z)∧okS T (stA T (tW w) c z):=by
 have hl:=h.t.nl
 have h1:∀ k,k<z→0≤c k:=fun k hk=>(h.c k (by omega)).1
 have h2:∀ k,k<z→¬ wrA T (tW w) c k:=fun k hk=>fw_a (by omega)
 exact ⟨qa_eq h.t (by omega) h1 h2,Go.Lg.st_ok h.t (by omega) h1 h2⟩
theorem q_w (h:okC T c) (hw:fwA T w=T.nl) {z:Nat} (hz:z<T.nl) (e:w z=true):2≤(qA T w c z).n+cbQ (qA T w c z) z:=by
 have:=rg_no (w:=w) h (i:=z) (by rw [hw]; exact hz)
 unfold wrQ at this
 apply Classical.byContradiction
 intro hn
 exact this ⟨e,by omega⟩
theorem g_all (h:okC T c) (hw:fwA T w=T.nl):∀ {z:Nat},z≤T.nl→gQ (qA T w c z)+sm (slQ T w c) z+sm (ltQ T w c) z=sm T.fo T.nb+sm c z
 | 0,_=>by
  show sm T.fo T.nb+0+0=sm T.fo T.nb+0
  omega
 | z+1,hz=>by
  have ih:=g_all h hw (z:=z) (by omega)
  obtain ⟨e,ok⟩:=q_n h hw (z:=z) (by omega)
  have hn:=e.n
  have h1:=ok.n
  have g1:=g_wt (T:=T) (r:=qA T w c z) (h:=z) (w:=w z) (by omega) (fun i hi=>(e.O i hi).2.1) (q_w h hw (by omega))
  have g2:=g_ps (T:=T) (r:=wtQ T (qA T w c z) z (w z)) (a:=c z)
  have e3:gQ (qA T w c (z+1))=sm (fun i=>(psQ T (wtQ T (qA T w c z) z (w z)) (c z) (wtQ T (qA T w c z) z (w z)).n i).f) (wtQ T (qA T w c z) z (w z)).n:=rfl
  show gQ (qA T w c (z+1))+(sm (slQ T w c) z+slQ T w c z)+(sm (ltQ T w c) z+ltQ T w c z)=sm T.fo T.nb+(sm c z+c z)
  have e4:slQ T w c z=lvQ T (wtQ T (qA T w c z) z (w z)) (c z) (wtQ T (qA T w c z) z (w z)).n:=rfl
  have e5:ltQ T w c z=if w z=true then ((qA T w c z).S 0).f else 0:=rfl
  rw [e3,g2,g1,e4,e5]; omega
theorem al_sm (h:okC T c) (hw:fwA T w=T.nl):sm (fun j=>(alQ (qA T w c T.nl) j).f) T.nb=gQ (qA T w c T.nl):=by
 obtain ⟨e,ok⟩:=q_n h hw (z:=T.nl) (Nat.le_refl _)
 rw [← e.nm,sm_app]
 have e1:sm (fun j=>(alQ (qA T w c T.nl) j).f) (qA T w c T.nl).n=gQ (qA T w c T.nl):=sm_congr fun i hi=>by show (alQ _ i).f=_; unfold alQ; rw [if_pos hi]
 rw [e1,sm_zero (f:=fun i=>(alQ (qA T w c T.nl) ((qA T w c T.nl).n+i)).f) fun i hi=>by
  show (alQ _ _).f=0
  unfold alQ
  rw [if_neg (by omega),Nat.add_sub_cancel_left]; exact (e.O i hi).2.1]
 omega
theorem al_eq (h:okC T c) (hw:fwA T w=T.nl) {i:Nat} (hi:i<T.nb):(alQ (qA T w c T.nl) i).b=(stA T (tW w) c T.nl).bx i∧(alQ (qA T w c T.nl) i).f=(stA T (tW w) c T.nl).fo i∧(alQ (qA T w c T.nl) i).r=(stA T (tW w) c T.nl).rv i∧((qA T w c T.nl).n≤i→(stA T (tW w) c T.nl).fo i=0):=by
 obtain ⟨e,ok⟩:=q_n h hw (z:=T.nl) (Nat.le_refl _)
 have hm:=e.nm
 unfold alQ
 split
 ·rename_i h1
  obtain ⟨a1,a2,a3⟩:=e.S i h1
  exact ⟨a1,a2,a3,fun h2=>by omega⟩
 ·rename_i h1
  obtain ⟨a1,a2,a3,a4,a5⟩:=e.O (i - (qA T w c T.nl).n) (by omega)
  rw [show (qA T w c T.nl).n+(i - (qA T w c T.nl).n)=i by omega] at a1 a3 a4
  exact ⟨a1,by rw [a2,a3],a4,fun _=>a3⟩
end
theorem cr_in {T:Tn} {m:Nat} {b:Nat→Int} (hT:okT T) (hm:0<m) (hb:∀ j,j<m→0≤b j∧b j≤65535) {i:Nat} (hi:i<T.nl):T.lo i≤crA T m b i∧crA T m b i≤T.hi i∧0≤(i:Int).tmod m∧(i:Int).tmod m<m:=by
 have hl:=hT.ld i hi
 have h1:0≤(i:Int).tmod m:=Int.tmod_nonneg _ (by omega)
 have h2:(i:Int).tmod m<m:=Int.tmod_lt_of_pos _ (by omega)
 have hbi:=hb ((i:Int).tmod m).toNat (by omega)
 have h3:0≤(b ((i:Int).tmod m).toNat).tmod (T.hi i - T.lo i+1):=Int.tmod_nonneg _ hbi.1
 have h4:(b ((i:Int).tmod m).toNat).tmod (T.hi i - T.lo i+1)<T.hi i - T.lo i+1:=Int.tmod_lt_of_pos _ (by omega)
 unfold crA
 omega
end Go.Proofs.Ytpdcajchppoocaa

set_option maxRecDepth 100000
namespace Go.Proofs.Ytpdcajchppoocaa
open Go Go.Lg
attribute [local irreducible] bodyH
theorem cs_true {T:Tn} {m:Nat} {b:Nat→Int} (hT:okT T) (hm:0<m) (hb:∀ j,j<m→0≤b j∧b j≤65535):csG T m b:=by
 rw [csG_vc]
 simp only [rI,rE,tt3,tt4,tt5,tt13,tt14,and_true,true_and,Nat.zero_lt_one,and_self,implies_true,Int.toNat_natCast,Nat.zero_add,Nat.add_zero,Nat.one_mul,Nat.mul_one,Classical.not_not,iff_self,Bool.false_eq_true,imp_false,and_imp,true_implies,forall_const]
 have hl:=hT.nl
 refine ⟨⟨fun h0=>?_,fun h0=>by omega⟩,fun z hz=>⟨fun hlt=>?_,fun hlt=>?_⟩⟩
 ·obtain ⟨c1,c2,c3,c4⟩:=cr_in hT hm hb (i:=0) (by omega)
  have hd:=hT.ld 0 (by omega)
  have hbi:=hb (((0:Nat):Int).tmod m).toNat (by omega)
  refine ⟨by omega,h0,by omega,c3,c4,⟨Int.le_trans (by omega) hbi.1,Int.le_trans hbi.2 (by omega)⟩,⟨?_,?_⟩,⟨?_,?_⟩,?_,⟨Int.le_trans (by omega) c1,Int.le_trans c2 (by omega)⟩,by omega,by omega,by omega,1,⟨by omega⟩,by omega,rfl,rfl,rfl,fun i hi=>?_⟩
  ·show _≤T.hi 0 - T.lo 0; omega
  ·show T.hi 0 - T.lo 0≤_; omega
  ·show _≤T.hi 0 - T.lo 0+1; omega
  ·show T.hi 0 - T.lo 0+1≤_; omega
  ·show ¬ T.hi 0 - T.lo 0+1=0; omega
  ·obtain rfl:i=0:=by omega
   rfl
 ·obtain ⟨c1,c2,c3,c4⟩:=cr_in hT hm hb (i:=z) (by omega)
  have hd:=hT.ld z (by omega)
  have hbi:=hb (((z:Nat):Int).tmod m).toNat (by omega)
  refine ⟨by omega,hlt,by omega,c3,c4,⟨by omega,by omega⟩,by omega,by omega,by omega,⟨Int.le_trans (by omega) c1,Int.le_trans c2 (by omega)⟩,by omega,by omega,by omega,z+1,⟨by omega⟩,by omega,rfl,rfl,rfl,fun i hi=>up_if (g:=crA T m b) hi⟩
 ·have:=hz.a
  omega
theorem cs_ok:csC.OkF Try.prog:=by
 refine ⟨by kernel_rfl,fun args k hk=>?_⟩
 simp only [csC] at hk
 split at hk
 ·obtain ⟨T,b,⟨rfl,rfl,hT,h1,hb⟩,hk⟩:=hk
  exact ⟨_,funY_does nil_cs nil_x nil_ic nil_o mixed (cs_true hT h1 hb),hk⟩
 ·exact hk.elim
theorem hoE_ok:hoE.OkF Try.prog:=by
 refine ⟨by kernel_rfl,fun args k hk=>?_⟩
 simp only [hoE] at hk
 split at hk
 ·rename_i h p ip a
  obtain ⟨T,s,w,⟨rfl,rfl,hp,hpw,h2⟩,hk⟩:=hk
  obtain ⟨res,d,hr⟩:=ho_ok.2 [tV T,s.sv,.int .i64 h,.dec p ip,.int .i64 a] (fun v=>v=.tup [(nxQ T s h w a).sv,b6 (lvQ T (wtQ T s h w) a (wtQ T s h w).n),.bool true]) (by
   refine ⟨T,s,⟨rfl,rfl,hp⟩,fun hn=>?_,fun hy h2'=>?_,fun hy h3=>?_⟩
   ·have:w=false:=by
     cases w with
     | false=>rfl
     | true=>exact (hn (hpw.2 rfl)).elim
    rw [this]
   ·rw [hpw.1 hy]
   ·have:=h2 (hpw.1 hy)
    omega)
  subst hr
  exact ⟨_,d,hk⟩
 ·exact hk.elim
theorem tu_true {T:Tn} {w:Nat→Bool} {m:Nat} {b:Nat→Int} (h:okR T w) (hb:∀ j,j<m→0≤b j∧b j≤65535):tuG T w m b:=by
 rw [tuG_vc]
 simp only [tuG0,tuG1,tuG2,tuG3,tuG4,tuG5,tuG6,tuG7,tuG8,tuG9,rI,rE,tt3,tt4,tt5,tt13,tt14,rI,rE,tt3,tt4,tt5,tt13,tt14,and_true,true_and,Nat.zero_lt_one,and_self,implies_true,Int.toNat_natCast,Nat.zero_add,Nat.add_zero,Nat.one_mul,Nat.mul_one,Classical.not_not,iff_self,Bool.false_eq_true,imp_false,and_imp,true_implies,forall_const]
 have hl:=h.t.nl
 have hnb:=h.t.nb
 refine ⟨T,rfl,fun _ _ hm0=>?_⟩
 have hm1:0<m:=by omega
 have cr:=fun {i} hi=>cr_in (T:=T) (m:=m) (b:=b) h.t hm1 hb (i:=i) hi
 refine ⟨T,w,⟨rfl,rfl,h⟩,T,w,⟨rfl,rfl,h⟩,fun hn=>(hn trivial).elim,T,rfl,h.t,fun _=>⟨rfl,fun _=>⟨rfl,fun _=>⟨T,b,⟨rfl,rfl,h.t,hm1,hb⟩,T,⟨rfl,by omega⟩,⟨0,⟨by omega⟩,rfl,fun i hi=>rfl,rfl,rfl,fun i hi=>rfl,rfl,fun i hi=>rfl,rfl,rfl,rfl,fun i hi=>rfl⟩,?_⟩⟩⟩⟩
 have hc:okC T (crA T m b):=⟨h.t,fun k hk=>by have:=cr hk; have:=h.t.ld k hk; omega⟩
 generalize hC:crA T m b=C at *
 have fo:=fun i (hi:i<T.nb)=>h.t.bx i hi
 have smf:=fun z (hz:z≤T.nb)=>sm_in (f:=T.fo) (B:=10000) (n:=z) fun i hi=>by have:=fo i (by omega); omega
 have smc:=fun z (hz:z≤T.nl)=>sm_in (f:=C) (B:=10000) (n:=z) fun i hi=>by have:=cr (i:=i) (by omega); have:=h.t.ld i (by omega); omega
 have sl:=fun z (hz:z<T.nl)=>(rg_sl hc h.w (i:=z) hz)
 have slb:∀ z,z<T.nl→0≤slQ T w C z∧slQ T w C z≤10000:=fun z hz=>by
  rw [sl z hz]
  have h1:=sl_in h.t (w:=tW w) (c:=C) (m:=z) (by omega) (fun k hk=>by have:=hc.c k (by omega); omega) (fun k hk=>fw_a (by rw [h.w]; omega))
  have:=cr hz
  have:=h.t.ld z hz
  omega
 have sms:=fun z (hz:z≤T.nl)=>sm_in (f:=slQ T w C) (B:=10000) (n:=z) fun i hi=>slb i (by omega)
 have qn:=fun {z} (hz:z≤T.nl)=>q_n hc h.w hz
 have ltb:∀ z,z<T.nl→0≤((qA T w C z).S 0).f∧((qA T w C z).S 0).f≤10000:=fun z hz=>by
  obtain ⟨e,ok⟩:=qn (z:=z) (by omega)
  have hn:=e.n
  have ho:=ok.n
  have hS:=(ok_of e ok).S 0 (by omega)
  have hb:=h.t.bx ((qA T w C z).S 0).b.toNat (by have:=hS.b; omega)
  have hmu:=mul_in h.t hS.r
  have:=hS.f
  omega
 have ltq:∀ z,z<T.nl→0≤ltQ T w C z∧ltQ T w C z≤10000:=fun z hz=>by
  have:=ltb z hz
  show 0≤(if w z=true then _ else (0:Int))∧(if w z=true then _ else (0:Int))≤10000
  split <;> omega
 have sml:=fun z (hz:z≤T.nl)=>sm_in (f:=ltQ T w C) (B:=10000) (n:=z) fun i hi=>ltq i (by omega)
 have slo:∀ z,z<T.nl→loA T w z≤slQ T w C z∧slQ T w C z≤hiA T w z:=fun z hz=>by
  rw [sl z hz]
  refine ⟨sl_le fun k hk=>(cr (i:=k) (by omega)).1,?_⟩
  have:slA T (tW w) C z≤slA T (tW w) T.hi z:=sl_le fun k hk=>(cr (i:=k) (by omega)).2.1
  have e:slA T (tW w) T.hi z=hiA T w z:=sl_eq fun k hk=>rg_hd h.t k (by omega)
  omega
 refine fun z hz=>⟨fun hlt=>⟨by omega,hlt,by have:=smf (z+1) (by omega); have e:sm T.fo (z+1)=sm T.fo z+T.fo z:=rfl; omega,by omega,z+1,⟨by omega⟩,by omega,rfl,rfl⟩,fun hlt=>⟨⟨0,⟨by omega⟩,rfl,rfl,by rw [show z=T.nb by have:=hz.a; omega],rfl,rfl,rfl,fun i hi=>rfl,rfl,fun i hi=>rfl,rfl⟩,?_⟩⟩
 refine fun z hz=>⟨fun hlt=>⟨by omega,hlt,fun ht=>⟨⟨(z,0),⟨⟨by show z<T.nl; omega,Nat.zero_le _⟩,rfl⟩,rfl,rfl,rfl,rfl,by show ((qA T w C z).n:Int)=((qA T w C z).n+min 0 (cbQ (qA T w C z) z):Nat); omega,rfl,rfl,fun i hi=>rfl,rfl,rfl,rfl,fun i hi=>rfl,rfl,fun i hi=>rfl,rfl⟩,?_⟩,fun hf=>?_⟩,fun hlt=>?_⟩
 ·rintro ⟨z',i⟩ hi rfl
  have hzl:z'<T.nl:=by omega
  obtain ⟨e,ok⟩:=qn (z:=z') (by omega)
  have eh:=st_h (T:=T) (w:=tW w) (c:=C) z'
  have kne:=k_ne e
  rw [eh] at kne
  have hcb:=cb_le1 (qA T w C z') z'
  have hm:=e.nm
  have hib:i≤(qA T w C z').m:=hi.b
  dsimp only
  refine ⟨fun hl4=>⟨by omega,hl4,fun hk=>?_,fun hk=>?_⟩,fun hl4=>?_⟩
  ·have hl4:(i:Int)<(qA T w C z').m:=hl4
   have i0:i=0:=by
    rcases Nat.eq_zero_or_pos i with e0 | e0
    ·exact e0
    ·exact absurd hk (kne i e0 (by omega))
   subst i0
   have c1:cbQ (qA T w C z') z'=1:=cb_one (by omega) hk
   have n0:nQ (qA T w C z') z' 0=(qA T w C z').n:=by show _+min 0 _=_; omega
   have n1:nQ (qA T w C z') z' 1=(qA T w C z').n+1:=by show _+min 1 _=_; omega
   exact ⟨by rw [n0]; omega,by omega,(z',1),⟨⟨hzl,by show 1≤(qA T w C z').m; omega⟩,rfl⟩,by show (qA T w C z').m - 1<(qA T w C z').m - 0; omega,rfl,rfl,rfl,rfl,by rw [n0,n1]; rfl,rfl,rfl,fun i hi=>rfl,rfl,rfl,rfl,fun i hi=>rfl,rfl,fun i hi=>rfl,rfl⟩
  ·have hl4:(i:Int)<(qA T w C z').m:=hl4
   have ic:cbQ (qA T w C z') z'≤i:=by
    rcases Nat.eq_zero_or_pos i with e0 | e0
    ·subst e0
     rcases Nat.eq_zero_or_pos (cbQ (qA T w C z') z') with e | e
     ·omega
     ·exact absurd (cb_k (by omega)) hk
    ·omega
   have n0:nQ (qA T w C z') z' i=nQ (qA T w C z') z' (i+1):=by show _+min i _=_+min (i+1) _; omega
   exact ⟨by omega,(z',i+1),⟨⟨hzl,by show i+1≤(qA T w C z').m; omega⟩,rfl⟩,by show (qA T w C z').m - (i+1)<(qA T w C z').m - i; omega,rfl,rfl,rfl,rfl,by rw [n0],rfl,rfl,fun i hi=>rfl,rfl,rfl,rfl,fun i hi=>rfl,rfl,fun i hi=>rfl,rfl⟩
  ·have hl4:¬ (i:Int)<(qA T w C z').m:=hl4
   have nn:nQ (qA T w C z') z' i=(qA T w C z').n+cbQ (qA T w C z') z':=by show _+min i _=_; omega
   have q2:=q_w hc h.w hzl ht
   have hn1:=e.n
   have hn2:=ok.n
   have hlo:=slo z' hzl
   have es:slQ T w C z'=lvQ T (wtQ T (qA T w C z') z' true) (C z') (wtQ T (qA T w C z') z' true).n:=by unfold slQ; rw [ht]
   rw [es] at hlo
   have s1:=smc (z'+1) (by omega)
   have s2:=sms (z'+1) (by omega)
   have s3:=sml (z'+1) (by omega)
   have e1:sm C (z'+1)=sm C z'+C z':=rfl
   have e2:sm (slQ T w C) (z'+1)=sm (slQ T w C) z'+lvQ T (wtQ T (qA T w C z') z' true) (C z') (wtQ T (qA T w C z') z' true).n:=by rw [← es]; rfl
   have e3:sm (ltQ T w C) (z'+1)=sm (ltQ T w C) z'+((qA T w C z').S 0).f:=by
    show _+ltQ T w C z'=_
    unfold ltQ; rw [if_pos ht]
   have eq1:qA T w C (z'+1)=nxQ T (qA T w C z') z' true (C z'):=by show nxQ T (qA T w C z') _ (w z') _=_; rw [ht]
   refine ⟨by rw [nn]; omega,fun _=>⟨fun h0=>⟨by omega,h0,by show _≤sm (ltQ T w C) z'+((qA T w C z').S 0).f∧sm (ltQ T w C) z'+((qA T w C z').S 0).f≤_; omega,by omega,by omega,by omega,by omega,T,qA T w C z',true,⟨rfl,rfl,ho_at hc hzl (fun k hk=>rg_no hc (by rw [h.w]; omega)),⟨fun _=>rfl,fun _=>ht⟩,fun _=>q2⟩,by omega,by omega,by omega,fun _=>⟨by omega,by omega,by omega,fun _=>⟨by omega,by omega,by omega,by omega,by omega,z'+1,⟨by omega⟩,by omega,e1.symm,e2.symm,e3.symm,rfl,?_⟩⟩⟩,by omega⟩⟩
   rw [eq1]
   exact ⟨rfl,fun i hi=>rfl,rfl,fun i hi=>rfl,rfl⟩
 ·have hf:w z=false:=by simpa using hf
  have hzl:z<T.nl:=by omega
  have hlo:=slo z hzl
  have es:slQ T w C z=lvQ T (wtQ T (qA T w C z) z false) (C z) (wtQ T (qA T w C z) z false).n:=by unfold slQ; rw [hf]
  rw [es] at hlo
  have s1:=smc (z+1) (by omega)
  have s2:=sms (z+1) (by omega)
  have e1:sm C (z+1)=sm C z+C z:=rfl
  have e2:sm (slQ T w C) (z+1)=sm (slQ T w C) z+lvQ T (wtQ T (qA T w C z) z false) (C z) (wtQ T (qA T w C z) z false).n:=by rw [← es]; rfl
  have e3:sm (ltQ T w C) (z+1)=sm (ltQ T w C) z:=by
   show _+ltQ T w C z=_
   unfold ltQ; rw [hf]; simp
  have eq1:qA T w C (z+1)=nxQ T (qA T w C z) z false (C z):=by show nxQ T (qA T w C z) _ (w z) _=_; rw [hf]
  refine ⟨by omega,by omega,by omega,by omega,T,qA T w C z,false,⟨rfl,rfl,ho_at hc hzl (fun k hk=>rg_no hc (by rw [h.w]; omega)),by rw [hf],fun e=>nomatch e⟩,by omega,by omega,by omega,fun _=>⟨by omega,by omega,by omega,fun _=>⟨by omega,by omega,by omega,by omega,by omega,z+1,⟨by omega⟩,by omega,e1.symm,e2.symm,e3.symm,rfl,?_⟩⟩⟩
  rw [eq1]
  exact ⟨rfl,fun i hi=>rfl,rfl,fun i hi=>rfl,rfl⟩
 ·obtain rfl:z=T.nl:=by have:=hz.a; omega
  obtain ⟨e,ok⟩:=qn (z:=T.nl) (Nat.le_refl _)
  have hm:=e.nm
  have hn1:=e.n
  have hn2:=ok.n
  refine ⟨⟨by omega,by omega,by omega,by omega,rfl,rfl,rfl,hm,rfl,rfl,fun i hi=>rfl,rfl,fun i hi=>rfl,rfl,hm.symm,fun i hi=>?_⟩,⟨0,⟨by omega⟩,rfl,Nat.le_refl _,rfl⟩,?_⟩
  ·unfold alQ
   by_cases e1:i<(qA T w C T.nl).n
   ·simp only [if_pos e1,Nat.not_lt_zero,if_false,Nat.sub_zero]
    exact ⟨trivial,trivial,trivial,trivial⟩
   ·simp only [if_neg e1]
    exact ⟨trivial,trivial,trivial,trivial⟩
  ·have sL:fsA T w (coL T)=stA T (tW w) T.lo T.nl:=fs_end h.w
   have sH:fsA T w (coH T 0)=stA T (tW w) T.hi T.nl:=by rw [fs_end h.w]; exact st_eq fun k hk=>(rg_hd h.t k hk).symm
   have lL:leS (stA T (tW w) T.lo T.nl) (stA T (tW w) C T.nl):=st_le fun k hk=>(cr hk).1
   have lH:leS (stA T (tW w) C T.nl) (stA T (tW w) T.hi T.nl):=st_le fun k hk=>(cr hk).2.1
   obtain ⟨eL,_⟩:=rg_qa (w:=w) (rg_lo h.t) h.w
   obtain ⟨eH,_⟩:=rg_qa (w:=w) (rg_hi h.t) h.w
   have gal:=g_all hc h.w (z:=T.nl) (Nat.le_refl _)
   rw [← al_sm hc h.w] at gal
   have ael:=fun {i} (hi:i<T.nb)=>al_eq hc h.w hi
   rw [sL,sH]
   have ale:∀ i,i<T.nb→0≤(alQ (qA T w C T.nl) i).f∧(alQ (qA T w C T.nl) i).f≤10000:=fun i hi=>by
    rw [(ael hi).2.1]
    have h1:=ok.fo i hi
    have h2:=ok.bx i hi
    have h3:=h.t.bx ((stA T (tW w) C T.nl).bx i).toNat (by omega)
    have h4:=mul_in h.t (ok.rv i hi)
    omega
   have sma:=fun z (hz:z≤T.nb)=>sm_in (f:=fun j=>(alQ (qA T w C T.nl) j).f) (B:=10000) (n:=z) fun i hi=>ale i (by omega)
   have n2:(stA T (tW w) T.lo T.nl).n=(qA T w C T.nl).n:=by rw [lL.n,hn1]
   refine fun z hz=>⟨fun hlt=>?_,fun hlt=>?_⟩
   ·have hzb:z<T.nb:=by omega
    obtain ⟨a1,a2,a3,a4⟩:=ael hzb
    have s1:=sma (z+1) (by omega)
    have e1:sm (fun j=>(alQ (qA T w C T.nl) j).f) (z+1)=sm (fun j=>(alQ (qA T w C T.nl) j).f) z+(alQ (qA T w C T.nl) z).f:=rfl
    have g1:=lL.fo z
    have g2:=lH.fo z
    have out:(stA T (tW w) T.lo T.nl).n≤(z:Int)→(stA T (tW w) T.lo T.nl).fo z=0∧(stA T (tW w) T.hi T.nl).fo z=0:=fun ho=>by
     have nL:=eL.n
     have nH:=eH.n
     have mL:=eL.nm
     have mH:=eH.nm
     have n3:(stA T (tW w) T.hi T.nl).n=(stA T (tW w) T.lo T.nl).n:=by rw [← lH.n,lL.n]
     have oL:=(eL.O (z - (qA T w T.lo T.nl).n) (by omega)).2.2.1
     have oH:=(eH.O (z - (qA T w T.hi T.nl).n) (by omega)).2.2.1
     rw [show (qA T w T.lo T.nl).n+(z - (qA T w T.lo T.nl).n)=z by omega] at oL
     rw [show (qA T w T.hi T.nl).n+(z - (qA T w T.hi T.nl).n)=z by omega] at oH
     exact ⟨oL,oH⟩
    refine ⟨by omega,hlt,by omega,by omega,by rw [a1,lL.bx],fun _=>⟨by rw [a3,lL.rv],fun _=>⟨by rw [n2],fun _=>⟨by omega,fun _=>⟨by omega,fun _=>⟨fun ho=>⟨out ho,fun _ _=>⟨by omega,by omega,z+1,⟨by omega⟩,by omega,e1.symm,rfl⟩⟩,fun ho=>⟨by omega,by omega,z+1,⟨by omega⟩,by omega,e1.symm,rfl⟩⟩⟩⟩⟩⟩⟩
   ·obtain rfl:z=T.nb:=by have:=hz.a; omega
    have s0:=smf T.nb (Nat.le_refl _)
    have s1:=smc T.nl (Nat.le_refl _)
    have s2:=sms T.nl (Nat.le_refl _)
    have s3:=sml T.nl (Nat.le_refl _)
    have s4:=sma T.nb (Nat.le_refl _)
    exact ⟨by omega,by omega,by omega,gal.symm⟩
end Go.Proofs.Ytpdcajchppoocaa
