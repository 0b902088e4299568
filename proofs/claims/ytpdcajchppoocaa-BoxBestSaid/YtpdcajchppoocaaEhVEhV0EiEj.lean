import Derived.Test.YtpdcajchppoocaaEeEgEh
set_option linter.unusedVariables false
set_option linter.unusedSimpArgs false
set_option maxRecDepth 100000
namespace Go.Proofs.Ytpdcajchppoocaa
open Go Go.Lg
local notation "Z0"=>(0:Int)
local notation "N0"=>(0:Nat)
local notation "Z1"=>(1:Int)
local notation "N1"=>(1:Nat)
local notation "Z10000"=>(10000:Int)
def sE (s t:St) (k:Prop):Prop:=s.1=t.1∧s.2=t.2∧s.3 0=t.3 0∧s.3 1=t.3 1∧s.3 2=t.3 2∧s.3 3=t.3 3∧s.3 4=t.3 4∧s.4 0=t.4 0∧s.4 1=t.4 1∧s.4 2=t.4 2∧s.4 3=t.4 3∧s.4 4=t.4 4∧s.5 0=t.5 0∧s.5 1=t.5 1∧s.5 2=t.5 2∧s.5 3=t.5 3∧s.5 4=t.5 4∧s.6 0=t.6 0∧s.6 1=t.6 1∧s.6 2=t.6 2∧s.6 3=t.6 3∧s.6 4=t.6 4∧k
theorem fol0G_vc (T:Tn) (w:Nat→Bool):fol0G T w=(N0<N1∧(∀ (i:Nat),i<T.1→True∧True∧True∧True)∧∃ (T_1:Tn),(T.1=T_1.1∧bxV T=bxV T_1∧N1≤T_1.1∧T_1.1≤(5:Nat))∧N0<N1∧((Z0<(↑T.10:Int)→Z0≤Z0∧Z0<(↑T.10:Int)∧N0<N1∧∃ (s:St),(SRow.v (Nat.succ (21:Nat)) (SV.agg [b6 (beS T_1).h,b6 (beS T_1).n,b6 ((beS T_1).bx N0),b6 ((beS T_1).bx N1),b6 ((beS T_1).bx (2:Nat)),b6 ((beS T_1).bx (3:Nat)),b6 ((beS T_1).bx (4:Nat)),b6 ((beS T_1).fo
N0),b6 ((beS T_1).fo N1),b6 ((beS T_1).fo (2:Nat)),b6 ((beS T_1).fo (3:Nat)),b6 ((beS T_1).fo (4:Nat)),b6 ((beS T_1).rv N0),b6 ((beS T_1).rv N1),b6 ((beS T_1).rv (2:Nat)),b6 ((beS T_1).rv (3:Nat)),b6 ((beS T_1).rv (4:Nat)),b6 ((beS T_1).ba N0),b6 ((beS T_1).ba N1),b6 ((beS T_1).ba (2:Nat)),b6 ((beS T_1).ba (3:Nat)),b6 ((beS T_1).ba (4:Nat))])).f N0=s.sv∧(Z0≤s.2∧s.2≤(5:Int)∧(↑T.1:Int)≤(5:Int))∧N0<N1∧Z0≤Z0∧Z0<(↑T.10:Int)∧(¬w (Int.toNat
Z0)=true→N0<N1∧N0<N1∧N0<N1∧((∀ (i:Nat),i<T.1→True∧True∧True∧True)∧(∀ (i:Nat),i<T.10→True∧True∧True)∧∃ (T_2:Tn) (s_1:St),(SRow.v cbkP.S (cbS (↑T.nb:Int) s).sv).f N0=s_1.sv∧tV T=tV T_2∧(okT T_2∧okS T_2 s_1∧s_1.1≤(15:Int)∧Z0≤T.11 (Int.toNat Z0)∧T.11 (Int.toNat Z0)≤Z10000)∧True∧(∀ (i:Nat),i<N1→rE true)∧N1*(8:Nat)≤(140737488355328:Nat)∧N1≤(4611686018427387904:Nat)∧rI (Z0+Z1)
∧ ∃ (z:Nat),foI T w z∧T.10 - z<T.10∧rE N0∧rE N0∧rE N0∧rE N0∧rE N0∧N1=z∧rE T.10∧(∀ (i:Nat),i<T.10→rE ((ldV T i).den)∧True∧True∧True)∧rE (↑T.10:Int)∧Z0+Z1=(↑z:Int)∧T.1=T.1∧(∀ (i:Nat),i<T.1→rE ((bxV T i).den)∧True∧True∧True∧True)∧T.5=T.5∧T.6=T.6∧T.7=T.7∧T.8=T.8∧T.9=T.9∧rE T.10∧(∀ (i:Nat),i<T.10→rE ((ldV T i).den)∧True∧True∧True)∧rE T.10∧(∀ (i:Nat),i<T.10→rE ((SV.dec (w i=true) inferInstance).den)∧True)∧rE (Value.func
(Fn.func (50:FuncId)) #[] #[])∧sE (psS T_2 s_1 (T.11 (Int.toNat Z0))) (stA T (tW w) (coL T) z) (z=N1∧(∀ (i:Nat),i<z→rE N1∧slS T_2 s_1 (T.11 (Int.toNat Z0))=slA T (tW w) (coL T) i∧True)∧True))∧True)∧(¬¬w (Int.toNat Z0)=true→N0<N1∧((cbS (↑T.nb:Int) s).2=Z1→N0<N1∧N0<N1∧sE (cbS (↑T.nb:Int) s) (fsA T w (coL T)) (N0=fwA T w∧True))∧(¬(cbS (↑T.nb:Int) s).2=Z1→N0<N1∧(∀ (i:Nat),i<T.1→True∧True∧True∧True)∧(∀ (i
: Nat),i<T.10→True∧True∧True)∧∃ (T_2:Tn) (s_1:St),(SRow.v cbkP.S (cbS (↑T.nb:Int) s).sv).f N0=s_1.sv∧tV T=tV T_2∧(okT T_2∧okS T_2 s_1∧(2:Int)≤s_1.2)∧N0<N1∧N0<N1∧N0<N1∧((∀ (i:Nat),i<T.1→True∧True∧True∧True)∧(∀ (i:Nat),i<T.10→True∧True∧True)∧∃ (T_3:Tn) (s:St),(SRow.v trnP.S (tnS T_2 s_1).sv).f N0=s.sv∧tV T=tV T_3∧(okT T_3∧okS T_3 s∧s.1≤(15:Int)∧Z0≤T.11 (Int.toNat Z0)∧T.11 (Int.toNat Z0)≤Z10000)∧True∧(∀
(i:Nat),i<N1→rE true)∧N1*(8:Nat)≤(140737488355328:Nat)∧N1≤(4611686018427387904:Nat)∧rI (Z0+Z1)∧∃ (z:Nat),foI T w z∧T.10 - z<T.10∧rE N0∧rE N0∧rE N0∧rE N0∧rE N0∧N1=z∧rE T.10∧(∀ (i:Nat),i<T.10→rE ((ldV T i).den)∧True∧True∧True)∧rE (↑T.10:Int)∧Z0+Z1=(↑z:Int)∧T.1=T.1∧(∀ (i:Nat),i<T.1→rE ((bxV T i).den)∧True∧True∧True∧True)∧T.5=T.5∧T.6=T.6∧T.7=T.7∧T.8=T.8∧T.9=T.9∧rE T.10∧(∀ (i:Nat),i
< T.10→rE ((ldV T i).den)∧True∧True∧True)∧rE T.10∧(∀ (i:Nat),i<T.10→rE ((SV.dec (w i=true) inferInstance).den)∧True)∧rE (Value.func (Fn.func (50:FuncId)) #[] #[])∧sE (psS T_3 s (T.11 (Int.toNat Z0))) (stA T (tW w) (coL T) z) (z=N1∧(∀ (i:Nat),i<z→rE N1∧slS T_3 s (T.11 (Int.toNat Z0))=slA T (tW w) (coL T) i∧True)∧True))∧True)))∧(¬Z0<(↑T.10:Int)→N0<N1∧N0<N1∧sE (beS T_1) (fsA T w (coL T)) (N0=fwA T w∧True)))∧∀ (z:Nat),foI T w z→((↑z:Int)<(↑T.10 :
Int)→Z0≤(↑z:Int)∧(↑z:Int)<(↑T.10:Int)∧N0<N1∧∃ (s:St),(stA T (tW w) (coL T) z).sv=s.sv∧(Z0≤s.2∧s.2≤(5:Int)∧(↑T.1:Int)≤(5:Int))∧N0<N1∧Z0≤(↑z:Int)∧(↑z:Int)<(↑T.10:Int)∧(¬w (↑z:Int).toNat=true→N0<N1∧N0<N1∧N0<N1∧((∀ (i:Nat),i<T.1→True∧True∧True∧True)∧(∀ (i:Nat),i<T.10→True∧True∧True)∧∃ (T_2:Tn) (s_1:St),(SRow.v cbkP.S (cbS (↑T.nb:Int) s).sv).f N0=s_1.sv∧tV T=tV T_2∧(okT T_2 ∧
okS T_2 s_1∧s_1.1≤(15:Int)∧Z0≤T.11 (↑z:Int).toNat∧T.11 (↑z:Int).toNat≤Z10000)∧True∧(∀ (i:Nat),i<N1→rE true)∧rE N0∧z=z∧(∀ (i:Nat),rE true)∧(z+N1)*(8:Nat)≤(140737488355328:Nat)∧z+N1≤(4611686018427387904:Nat)∧rI ((↑z:Int)+Z1)∧∃ (z_1:Nat),foI T w z_1∧T.10 - z_1<T.10 - z∧rE N0∧rE N0∧rE N0∧rE N0∧rE N0∧z+N1=z_1∧rE T.10∧(∀ (i:Nat),i<T.10→rE ((ldV T i).den)∧True∧True∧True)∧rE (↑T.10:Int)∧(↑z:Int)
+ Z1=(↑z_1:Int)∧T.1=T.1∧(∀ (i:Nat),i<T.1→rE ((bxV T i).den)∧True∧True∧True∧True)∧T.5=T.5∧T.6=T.6∧T.7=T.7∧T.8=T.8∧T.9=T.9∧rE T.10∧(∀ (i:Nat),i<T.10→rE ((ldV T i).den)∧True∧True∧True)∧rE T.10∧(∀ (i:Nat),i<T.10→rE ((SV.dec (w i=true) inferInstance).den)∧True)∧rE (Value.func (Fn.func (50:FuncId)) #[] #[])∧sE (psS T_2 s_1 (T.11 (↑z:Int).toNat)) (stA T (tW w) (coL T) z_1) (z_1=z+N1∧(∀ (i:Nat),i<z_1→rE N1∧(if i<z then slA T (tW w) (coL T) i else slS T_2 s_1 (T.11 (↑z :
Int).toNat))=slA T (tW w) (coL T) i∧True)∧True))∧True)∧(¬¬w (↑z:Int).toNat=true→N0<N1∧((cbS (↑T.nb:Int) s).2=Z1→N0<N1∧N0<N1∧sE (cbS (↑T.nb:Int) s) (fsA T w (coL T)) (z=fwA T w∧N0+fwA T w≤z∧(∀ (i:Nat),i<fwA T w→rE N1∧rE N1∧slA T (tW w) (coL T) (i+N0)=slA T (tW w) (coL T) i∧True)∧True))∧(¬(cbS (↑T.nb:Int) s).2=Z1→N0<N1∧(∀ (i:Nat),i<T.1→True∧True∧True∧True)∧(∀ (i:Nat),i<T.10→True∧True∧True)∧∃
(T_2:Tn) (s_1:St),(SRow.v cbkP.S (cbS (↑T.nb:Int) s).sv).f N0=s_1.sv∧tV T=tV T_2∧(okT T_2∧okS T_2 s_1∧(2:Int)≤s_1.2)∧N0<N1∧N0<N1∧N0<N1∧((∀ (i:Nat),i<T.1→True∧True∧True∧True)∧(∀ (i:Nat),i<T.10→True∧True∧True)∧∃ (T_3:Tn) (s:St),(SRow.v trnP.S (tnS T_2 s_1).sv).f N0=s.sv∧tV T=tV T_3∧(okT T_3∧okS T_3 s∧s.1≤(15:Int)∧Z0≤T.11 (↑z:Int).toNat∧T.11 (↑z:Int).toNat≤Z10000)∧True∧(∀ (i:Nat),i<N1→rE true)∧rE N0∧z
= z∧(∀ (i:Nat),rE true)∧(z+N1)*(8:Nat)≤(140737488355328:Nat)∧z+N1≤(4611686018427387904:Nat)∧rI ((↑z:Int)+Z1)∧∃ (z_1:Nat),foI T w z_1∧T.10 - z_1<T.10 - z∧rE N0∧rE N0∧rE N0∧rE N0∧rE N0∧z+N1=z_1∧rE T.10∧(∀ (i:Nat),i<T.10→rE ((ldV T i).den)∧True∧True∧True)∧rE (↑T.10:Int)∧(↑z:Int)+Z1=(↑z_1:Int)∧T.1=T.1∧(∀ (i:Nat),i<T.1→rE ((bxV T i).den)∧True∧True∧True∧True)∧T.5=T.5∧T.6=T.6∧T.7=T.7∧T.8=T.8∧T.9=T.9∧rE
T.10∧(∀ (i:Nat),i<T.10→rE ((ldV T i).den)∧True∧True∧True)∧rE T.10∧(∀ (i:Nat),i<T.10→rE ((SV.dec (w i=true) inferInstance).den)∧True)∧rE (Value.func (Fn.func (50:FuncId)) #[] #[])∧sE (psS T_3 s (T.11 (↑z:Int).toNat)) (stA T (tW w) (coL T) z_1) (z_1=z+N1∧(∀ (i:Nat),i<z_1→rE N1∧(if i<z then slA T (tW w) (coL T) i else slS T_3 s (T.11 (↑z:Int).toNat))=slA T (tW w) (coL T) i∧True)∧True))∧True)))∧(¬(↑z:Int)<(↑T.10:Int)→N0<N1∧N0<N1∧sE (stA T (tW w) (coL T) z) (fsA T w (coL
T)) (z=fwA T w∧N0+fwA T w≤z∧(∀ (i:Nat),i<fwA T w→rE N1∧rE N1∧slA T (tW w) (coL T) (i+N0)=slA T (tW w) (coL T) i∧True)∧True))):=by kernel_rfl
theorem fol1G_vc (T:Tn) (w:Nat→Bool) (z:Int):fol1G T w z=(N0<N1∧(∀ (i:Nat),i<T.1→True∧True∧True∧True)∧∃ (T_1:Tn),(T.1=T_1.1∧bxV T=bxV T_1∧N1≤T_1.1∧T_1.1≤(5:Nat))∧N0<N1∧((Z0<(↑T.10:Int)→Z0≤Z0∧Z0<(↑T.10:Int)∧N0<N1∧∃ (s:St),(SRow.v (Nat.succ (21:Nat)) (SV.agg [b6 (beS T_1).h,b6 (beS T_1).n,b6 ((beS T_1).bx N0),b6 ((beS T_1).bx N1),b6 ((beS T_1).bx (2:Nat)),b6 ((beS T_1).bx (3:Nat)),b6 ((beS T_1).bx (4:Nat)),b6
((beS T_1).fo N0),b6 ((beS T_1).fo N1),b6 ((beS T_1).fo (2:Nat)),b6 ((beS T_1).fo (3:Nat)),b6 ((beS T_1).fo (4:Nat)),b6 ((beS T_1).rv N0),b6 ((beS T_1).rv N1),b6 ((beS T_1).rv (2:Nat)),b6 ((beS T_1).rv (3:Nat)),b6 ((beS T_1).rv (4:Nat)),b6 ((beS T_1).ba N0),b6 ((beS T_1).ba N1),b6 ((beS T_1).ba (2:Nat)),b6 ((beS T_1).ba (3:Nat)),b6 ((beS T_1).ba (4:Nat))])).f N0=s.sv∧(Z0≤s.2∧s.2≤(5:Int)∧(↑T.1:Int)≤(5:Int))∧N0<N1∧Z0≤Z0∧Z0<(↑T.10:Int) ∧
(¬w (Int.toNat Z0)=true→N0<N1∧N0<N1∧N0<N1∧(True∧True)∧(Z0≤T.12 (Int.toNat Z0)∧T.12 (Int.toNat Z0)≤Z10000∧Z0≤z∧z≤(10001:Int))∧((∀ (i:Nat),i<T.1→True∧True∧True∧True)∧(∀ (i:Nat),i<T.10→True∧True∧True)∧∃ (T_2:Tn) (s_1:St),(SRow.v cbkP.S (cbS (↑T.nb:Int) s).sv).f N0=s_1.sv∧tV T=tV T_2∧(okT T_2∧okS T_2 s_1∧s_1.1≤(15:Int)∧Z0≤min (T.12 (Int.toNat Z0)+z) Z10000∧min (T.12 (Int.toNat Z0) +
z) Z10000≤Z10000)∧True∧(∀ (i:Nat),i<N1→rE true)∧N1*(8:Nat)≤(140737488355328:Nat)∧N1≤(4611686018427387904:Nat)∧rI (Z0+Z1)∧∃ (z_1:Nat),foI T w z_1∧T.10 - z_1<T.10∧rE N0∧rE N0∧rE N0∧rE N0∧rE N0∧N1=z_1∧rE T.10∧(∀ (i:Nat),i<T.10→rE ((ldV T i).den)∧True∧True∧True)∧rE (↑T.10:Int)∧Z0+Z1=(↑z_1:Int)∧T.1=T.1∧(∀ (i:Nat),i<T.1→rE ((bxV T i).den)∧True∧True∧True∧True)∧T.5=T.5∧T.6=T.6∧T.7 =
T.7∧T.8=T.8∧T.9=T.9∧rE T.10∧(∀ (i:Nat),i<T.10→rE ((ldV T i).den)∧True∧True∧True)∧rE T.10∧(∀ (i:Nat),i<T.10→rE ((SV.dec (w i=true) inferInstance).den)∧True)∧rE (Fn.func (61:FuncId))∧rE (SV.denL [b6 z])∧(True∧True)∧sE (psS T_2 s_1 (min (T.12 (Int.toNat Z0)+z) Z10000)) (stA T (tW w) (coH T z) z_1) (z_1=N1∧(∀ (i:Nat),i<z_1→rE N1∧slS T_2 s_1 (min (T.12 (Int.toNat Z0)+z) Z10000)=slA T (tW w) (coH T z) i∧True)∧True))∧True)∧(¬¬w (Int.toNat Z0)=true→N0<N1
∧ ((cbS (↑T.nb:Int) s).2=Z1→N0<N1∧N0<N1∧sE (cbS (↑T.nb:Int) s) (fsA T w (coH T z)) (N0=fwA T w∧True))∧(¬(cbS (↑T.nb:Int) s).2=Z1→N0<N1∧(∀ (i:Nat),i<T.1→True∧True∧True∧True)∧(∀ (i:Nat),i<T.10→True∧True∧True)∧∃ (T_2:Tn) (s_1:St),(SRow.v cbkP.S (cbS (↑T.nb:Int) s).sv).f N0=s_1.sv∧tV T=tV T_2∧(okT T_2∧okS T_2 s_1∧(2:Int)≤s_1.2)∧N0<N1∧N0<N1∧N0<N1∧(True∧True)∧(Z0≤T.12 (Int.toNat
Z0)∧T.12 (Int.toNat Z0)≤Z10000∧Z0≤z∧z≤(10001:Int))∧((∀ (i:Nat),i<T.1→True∧True∧True∧True)∧(∀ (i:Nat),i<T.10→True∧True∧True)∧∃ (T_3:Tn) (s:St),(SRow.v trnP.S (tnS T_2 s_1).sv).f N0=s.sv∧tV T=tV T_3∧(okT T_3∧okS T_3 s∧s.1≤(15:Int)∧Z0≤min (T.12 (Int.toNat Z0)+z) Z10000∧min (T.12 (Int.toNat Z0)+z) Z10000≤Z10000)∧True∧(∀ (i:Nat),i<N1→rE true)∧N1*(8:Nat)≤(140737488355328:Nat)∧N1≤(4611686018427387904 :
Nat)∧rI (Z0+Z1)∧∃ (z_1:Nat),foI T w z_1∧T.10 - z_1<T.10∧rE N0∧rE N0∧rE N0∧rE N0∧rE N0∧N1=z_1∧rE T.10∧(∀ (i:Nat),i<T.10→rE ((ldV T i).den)∧True∧True∧True)∧rE (↑T.10:Int)∧Z0+Z1=(↑z_1:Int)∧T.1=T.1∧(∀ (i:Nat),i<T.1→rE ((bxV T i).den)∧True∧True∧True∧True)∧T.5=T.5∧T.6=T.6∧T.7=T.7∧T.8=T.8∧T.9=T.9∧rE T.10∧(∀ (i:Nat),i<T.10→rE ((ldV T i).den)∧True∧True∧True)∧rE T.10∧(∀ (i:Nat),i<T.10→rE ((SV.dec (w i=true)
inferInstance).den)∧True)∧rE (Fn.func (61:FuncId))∧rE (SV.denL [b6 z])∧(True∧True)∧sE (psS T_3 s (min (T.12 (Int.toNat Z0)+z) Z10000)) (stA T (tW w) (coH T z) z_1) (z_1=N1∧(∀ (i:Nat),i<z_1→rE N1∧slS T_3 s (min (T.12 (Int.toNat Z0)+z) Z10000)=slA T (tW w) (coH T z) i∧True)∧True))∧True)))∧(¬Z0<(↑T.10:Int)→N0<N1∧N0<N1∧sE (beS T_1) (fsA T w (coH T z)) (N0=fwA T w∧True)))∧∀ (z_1:Nat),foI T w z_1→((↑z_1:Int)<(↑T.10:Int)→Z0≤(↑z_1 :
Int)∧(↑z_1:Int)<(↑T.10:Int)∧N0<N1∧∃ (s:St),(stA T (tW w) (coH T z) z_1).sv=s.sv∧(Z0≤s.2∧s.2≤(5:Int)∧(↑T.1:Int)≤(5:Int))∧N0<N1∧Z0≤(↑z_1:Int)∧(↑z_1:Int)<(↑T.10:Int)∧(¬w (↑z_1:Int).toNat=true→N0<N1∧N0<N1∧N0<N1∧(True∧True)∧(Z0≤T.12 (↑z_1:Int).toNat∧T.12 (↑z_1:Int).toNat≤Z10000∧Z0≤z∧z≤(10001:Int))∧((∀ (i:Nat),i<T.1→True∧True∧True∧True)∧(∀ (i:Nat),i<T.10→True∧True∧True)
∧ ∃ (T_2:Tn) (s_1:St),(SRow.v cbkP.S (cbS (↑T.nb:Int) s).sv).f N0=s_1.sv∧tV T=tV T_2∧(okT T_2∧okS T_2 s_1∧s_1.1≤(15:Int)∧Z0≤min (T.12 (↑z_1:Int).toNat+z) Z10000∧min (T.12 (↑z_1:Int).toNat+z) Z10000≤Z10000)∧True∧(∀ (i:Nat),i<N1→rE true)∧rE N0∧z_1=z_1∧(∀ (i:Nat),rE true)∧(z_1+N1)*(8:Nat)≤(140737488355328:Nat)∧z_1+N1≤(4611686018427387904:Nat)∧rI ((↑z_1:Int)+Z1)∧∃ (z_2:Nat),foI T w z_2∧T.10 - z_2<T.10 - z_1∧rE N0∧rE (0 :
Nat)∧rE N0∧rE N0∧rE N0∧z_1+N1=z_2∧rE T.10∧(∀ (i:Nat),i<T.10→rE ((ldV T i).den)∧True∧True∧True)∧rE (↑T.10:Int)∧(↑z_1:Int)+Z1=(↑z_2:Int)∧T.1=T.1∧(∀ (i:Nat),i<T.1→rE ((bxV T i).den)∧True∧True∧True∧True)∧T.5=T.5∧T.6=T.6∧T.7=T.7∧T.8=T.8∧T.9=T.9∧rE T.10∧(∀ (i:Nat),i<T.10→rE ((ldV T i).den)∧True∧True∧True)∧rE T.10∧(∀ (i:Nat),i<T.10→rE ((SV.dec (w i=true) inferInstance).den)∧True)∧rE (Fn.func (61:FuncId))∧rE (SV.denL [b6 z])∧(True∧True)∧sE
(psS T_2 s_1 (min (T.12 (↑z_1:Int).toNat+z) Z10000)) (stA T (tW w) (coH T z) z_2) (z_2=z_1+N1∧(∀ (i:Nat),i<z_2→rE N1∧(if i<z_1 then slA T (tW w) (coH T z) i else slS T_2 s_1 (min (T.12 (↑z_1:Int).toNat+z) Z10000))=slA T (tW w) (coH T z) i∧True)∧True))∧True)∧(¬¬w (↑z_1:Int).toNat=true→N0<N1∧((cbS (↑T.nb:Int) s).2=Z1→N0<N1∧N0<N1∧sE (cbS (↑T.nb:Int) s) (fsA T w (coH T z)) (z_1=fwA T w∧N0+fwA T w≤z_1∧(∀ (i:Nat),i<fwA T w→rE N1 ∧
rE N1∧slA T (tW w) (coH T z) (i+N0)=slA T (tW w) (coH T z) i∧True)∧True))∧(¬(cbS (↑T.nb:Int) s).2=Z1→N0<N1∧(∀ (i:Nat),i<T.1→True∧True∧True∧True)∧(∀ (i:Nat),i<T.10→True∧True∧True)∧∃ (T_2:Tn) (s_1:St),(SRow.v cbkP.S (cbS (↑T.nb:Int) s).sv).f N0=s_1.sv∧tV T=tV T_2∧(okT T_2∧okS T_2 s_1∧(2:Int)≤s_1.2)∧N0<N1∧N0<N1∧N0<N1∧(True∧True)∧(Z0≤T.12 (↑z_1:Int).toNat∧T.12 (↑z_1:Int).toNat≤Z10000∧Z0≤z
∧ z≤(10001:Int))∧((∀ (i:Nat),i<T.1→True∧True∧True∧True)∧(∀ (i:Nat),i<T.10→True∧True∧True)∧∃ (T_3:Tn) (s:St),(SRow.v trnP.S (tnS T_2 s_1).sv).f N0=s.sv∧tV T=tV T_3∧(okT T_3∧okS T_3 s∧s.1≤(15:Int)∧Z0≤min (T.12 (↑z_1:Int).toNat+z) Z10000∧min (T.12 (↑z_1:Int).toNat+z) Z10000≤Z10000)∧True∧(∀ (i:Nat),i<N1→rE true)∧rE N0∧z_1=z_1∧(∀ (i:Nat),rE true)∧(z_1+N1)*(8:Nat)≤(140737488355328:Nat)∧z_1+N1≤(4611686018427387904:Nat)∧rI
((↑z_1:Int)+Z1)∧∃ (z_2:Nat),foI T w z_2∧T.10 - z_2<T.10 - z_1∧rE N0∧rE N0∧rE N0∧rE N0∧rE N0∧z_1+N1=z_2∧rE T.10∧(∀ (i:Nat),i<T.10→rE ((ldV T i).den)∧True∧True∧True)∧rE (↑T.10:Int)∧(↑z_1:Int)+Z1=(↑z_2:Int)∧T.1=T.1∧(∀ (i:Nat),i<T.1→rE ((bxV T i).den)∧True∧True∧True∧True)∧T.5=T.5∧T.6=T.6∧T.7=T.7∧T.8=T.8∧T.9=T.9∧rE T.10∧(∀ (i:Nat),i<T.10→rE ((ldV T i).den)∧True∧True∧True)∧rE T.10∧(∀ (i:Nat),i<T.10→rE ((SV.dec (w i
= true) inferInstance).den)∧True)∧rE (Fn.func (61:FuncId))∧rE (SV.denL [b6 z])∧(True∧True)∧sE (psS T_3 s (min (T.12 (↑z_1:Int).toNat+z) Z10000)) (stA T (tW w) (coH T z) z_2) (z_2=z_1+N1∧(∀ (i:Nat),i<z_2→rE N1∧(if i<z_1 then slA T (tW w) (coH T z) i else slS T_3 s (min (T.12 (↑z_1:Int).toNat+z) Z10000))=slA T (tW w) (coH T z) i∧True)∧True))∧True)))∧(¬(↑z_1:Int)<(↑T.10:Int)→N0<N1∧N0<N1∧sE (stA T (tW w) (coH T z) z_1) (fsA T w (coH T z)) (z_1=fwA T w∧N0+fwA T w ≤
z_1∧(∀ (i:Nat),i<fwA T w→rE N1∧rE N1∧slA T (tW w) (coH T z) (i+N0)=slA T (tW w) (coH T z) i∧True)∧True))):=by kernel_rfl
end Go.Proofs.Ytpdcajchppoocaa

set_option maxRecDepth 100000
namespace Go.Proofs.Ytpdcajchppoocaa
open Go Go.Lg
theorem c50G_vc (a:Int) (b:Int):c50G a b =
((0:Nat)<(1:Nat)∧a=a∧True):=by kernel_rfl
theorem c61G_vc (a:Int) (b:Int) (z:Int):c61G a b z =
((0:Nat)<(1:Nat) ∧
 ((-9223372036854775808:Int)≤b+z∧b+z≤(9223372036854775807:Int)) ∧
  min (b+z) (10000:Int)=min (b+z) (10000:Int)∧True):=by kernel_rfl
end Go.Proofs.Ytpdcajchppoocaa

set_option maxRecDepth 100000
namespace Go.Proofs.Ytpdcajchppoocaa
open Go Go.Lg
attribute [local irreducible] bodyH
theorem fwR_le {p:Nat→Prop}:∀ n k,k≤fwR p n k∧fwR p n k≤k+n
 | 0,k=>⟨Nat.le_refl _,Nat.le_refl _⟩
 | n+1,k=>by
  unfold fwR
  split
  ·omega
  ·have:=fwR_le (p:=p) n (k+1); omega
theorem fwR_not {p:Nat→Prop}:∀ n k h,k≤h→h<fwR p n k→¬ p h
 | 0,k,h,h1,h2=>by unfold fwR at h2; omega
 | n+1,k,h,h1,h2=>by
  unfold fwR at h2
  split at h2
  ·omega
  ·rename_i hp
   by_cases e:k=h
   ·subst e; exact hp
   ·exact fwR_not n (k+1) h (by omega) h2
theorem fwR_hit {p:Nat→Prop}:∀ n k,fwR p n k<k+n→p (fwR p n k)
 | 0,k,h=>by unfold fwR at h; omega
 | n+1,k,h=>by
  unfold fwR at h ⊢
  split at h
  ·rename_i hp; rw [if_pos hp]; exact hp
  ·rename_i hp; rw [if_neg hp]; exact fwR_hit n (k+1) (by omega)
section
variable {T:Tn} {w:Nat→Bool} {c:Nat→Int} {h:Nat}
theorem fw_d:fwA T w≤T.nl:=by have:=(fwR_le (p:=wrA T (tW w) (coL T)) T.nl 0).2; unfold fwA; omega
theorem fw_a (hh:h<fwA T w):¬ wrA T (tW w) c h:=fun hw=>fwR_not T.nl 0 h (Nat.zero_le _) hh (wr_sk.1 hw)
theorem fw_b (h1:h≤fwA T w) (h2:h<T.nl) (h3:¬ wrA T (tW w) c h):h+1≤fwA T w:=by
 apply Classical.byContradiction
 intro hn
 have e:fwA T w=h:=by omega
 have:=fwR_hit (p:=wrA T (tW w) (coL T)) T.nl 0 (by have:fwR (wrA T (tW w) (coL T)) T.nl 0=h:=e; omega)
 have e2:fwR (wrA T (tW w) (coL T)) T.nl 0=h:=e
 rw [e2] at this
 exact h3 (wr_sk.1 this)
theorem fw_c (h1:h≤fwA T w) (h3:wrA T (tW w) c h):fwA T w=h:=by
 apply Classical.byContradiction
 intro hn
 exact fw_a (c:=c) (by omega) h3
theorem fs_end (h1:fwA T w=T.nl):fsA T w c=stA T (tW w) c T.nl:=by unfold fsA; rw [if_pos h1]
theorem fs_brk (h1:fwA T w=h) (h2:h<T.nl):fsA T w c=cbS T.nb (stA T (tW w) c h):=by unfold fsA; rw [if_neg (by omega),h1]
theorem st_no (hw:¬ w h=true):stA T (tW w) c (h+1)=psS T (cbS T.nb (stA T (tW w) c h)) (c h)∧slA T (tW w) c h=slS T (cbS T.nb (stA T (tW w) c h)) (c h):=by
 have e:wtS T (tW w) (stA T (tW w) c h) h=cbS T.nb (stA T (tW w) c h):=by unfold wtS; rw [if_neg (show ¬ tW w h from hw)]
 exact ⟨by show psS T (wtS T (tW w) (stA T (tW w) c h) h) (c h)=_; rw [e],by unfold slA; rw [e]⟩
theorem st_tn (hw:w h=true):stA T (tW w) c (h+1)=psS T (tnS T (cbS T.nb (stA T (tW w) c h))) (c h)∧slA T (tW w) c h=slS T (tnS T (cbS T.nb (stA T (tW w) c h))) (c h):=by
 have e:wtS T (tW w) (stA T (tW w) c h) h=tnS T (cbS T.nb (stA T (tW w) c h)):=by unfold wtS; rw [if_pos (show tW w h from hw)]
 exact ⟨by show psS T (wtS T (tW w) (stA T (tW w) c h) h) (c h)=_; rw [e],by unfold slA; rw [e]⟩
theorem cb_h {m:Int} {s:St}:(cbS m s).h=s.h:=by unfold cbS; split <;> rfl
theorem tn_h {s:St}:(tnS T s).h=s.h:=rfl
theorem at_ok (hT:okT T) (hc:∀ k,k<T.nl→0≤c k) (h1:h≤fwA T w):okS T (cbS T.nb (stA T (tW w) c h))∧okS T (stA T (tW w) c h):=by
 have hd:=fw_d (T:=T) (w:=w)
 have hn:=hT.nl
 have:=st_ok hT (w:=tW w) (c:=c) (m:=h) (by omega) (fun k hk=>hc k (by omega)) (fun k hk=>fw_a (by omega))
 exact ⟨cb_ok hT this,this⟩
end
theorem one_i {f:Nat→Int} {x:Int} (h:f 0=x) {i:Nat} (hi:i<1):x=f i:=by
 obtain rfl:i=0:=by omega
 exact h.symm
theorem next_i {f:Nat→Int} {x:Int} {h:Nat} (e:f h=x) (i:Nat) (hi:i<h+1):(if i<h then f i else x)=f i:=by
 split
 ·rfl
 ·obtain rfl:i=h:=by omega
  exact e.symm
theorem fol0_true {T:Tn} (hT:okT T) (w:Nat→Bool):fol0G T w:=by
 rw [fol0G_vc]
 have hnl:=hT.nl
 have hnb:=hT.nb
 have hc:∀ k,k<T.nl→0≤coL T k:=fun k hk=>(hT.ld k hk).1
 have le0:∀ k,k<T.nl→coL T k≤10000:=fun k hk=>Int.le_trans (hT.ld k hk).2.1 (hT.ld k hk).2.2
 have ho:∀ h,h≤fwA T w→okS T (cbS T.nb (stA T (tW w) (coL T) h))∧okS T (stA T (tW w) (coL T) h):=fun h hh=>at_ok hT hc hh
 have hh:∀ h,(stA T (tW w) (coL T) h).h=h:=st_h
 simp only [sE,rI,rE,tt3,tt4,tt5,tt13,tt14,and_true,true_and,implies_true]
 refine ⟨by omega,T,⟨rfl,rfl,hnb.1,hnb.2⟩,by omega,⟨fun hl=>?_,fun hl=>?_⟩,fun h hI=>⟨fun hl=>?_,fun hl=>?_⟩⟩
 ·have h0:=ho 0 (Nat.zero_le _)
  have hn:=h0.2.n
  refine ⟨by omega,hl,by omega,stA T (tW w) (coL T) 0,rfl,⟨by omega,by omega,by omega⟩,by omega,by omega,hl,fun hw=>?_,fun hw=>?_⟩
  ·have hw:¬ w 0=true:=hw
   obtain ⟨e1,e2⟩:=st_no (T:=T) (c:=coL T) (h:=0) hw
   have e1:stA T (tW w) (coL T) 1=_:=e1
   have hb:=fw_b (T:=T) (w:=w) (c:=coL T) (h:=0) (Nat.zero_le _) (by omega) (fun hx=>hw hx.1)
   refine ⟨by omega,by omega,by omega,T,cbS T.nb (stA T (tW w) (coL T) 0),rfl,rfl,⟨hT,h0.1,by rw [cb_h,hh]; omega,hc 0 (by omega),?_⟩,by omega,by omega,by omega,1,⟨by omega,by omega,hb⟩,by omega,by omega,by omega,?_⟩
   ·exact le0 0 (by omega)
   ·rw [e1]
    and_intros
    all_goals first | rfl | omega | exact fun i hi=>one_i e2 hi
  ·have hw:w 0=true:=Classical.byContradiction hw
   refine ⟨by omega,fun hq=>?_,fun hq=>?_⟩
   ·have e:=fw_c (T:=T) (w:=w) (c:=coL T) (h:=0) (Nat.zero_le _) ⟨hw,hq⟩
    have e1:=fs_brk (c:=coL T) e (by omega)
    rw [e1,e]
    and_intros
    all_goals first | rfl | omega
   ·obtain ⟨e1,e2⟩:=st_tn (T:=T) (c:=coL T) (h:=0) hw
    have e1:stA T (tW w) (coL T) 1=_:=e1
    have hb:=fw_b (T:=T) (w:=w) (c:=coL T) (h:=0) (Nat.zero_le _) (by omega) (fun hx=>hq hx.2)
    have hn2:=h0.1.n
    refine ⟨by omega,T,cbS T.nb (stA T (tW w) (coL T) 0),rfl,rfl,⟨hT,h0.1,by omega⟩,by omega,by omega,by omega,T,tnS T (cbS T.nb (stA T (tW w) (coL T) 0)),rfl,rfl,⟨hT,tn_ok hT h0.1 (by omega),by rw [tn_h,cb_h,hh]; omega,hc 0 (by omega),le0 0 (by omega)⟩,by omega,by omega,by omega,1,⟨by omega,by omega,hb⟩,by omega,by omega,by omega,?_⟩
    rw [e1]
    and_intros
    all_goals first | rfl | omega | exact fun i hi=>one_i e2 hi
 ·have e:fwA T w=T.nl:=by have:=fw_d (T:=T) (w:=w); omega
  have e0:T.nl=0:=by omega
  have e1:=fs_end (c:=coL T) e
  rw [e1,e,e0]
  and_intros
  all_goals first | rfl | omega
 ·have hI1:=hI.a
  have hI2:=hI.c
  have h0:=ho h hI2
  have hn:=h0.2.n
  refine ⟨by omega,hl,by omega,stA T (tW w) (coL T) h,rfl,⟨by omega,by omega,by omega⟩,by omega,by omega,hl,fun hw=>?_,fun hw=>?_⟩
  ·have hw:¬ w h=true:=hw
   obtain ⟨e1,e2⟩:=st_no (T:=T) (c:=coL T) (h:=h) hw
   have hb:=fw_b (T:=T) (w:=w) (c:=coL T) hI2 (by omega) (fun hx=>hw hx.1)
   refine ⟨by omega,by omega,by omega,T,cbS T.nb (stA T (tW w) (coL T) h),rfl,rfl,⟨hT,h0.1,by rw [cb_h,hh]; omega,hc h (by omega),le0 h (by omega)⟩,by omega,by omega,by omega,h+1,⟨by omega,by omega,hb⟩,by omega,by omega,by omega,?_⟩
   rw [e1]
   and_intros
   all_goals first | rfl | omega | exact next_i e2
  ·have hw:w h=true:=Classical.byContradiction hw
   refine ⟨by omega,fun hq=>?_,fun hq=>?_⟩
   ·have e:=fw_c (T:=T) (w:=w) (c:=coL T) hI2 ⟨hw,hq⟩
    have e1:=fs_brk (c:=coL T) e (by omega)
    rw [e1,e]
    and_intros
    all_goals first | rfl | omega | exact fun i hi=>rfl
   ·obtain ⟨e1,e2⟩:=st_tn (T:=T) (c:=coL T) (h:=h) hw
    have hb:=fw_b (T:=T) (w:=w) (c:=coL T) hI2 (by omega) (fun hx=>hq hx.2)
    have hn2:=h0.1.n
    refine ⟨by omega,T,cbS T.nb (stA T (tW w) (coL T) h),rfl,rfl,⟨hT,h0.1,by omega⟩,by omega,by omega,by omega,T,tnS T (cbS T.nb (stA T (tW w) (coL T) h)),rfl,rfl,⟨hT,tn_ok hT h0.1 (by omega),by rw [tn_h,cb_h,hh]; omega,hc h (by omega),le0 h (by omega)⟩,by omega,by omega,by omega,h+1,⟨by omega,by omega,hb⟩,by omega,by omega,by omega,?_⟩
    rw [e1]
    and_intros
    all_goals first | rfl | omega | exact next_i e2
 ·have hI1:=hI.b
  have hI2:=hI.c
  have hd:=fw_d (T:=T) (w:=w)
  have e0:h=T.nl:=by omega
  have e:fwA T w=T.nl:=by omega
  have e1:=fs_end (c:=coL T) e
  subst e0
  rw [e1,e]
  and_intros
  all_goals first | rfl | omega | exact fun i hi=>rfl
theorem fol1_true {T:Tn} (hT:okT T) (w:Nat→Bool) {z:Int} (hz:0≤z∧z≤10001):fol1G T w z:=by
 rw [fol1G_vc]
 have hnl:=hT.nl
 have hnb:=hT.nb
 have hc:∀ k,k<T.nl→0≤coH T z k:=fun k hk=>by
  have:=hT.ld k hk
  show 0≤min (T.hi k+z) 10000
  omega
 have le0:∀ k,k<T.nl→coH T z k≤10000:=fun k hk=>Int.min_le_right _ _
 have hz1:∀ k,k<T.nl→0≤T.hi k∧T.hi k≤10000∧0≤z∧z≤10001:=fun k hk=>by
  have:=hT.ld k hk
  omega
 have ho:∀ h,h≤fwA T w→okS T (cbS T.nb (stA T (tW w) (coH T z) h))∧okS T (stA T (tW w) (coH T z) h):=fun h hh=>at_ok hT hc hh
 have hh:∀ h,(stA T (tW w) (coH T z) h).h=h:=st_h
 simp only [sE,rI,rE,tt3,tt4,tt5,tt13,tt14,and_true,true_and,implies_true]
 refine ⟨by omega,T,⟨rfl,rfl,hnb.1,hnb.2⟩,by omega,⟨fun hl=>?_,fun hl=>?_⟩,fun h hI=>⟨fun hl=>?_,fun hl=>?_⟩⟩
 ·have h0:=ho 0 (Nat.zero_le _)
  have hn:=h0.2.n
  refine ⟨by omega,hl,by omega,stA T (tW w) (coH T z) 0,rfl,⟨by omega,by omega,by omega⟩,by omega,by omega,hl,fun hw=>?_,fun hw=>?_⟩
  ·have hw:¬ w 0=true:=hw
   obtain ⟨e1,e2⟩:=st_no (T:=T) (c:=coH T z) (h:=0) hw
   have e1:stA T (tW w) (coH T z) 1=_:=e1
   have hb:=fw_b (T:=T) (w:=w) (c:=coH T z) (h:=0) (Nat.zero_le _) (by omega) (fun hx=>hw hx.1)
   refine ⟨by omega,by omega,by omega,hz1 0 (by omega),T,cbS T.nb (stA T (tW w) (coH T z) 0),rfl,rfl,⟨hT,h0.1,by rw [cb_h,hh]; omega,hc 0 (by omega),?_⟩,by omega,by omega,by omega,1,⟨by omega,by omega,hb⟩,by omega,by omega,by omega,?_⟩
   ·exact le0 0 (by omega)
   ·rw [e1]
    and_intros
    all_goals first | rfl | omega | exact fun i hi=>one_i e2 hi
  ·have hw:w 0=true:=Classical.byContradiction hw
   refine ⟨by omega,fun hq=>?_,fun hq=>?_⟩
   ·have e:=fw_c (T:=T) (w:=w) (c:=coH T z) (h:=0) (Nat.zero_le _) ⟨hw,hq⟩
    have e1:=fs_brk (c:=coH T z) e (by omega)
    rw [e1,e]
    and_intros
    all_goals first | rfl | omega
   ·obtain ⟨e1,e2⟩:=st_tn (T:=T) (c:=coH T z) (h:=0) hw
    have e1:stA T (tW w) (coH T z) 1=_:=e1
    have hb:=fw_b (T:=T) (w:=w) (c:=coH T z) (h:=0) (Nat.zero_le _) (by omega) (fun hx=>hq hx.2)
    have hn2:=h0.1.n
    refine ⟨by omega,T,cbS T.nb (stA T (tW w) (coH T z) 0),rfl,rfl,⟨hT,h0.1,by omega⟩,by omega,by omega,by omega,hz1 0 (by omega),T,tnS T (cbS T.nb (stA T (tW w) (coH T z) 0)),rfl,rfl,⟨hT,tn_ok hT h0.1 (by omega),by rw [tn_h,cb_h,hh]; omega,hc 0 (by omega),le0 0 (by omega)⟩,by omega,by omega,by omega,1,⟨by omega,by omega,hb⟩,by omega,by omega,by omega,?_⟩
    rw [e1]
    and_intros
    all_goals first | rfl | omega | exact fun i hi=>one_i e2 hi
 ·have e:fwA T w=T.nl:=by have:=fw_d (T:=T) (w:=w); omega
  have e0:T.nl=0:=by omega
  have e1:=fs_end (c:=coH T z) e
  rw [e1,e,e0]
  and_intros
  all_goals first | rfl | omega
 ·have hI1:=hI.a
  have hI2:=hI.c
  have h0:=ho h hI2
  have hn:=h0.2.n
  refine ⟨by omega,hl,by omega,stA T (tW w) (coH T z) h,rfl,⟨by omega,by omega,by omega⟩,by omega,by omega,hl,fun hw=>?_,fun hw=>?_⟩
  ·have hw:¬ w h=true:=hw
   obtain ⟨e1,e2⟩:=st_no (T:=T) (c:=coH T z) (h:=h) hw
   have hb:=fw_b (T:=T) (w:=w) (c:=coH T z) hI2 (by omega) (fun hx=>hw hx.1)
   refine ⟨by omega,by omega,by omega,hz1 h (by omega),T,cbS T.nb (stA T (tW w) (coH T z) h),rfl,rfl,⟨hT,h0.1,by rw [cb_h,hh]; omega,hc h (by omega),le0 h (by omega)⟩,by omega,by omega,by omega,h+1,⟨by omega,by omega,hb⟩,by omega,by omega,by omega,?_⟩
   rw [e1]
   and_intros
   all_goals first | rfl | omega | exact next_i e2
  ·have hw:w h=true:=Classical.byContradiction hw
   refine ⟨by omega,fun hq=>?_,fun hq=>?_⟩
   ·have e:=fw_c (T:=T) (w:=w) (c:=coH T z) hI2 ⟨hw,hq⟩
    have e1:=fs_brk (c:=coH T z) e (by omega)
    rw [e1,e]
    and_intros
    all_goals first | rfl | omega | exact fun i hi=>rfl
   ·obtain ⟨e1,e2⟩:=st_tn (T:=T) (c:=coH T z) (h:=h) hw
    have hb:=fw_b (T:=T) (w:=w) (c:=coH T z) hI2 (by omega) (fun hx=>hq hx.2)
    have hn2:=h0.1.n
    refine ⟨by omega,T,cbS T.nb (stA T (tW w) (coH T z) h),rfl,rfl,⟨hT,h0.1,by omega⟩,by omega,by omega,by omega,hz1 h (by omega),T,tnS T (cbS T.nb (stA T (tW w) (coH T z) h)),rfl,rfl,⟨hT,tn_ok hT h0.1 (by omega),by rw [tn_h,cb_h,hh]; omega,hc h (by omega),le0 h (by omega)⟩,by omega,by omega,by omega,h+1,⟨by omega,by omega,hb⟩,by omega,by omega,by omega,?_⟩
    rw [e1]
    and_intros
    all_goals first | rfl | omega | exact next_i e2
 ·have hI1:=hI.b
  have hI2:=hI.c
  have hd:=fw_d (T:=T) (w:=w)
  have e0:h=T.nl:=by omega
  have e:fwA T w=T.nl:=by omega
  have e1:=fs_end (c:=coH T z) e
  subst e0
  rw [e1,e]
  and_intros
  all_goals first | rfl | omega | exact fun i hi=>rfl
end Go.Proofs.Ytpdcajchppoocaa

set_option maxRecDepth 100000
namespace Go.Proofs.Ytpdcajchppoocaa
open Go Go.Lg
attribute [local irreducible] bodyH
theorem c50_ok:c50C.Ok Try.prog:=by
 refine ⟨by kernel_rfl,fun args k hk=>?_⟩
 simp only [c50C] at hk
 split at hk
 ·rename_i a b
  have h:c50G a b:=by rw [c50G_vc]; exact ⟨by omega,rfl,trivial⟩
  exact ⟨_,Does.plain (funH_does nil_cs nil_x nil_ic mixed h) trivial,hk⟩
 ·exact hk.elim
theorem c61_ok:c61C.Ok Try.prog:=by
 refine ⟨by kernel_rfl,fun args k hk=>?_⟩
 simp only [c61C] at hk
 split at hk
 ·rename_i a b z
  obtain ⟨h1,hk⟩:=hk
  have h:c61G a b z:=by rw [c61G_vc]; exact ⟨by omega,by omega,rfl,trivial⟩
  exact ⟨_,Does.plain (funH_does nil_cs nil_x nil_ic mixed h) trivial,hk⟩
 ·exact hk.elim
theorem srt_ok:srtC.Ok Try.prog:=by
 refine ⟨by kernel_rfl,fun args k hk=>?_⟩
 simp only [srtC] at hk
 split at hk
 ·obtain ⟨T,⟨rfl,rfl,h1,h2⟩,hk⟩:=hk
  exact ⟨_,Does.plain (funH_does nil_cs nil_x nil_ic mixed (srt_true ⟨h1,h2⟩)) (sv_plain _),hk⟩
 ·exact hk.elim
theorem fol_cs:SoundS Try.prog folCS:=ctrs_sound (by
 intro x hx
 simp only [List.mem_cons,List.not_mem_nil,or_false] at hx
 rcases hx with rfl | rfl | rfl
 ·exact srt_ok
 ·exact c50_ok
 ·exact c61_ok)
theorem fol_x:SoundXH Try.prog noGhost γ0 folX:=ctrsP_sound nil_x (by
 intro x hx
 simp only [List.mem_cons,List.not_mem_nil,or_false] at hx
 rcases hx with rfl | rfl | rfl
 ·exact cbk_ok
 ·exact trn_ok
 ·exact pas_ok)
def lastS:SV→SV
 | .agg l=>l.getLastD .any
 | _=>.any
noncomputable def slpL (T:Tn) (w:Nat→Bool) (c:Nat→Int):SV:=.lst 1 (fwA T w) fun k=>b6 (slA T (tW w) c k)
noncomputable def folC:Ctr:=⟨38,fun args k=>match args with
 | [x]=>(match lastS x with
  | .val (.func (.func 50) _ _)=>∃ (T:Tn) (w:Nat→Bool),(x=crV T w clL∧okT T)∧k (.tup [(fsA T w (coL T)).sv,slpL T w (coL T)])
  | .clo (.func 61) [] [.ipt [.int .i64 z]]=>∃ (T:Tn) (w:Nat→Bool),(x=crV T w (clH z)∧okT T∧0≤z∧z≤10001)∧k (.tup [(fsA T w (coH T z)).sv,slpL T w (coH T z)])
  | _=>False)
 | _=>False⟩
theorem fol_ok:folC.OkF Try.prog:=by
 refine ⟨by kernel_rfl,fun args k hk=>?_⟩
 simp only [folC] at hk
 split at hk
 ·split at hk
  ·obtain ⟨T,w,⟨rfl,hT⟩,hk⟩:=hk
   exact ⟨_,funH_does fol_cs fol_x nil_ic mixed (fol0_true hT w),hk⟩
  ·obtain ⟨T,w,⟨rfl,hT,hz⟩,hk⟩:=hk
   exact ⟨_,funH_does fol_cs fol_x nil_ic mixed (fol1_true hT w hz),hk⟩
  ·exact hk.elim
 ·exact hk.elim
noncomputable def regH (nr:Nat) (ms:FS→XS→Ms) (t:FS) (X:XS) (D E:DS) (nb:Option Nat):HSpec :=
 { toLSpec:={ σ:=Unit,inv:=fun _=>True,μ:=fun _=>0,nr:=nr,ms:=ms,t:=fun _=>t,X:=fun _=>X,rd:=fun _ _ k=>k (),rdOK:=fun t X k h=>⟨(),h⟩ },D:=D,E:=E,nb:=nb }
noncomputable def rsdG (T:Tn) (w:Nat→Bool) (z:Int):Prop:=funH Try.prog (ctrs []) noX (ictrs []) noL noL 46 [tV T,twL T.nl w,b6 z] (crV T w (clH z))
noncomputable def rsdC:Ctr:=⟨46,fun args k=>match args with
 | [x,.lst 1 n f,.int .i64 z]=>∃ (T:Tn) (w:Nat→Bool),(x=tV T∧SV.lst 1 n f=twL T.nl w)∧k (crV T w (clH z))
 | _=>False⟩
noncomputable def endL (T:Tn) (w:Nat→Bool):Nat→Option HSpec:=oneL 1002 (regH 0 (fun _ _=>[some 1,some 2]) (mkF 13 [(4,.ptr 0 0 0),(5,.ptr 1 0 0)]) (mkX [vr 9 (crV T w clL),vr 9 (crV T w (clH 0))]) [(0,1),(1,0),(4,1),(5,2)] [] none)
noncomputable def endG (T:Tn) (w:Nat→Bool):Prop:=funH Try.prog (ctrsF [rsdC] (ctrs [])) noX (ictrs []) (endL T w) noL 37 [tV T,twL T.nl w] (.tup [crV T w clL,crV T w (clH 0)])
end Go.Proofs.Ytpdcajchppoocaa
