import Derived.Test.YtpdcajchppoocaaHcHdHeHeVHf
import Derived.Test.YtpdcajchppoocaaGaGaVGb
import Derived.Test.YtpdcajchppoocaaC8
import Derived.Test.YtpdcajchppoocaaC7
set_option linter.unusedVariables false
set_option linter.unusedSimpArgs false
set_option maxRecDepth 100000
namespace Go.Proofs.Ytpdcajchppoocaa
open Go Go.Lg
attribute [local irreducible] bodyH
def l3 (a b c:Int) (i:Nat):Int:=match i with
 | 0=>a
 | 1=>b
 | 2=>c
 | _=>0
def l6 (a b c d e f:Int) (i:Nat):Int:=match i with
 | 0=>a
 | 1=>b
 | 2=>c
 | 3=>d
 | 4=>e
 | 5=>f
 | _=>0
def smT (n:Nat):Tn:=⟨3,l3 10 12 8,l3 6 4 4,l3 0 2 0,2,1,2,3,20,n,l6 5 5 2 4 6 4,l6 6 6 3 6 6 4⟩
def w0:Nat→Bool:=fun _=>false
def w2:Nat→Bool:=fun h=>Nat.beq h 2
def sp6:SV:=.lst 2 6 fun k=>.agg [b6 (l6 0 0 0 0 0 0 k),b6 (l6 0 0 0 0 1 2 k)]
def bd3:SV:=.lst 5 3 fun k=>.agg [b6 (l3 1 2 0 k),b6 (l3 12 6 0 k),b6 (l3 12 8 3 k),b6 (l3 0 0 1 k),.bool false]
noncomputable def smG (n:Nat):Prop:=funH Try.prog (ctrs [spnC]) noX (ictrs []) noL noL 27 [b6 n] (tV (smT n))
def smC (n:Nat):Ctr:=⟨27,fun args k=>match args with
 | [.int .i64 m]=>m=n∧k (tV (smT n))
 | _=>False⟩
def smC2:Ctr:=⟨27,fun args k=>match args with
 | [.int .i64 m]=>∃ n:Nat,(m=n∧n≤6)∧k (tV (smT n))
 | _=>False⟩
def al15:Ctr:=⟨15,fun args k=>match args with
 | [x,y]=>(x=tV (smT 6)∧y.den=(twL 6 w0).den)∧k (.tup [sp6,b6 6,b6 0])
 | _=>False⟩
def al17:Ctr:=⟨17,fun args k=>match args with
 | [x,y]=>(x=tV (smT 6)∧y.den=(twL 6 w2).den)∧k (.tup [bd3,b6 0])
 | _=>False⟩
def al21:Ctr:=⟨21,fun args k=>match args with
 | [x]=>x=tV (smT 6)∧k (.tup [twL 6 w2,b6 3,b6 0])
 | _=>False⟩
def al25:Ctr:=⟨25,fun args k=>match args with
 | [x,y]=>(x=tV (smT 3)∧y.den=(twL 3 w0).den)∧k (.tup [b6 3,b6 0])
 | _=>False⟩
noncomputable def spsD:Ctr:=⟨19,fun args k=>match args with
 | [x,y]=>(∃ (n:Nat) (a b:Nat→Int),n≤1000000∧x.den=(SV.lst 2 n fun k=>.agg [b6 (a k),b6 (b k)]).den∧y.den=(SV.lst 2 n fun k=>.agg [b6 (a k),b6 (b k)]).den)∧k (.bool true)
 | _=>False⟩
noncomputable def sbsD:Ctr:=⟨20,fun args k=>match args with
 | [x,y]=>(∃ (n:Nat) (a b c d:Nat→Int) (o:Nat→Bool),n≤1000000∧x.den=(SV.lst 5 n (bdE a b c d o)).den∧y.den=(SV.lst 5 n (bdE a b c d o)).den)∧k (.bool true)
 | _=>False⟩
noncomputable def bosG (n:Nat) (a:Nat→Bool):Prop:=funH Try.prog (ctrs []) noX (ictrs []) (oneL 0 (natH (fun i=>i≤n) (fun i=>n - i) 0 (fun i=>mkF 26 [(0,twL n a),(1,twL n a),(5,b6 i)]) (fun _=>⟨0,.nil⟩) fun _=>none)) noL 23 [twL n a,twL n a] (.bool true)
noncomputable def bosC:Ctr:=⟨23,fun args k=>match args with
 | [x,y]=>(∃ (n:Nat) (a:Nat→Bool),n≤1000000∧x.den=(twL n a).den∧y.den=(twL n a).den)∧k (.bool true)
 | _=>False⟩
noncomputable def alCS:CSpec:=ctrsF [smC2] (ctrs [spnC,al15,al17,al21,al25,spsD,sbsD,bosC])
noncomputable def alG:Prop:=funH Try.prog alCS noX (ictrs []) noL noL 14 [] (.bool true)
end Go.Proofs.Ytpdcajchppoocaa

set_option maxRecDepth 100000
namespace Go.Proofs.Ytpdcajchppoocaa
open Go Go.Lg
theorem smG_vc (n:Nat):smG n =
(((∀ (i:Nat),rE true)∧(∀ (i:Nat),rE true)∧(∀ (i:Nat),rE true)∧(∀ (i:Nat),rE true)∧(∀ (i:Nat),rE true)∧True)∧((∀ (i:Nat),rE true)∧(∀ (i:Nat),rE true)∧True)∧(0:Int)≤(0:Int)∧(0:Int)≤(↑n:Int)∧(↑n:Int)≤(↑(6:Nat):Int)∧(0:Nat)<(1:Nat)∧rE (3:Nat)∧(∀ (i:Nat),i<(3:Nat)→(chainF [SV.agg [SV.int IntKind.i64 (10:Int),SV.int IntKind.i64 (6:Int),SV.int IntKind.i64 (0:Int)],SV.agg [SV.int IntKind.i64 (12:Int),SV.int IntKind.i64 (4:Int),SV.int IntKind.i64 (2:Int)],SV.agg [SV.int IntKind.i64 (8:Int),SV.int IntKind.i64 (4:Int),SV.int IntKind.i64 (0:Int)]] i).den=(bxV (smT n) i).den∧True∧True∧True∧True)∧rE (2:Int)∧rE (1:Int)∧rE (2:Int)∧rE (3:Int)∧rE (20:Int)∧((↑n:Int) - (0:Int)).toNat=n∧(∀ (i:Nat),i<n→(chainF [SV.agg [SV.int IntKind.i64 (5:Int),
SV.int IntKind.i64 (6:Int)],SV.agg [SV.int IntKind.i64 (5:Int),SV.int IntKind.i64 (6:Int)],SV.agg [SV.int IntKind.i64 (2:Int),SV.int IntKind.i64 (3:Int)],SV.agg [SV.int IntKind.i64 (4:Int),SV.int IntKind.i64 (6:Int)],SV.agg [SV.int IntKind.i64 (6:Int),SV.int IntKind.i64 (6:Int)],SV.agg [SV.int IntKind.i64 (4:Int),SV.int IntKind.i64 (4:Int)]] (Int.toNat (0:Int)+i)).den=(ldV (smT n) i).den∧True∧True∧True)∧True):=by kernel_rfl
theorem bosG_vc (n:Nat) (a:Nat→Bool):bosG n a =
((¬(↑n:Int)=(↑n:Int)→false=true∧True)∧(¬¬(↑n:Int)=(↑n:Int)→(∃ (z:Nat),z≤n∧n=n∧(∀ (i:Nat),i<n→rE ((SV.dec (a i=true) inferInstance).den)∧True)∧n=n∧(∀ (i:Nat),i<n→rE ((SV.dec (a i=true) inferInstance).den)∧True)∧(0:Int)=(↑z:Int)∧True)∧∀ (z:Nat),z≤n→((↑z:Int)<(↑n:Int)→(0:Int)≤(↑z:Int)∧(↑z:Int)<(↑n:Int)∧(0:Int)≤(↑z:Int)∧(↑z:Int)<(↑n:Int)∧(¬(a (↑z:Int).toNat=true↔a (↑z:Int).toNat=true)→false=true∧True)∧(¬¬(a (↑z:Int).toNat=true↔a (↑z:Int).toNat=true)→rI ((↑z:Int)+(1:Int))∧∃ (z_1:Nat),z_1≤n∧n - z_1<n - z∧n=n∧(∀ (i:Nat),i<n→rE ((SV.dec (a i=true) inferInstance).den)∧True)∧n=n∧(∀ (i:Nat),i<n→rE ((SV.dec (a i=true) inferInstance).den)∧True)∧(↑z:Int)+(1:Int)=(↑z_1:Int)∧True))∧(¬(↑z :
Int)<(↑n:Int)→rE true∧True))):=by kernel_rfl
end Go.Proofs.Ytpdcajchppoocaa

set_option maxRecDepth 100000
namespace Go.Proofs.Ytpdcajchppoocaa
open Go Go.Lg
local notation "Z0"=>(0:Int)
local notation "Z3"=>(3:Int)
local notation "Z6"=>(6:Int)
local notation "N6"=>(6:Nat)
theorem alG_vc :alG =(∃ (n:Nat),(Z6=(↑n:Int)∧n≤N6)∧((∀ (i:Nat),rE true)∧(∀ (i:Nat),rE true)∧(∀ (i:Nat),rE true)∧(∀ (i:Nat),rE true)∧(∀ (i:Nat),rE true)∧True)∧(0:Nat)<(1:Nat)∧Z0≤Z6∧Z6≤Z6∧Z6≤(1048576:Int)∧Z6*(↑(1:Nat):Int)≤(140737488355328:Int)∧(∀ (i:Nat),i<(3:Nat)→True∧True∧True∧True)∧(∀ (i_1:Nat),i_1<n→True∧True∧True)∧(0:Nat)+Int.toNat Z6≤N6∧(∀ (i:Nat),i<Int.toNat Z6→rE (1:Nat)∧True)∧(tV (smT n)=tV (smT N6)∧(SV.lst (rowsK (Try.prog.cellsOf (4:Nat)) (Int.toNat Z6) fun x=>ofS (Value.bool false)).sz (Int.toNat Z6) fun i=>(rowsK (Try.prog.cellsOf (4:Nat)) (Int.toNat Z6) fun x=>ofS (Value.bool false)).f (i+(0:Nat))).den=(twL N6 w0).den)∧(0:Nat)<(1:Nat)∧(∀ (i:Nat),i<(3:Nat)→True∧True∧True∧True)∧(∀ (i_1:Nat),i_1<n→True∧True∧True)∧(∀ (i:Nat),i<N6→True)∧(tV (smT n)=tV (smT N6)∧(SV.lst (Try.prog.cellsOf (4:Nat)) N6 (chainF [SV.bool false,SV.bool false,SV.bool true,SV.bool false,SV.bool false,SV.bool false])).den=(twL N6 w2).den)∧(0:Nat)<(1:Nat)∧(∀ (i:Nat),i<(3:Nat)→True∧True∧True∧True)∧(∀ (i_1:Nat),i_1<n→True∧True∧True)∧tV (smT n)=tV (smT N6)∧∃ (n:Nat),(Z3=(↑n:Int)∧n≤N6)∧Z0≤Z3∧Z3≤Z3∧Z3≤(1048576:Int)∧Z3*(↑(1:Nat):Int)≤(140737488355328:Int)∧(∀ (i:Nat),i<(3:Nat)→True∧True∧True∧True)∧(∀ (i_1:Nat),i_1<n→True∧True∧True)∧(0:Nat)+Int.toNat Z3≤(3:Nat)∧(∀ (i:Nat),i<Int.toNat Z3→rE (1:Nat)∧True)∧(tV (smT n)=tV (smT (3:Nat))∧(SV.lst (rowsK (Try.prog.cellsOf (4:Nat)) (Int.toNat Z3) fun x=>ofS (Value.bool false)).sz (Int.toNat Z3) fun i=>(rowsK (Try.prog.cellsOf (4:Nat)) (Int.toNat Z3) fun x=>ofS (Value.bool false)).f (i+(0:Nat))).den=(twL (3:Nat) w0).den)∧((∀ (i:Nat),rE true)∧(∀ (i:Nat),rE true)∧(∀ (i:Nat),rE true)∧(∀ (i:Nat),rE true)∧(∀ (i:Nat),rE true)∧True)∧(∀ (i:Nat),i<N6→True∧True∧True)∧(∀ (i:Nat),i<N6→True∧True∧True)∧(∃ (n:Nat) (a b:Nat→Int),n≤(1000000:Nat)∧(SV.lst (2:Nat) N6 fun k=>SV.agg [b6 (l6 Z0 Z0 Z0 Z0 Z0 Z0 k),b6 (l6 Z0 Z0 Z0 Z0 (1:Int) (2:Int) k)]).den=(SV.lst (2:Nat) n fun k=>SV.agg [b6 (a k),b6 (b k)]).den∧(SV.lst (Try.prog.cellsOf (59:Nat)) N6 (chainF [SV.agg [b6 Z0,b6 Z0],SV.agg [b6 Z0,b6 Z0],SV.agg [b6 Z0,b6 Z0],SV.agg [b6 Z0,b6 Z0],SV.agg [b6 Z0,b6 (1:Int)],SV.agg [b6 Z0,b6 (2:Int)]])).den=(SV.lst (2:Nat) n fun k=>SV.agg [b6 (a k),b6 (b k)]).den)∧(rE Z6→(rE Z0→((∀ (i:Nat),rE true)∧(∀ (i:Nat),rE true)∧True)∧(∀ (i:Nat),i<(3:Nat)→True∧True∧True∧True∧True∧True)∧(∀ (i:Nat),i<(3:Nat)→True∧True∧True∧True∧True∧True)∧(∃ (n:Nat) (a b c d:Nat→Int) (o:Nat→Bool),n≤(1000000:Nat)∧(SV.lst (5:Nat) (3:Nat) fun k=>SV.agg [b6 (l3 (1:Int) (2:Int) Z0 k),b6 (l3 (12:Int) Z6 Z0 k),b6 (l3 (12:Int) (8:Int) Z3 k),b6 (l3 Z0 Z0 (1:Int) k),SV.bool false]).den=(SV.lst (5:Nat) n (bdE a b c d o)).den∧(SV.lst (Try.prog.cellsOf (61:Nat)) (3:Nat) (chainF [SV.agg [b6 (1:Int),b6 (12:Int),b6 (12:Int),b6 Z0,SV.bool false],SV.agg [b6 (2:Int),b6 Z6,b6 (8:Int),b6 Z0,SV.bool false],SV.agg [b6 Z0,b6 Z0,b6 Z3,b6 (1:Int),SV.bool false]])).den=(SV.lst (5:Nat) n (bdE a b c d o)).den)∧(rE Z0→(∀ (i:Nat),i<N6→True)∧(∀ (i:Nat),i<N6→True)∧(∃ (n:Nat) (a:Nat→Bool),n≤(1000000:Nat)∧(SV.lst (1:Nat) N6 fun h=>SV.dec (w2 h=true) inferInstance).den=(twL n a).den∧(SV.lst (Try.prog.cellsOf (4:Nat)) N6 (chainF [SV.bool false,SV.bool false,SV.bool true,SV.bool false,SV.bool false,SV.bool false])).den=(twL n a).den)∧(rE Z3→(rE Z0→(rE Z3→(rE Z0↔true=true)∧True)∧(¬Z3=Z3→false=true∧True))∧(¬Z0=Z0→false=true∧True))∧(¬Z3=Z3→false=true∧True))∧(¬Z0=Z0→false=true∧True))∧(¬Z0=Z0→false=true∧True))∧(¬Z6=Z6→false=true∧True)):=by kernel_rfl
end Go.Proofs.Ytpdcajchppoocaa

set_option maxRecDepth 100000
namespace Go.Proofs.Ytpdcajchppoocaa
open Go Go.Lg
attribute [local irreducible] bodyH
def wtB (T:Tn) (w:Nat→Bool) (s:St) (h:Nat):St:=if w h=true then tnS T (cbS T.nb s) else cbS T.nb s
def stB (T:Tn) (w:Nat→Bool) (c:Nat→Int):Nat→St
 | 0=>beS T
 | h+1=>psS T (wtB T w (stB T w c h) h) (c h)
def slB (T:Tn) (w:Nat→Bool) (c:Nat→Int) (h:Nat):Int:=slS T (wtB T w (stB T w c h) h) (c h)
theorem wtB_eq (T:Tn) (w:Nat→Bool) (s:St) (h:Nat):wtS T (tW w) s h=wtB T w s h:=by
 unfold wtS wtB
 by_cases e:w h=true
 ·rw [if_pos (show tW w h from e),if_pos e]
 ·rw [if_neg (show ¬ tW w h from e),if_neg e]
theorem stB_eq (T:Tn) (w:Nat→Bool) (c:Nat→Int):∀ h,stA T (tW w) c h=stB T w c h
 | 0=>rfl
 | h+1=>by
  show psS T (wtS T (tW w) (stA T (tW w) c h) h) (c h)=_
  rw [stB_eq T w c h,wtB_eq]; rfl
theorem slB_eq (T:Tn) (w:Nat→Bool) (c:Nat→Int) (h:Nat):slA T (tW w) c h=slB T w c h:=by
 unfold slA slB
 rw [stB_eq,wtB_eq]
theorem fw_all {T:Tn} {w:Nat→Bool} (h:∀ k,k<T.nl→¬ (w k=true∧(cbS T.nb (stB T w (coL T) k)).n=1)):fwA T w=T.nl:=by
 have hd:=fw_d (T:=T) (w:=w)
 apply Classical.byContradiction
 intro hn
 have h1:=fwR_hit (p:=wrA T (tW w) (coL T)) T.nl 0 (by show fwA T w<_; omega)
 have h1:wrA T (tW w) (coL T) (fwA T w):=h1
 unfold wrA at h1
 rw [stB_eq] at h1
 exact h _ (by omega) h1
theorem bx6:∀ i,i<3→1≤(smT 6).rm i∧(smT 6).rm i≤10000∧1≤(smT 6).rt i∧(smT 6).rt i≤10000∧0≤(smT 6).fo i∧(smT 6).fo i≤(smT 6).rm i∧(smT 6).we*(smT 6).rv<(smT 6).rm i:=by decide
theorem ld6:∀ i,i<6→0≤(smT 6).lo i∧(smT 6).lo i≤(smT 6).hi i∧(smT 6).hi i≤10000:=by decide
theorem sm_ok {n:Nat} (hn:n≤6):okT (smT n) :=
 ⟨by show 1≤3∧3≤5; omega,by show (0:Int)≤1∧(1:Int)≤5; omega,by show (0:Int)≤2∧(2:Int)≤10000; omega,by show (1:Int)≤2∧(2:Int)≤24; omega,by show (0:Int)≤3∧(3:Int)≤1000; omega,by show (0:Int)≤20∧(20:Int)≤1000; omega,by show n≤16; omega,bx6,fun i hi=>ld6 i (Nat.lt_of_lt_of_le hi hn)⟩
theorem f60:fwA (smT 6) w0=6:=fw_all (T:=smT 6) (by show ∀ k,k<6→_; decide +kernel)
theorem f62:fwA (smT 6) w2=6:=fw_all (T:=smT 6) (by show ∀ k,k<6→_; decide +kernel)
theorem f30:fwA (smT 3) w0=3:=fw_all (T:=smT 3) (by show ∀ k,k<3→_; decide +kernel)
theorem sl60:∀ k,k<6→slB (smT 6) w0 (coL (smT 6)) k=l6 0 0 0 0 0 0 k∧slB (smT 6) w0 (coH (smT 6) 0) k=l6 0 0 0 0 1 2 k:=by decide +kernel
theorem st62:∀ k,k<3→(stB (smT 6) w2 (coL (smT 6)) 6).bx k=l3 1 2 0 k∧(stB (smT 6) w2 (coL (smT 6)) 6).fo k=l3 12 6 0 k∧(stB (smT 6) w2 (coH (smT 6) 0) 6).fo k=l3 12 8 3 k∧(stB (smT 6) w2 (coL (smT 6)) 6).rv k=l3 0 0 1 k∧¬ (stB (smT 6) w2 (coL (smT 6)) 6).n≤(k:Int):=by decide +kernel
theorem se6:(seP (smT 6)).c=true∧(seP (smT 6)).t=4∧(seP (smT 6)).k=3:=by
 show (plP (smT 6) 6 (beS (smT 6))).c=true∧(plP (smT 6) 6 (beS (smT 6))).t=4∧(plP (smT 6) 6 (beS (smT 6))).k=3
 decide +kernel
theorem cl3:(∀ z,z<4→∀ k,k<3→¬ 0<slB (smT 3) w0 (coH (smT 3) ((z:Nat):Int)) k)∧0<slB (smT 3) w0 (coH (smT 3) 4) 2:=by decide +kernel
theorem clp_iff {z:Int}:clP (smT 3) w0 z↔∀ k,k<3→¬ 0<slB (smT 3) w0 (coH (smT 3) z) k :=
 ⟨fun h k hk=>by have:=h.a k (by rw [f30]; exact hk); rwa [slB_eq] at this,fun h=>⟨fun k hk=>by rw [slB_eq]; exact h k (by rw [f30] at hk; exact hk)⟩⟩
theorem mg3:mgN (smT 3) w0=3:=by
 refine mg_is (by omega) (fun p hp=>clp_iff.2 ?_) (fun _ h=>?_)
 ·have:=cl3.1 (p+1) (by omega)
  rw [show (((p+1:Nat):Int))=(p:Int)+1 by omega] at this
  exact this
 ·exact clp_iff.1 h 2 (by omega) cl3.2
theorem sm_true {n:Nat} (hn:n≤6):smG n:=by
 rw [smG_vc]
 simp only [rI,rE,tt3,tt4,tt5,tt13,tt14,and_true,true_and,Nat.zero_lt_one,and_self,implies_true,Int.toNat_natCast,Classical.not_not,imp_false,and_imp,true_implies,forall_const]
 refine ⟨by omega,by omega,by omega,fun i hi=>?_,by omega,fun i hi=>?_⟩
 ·have:i=0∨i=1∨i=2:=by omega
  rcases this with rfl | rfl | rfl <;> rfl
 ·have:i=0∨i=1∨i=2∨i=3∨i=4∨i=5:=by omega
  rcases this with rfl | rfl | rfl | rfl | rfl | rfl <;> rfl
theorem bos_true {n:Nat} (hn:n≤1000000) (a:Nat→Bool):bosG n a:=by
 rw [bosG_vc]
 simp only [rI,rE,tt3,tt4,tt5,tt13,tt14,and_true,true_and,Nat.zero_lt_one,and_self,implies_true,Int.toNat_natCast,Classical.not_not,iff_self,Bool.false_eq_true,imp_false,and_imp,true_implies]
 exact ⟨⟨0,Nat.zero_le _,rfl⟩,fun z hz hl=>⟨by omega,hl,by omega,hl,by omega,z+1,by omega,by omega,by omega⟩⟩
end Go.Proofs.Ytpdcajchppoocaa

set_option maxRecDepth 100000
namespace Go.Proofs.Ytpdcajchppoocaa
open Go Go.Lg
attribute [local irreducible] bodyH
theorem lst_eq {s n:Nat} {f g:Nat→SV} (h:∀ i,i<n→(f i).den=(g i).den):(SV.lst s n f).den=(SV.lst s n g).den:=by
 simp only [SV.den]; congr 1
 exact List.map_congr_left fun i hi=>h i (by simpa using hi)
theorem denL2 {x y x' y':SV} (h1:x.den=x'.den) (h2:y.den=y'.den):SV.denL [x,y]=SV.denL [x',y']:=by simp only [SV.denL,h1,h2]
theorem dec_den {p:Prop} {i:Decidable p} {b:Bool} (h:p↔b=true):(SV.dec p i).den=(SV.bool b).den:=by
 simp only [SV.den]; congr 2; rw [Bool.eq_iff_iff]; exact Iff.trans (@decide_eq_true_iff _ i) h
theorem al15_ok:al15.Ok Try.prog:=by
 refine ⟨by kernel_rfl,fun args k hk=>?_⟩
 simp only [al15] at hk
 split at hk
 ·obtain ⟨⟨rfl,hy⟩,hk⟩:=hk
  rw [denL2 rfl hy]
  obtain ⟨res,h1,h2⟩:=ruC_ok.2 [tV (smT 6),twL 6 w0] (fun v=>v=.tup [ruV (smT 6) w0,b6 (smT 6).nl,b6 0]) ⟨smT 6,w0,⟨rfl,rfl,sm_ok (by omega),f60⟩,rfl⟩
  subst h2
  have e:(SV.tup [ruV (smT 6) w0,b6 (smT 6).nl,b6 0]).den=(SV.tup [sp6,b6 6,b6 0]).den:=by
   have:(ruV (smT 6) w0).den=sp6.den:=lst_eq (fun k hk=>by
    have:=sl60 k hk
    show (SV.agg [b6 (loA (smT 6) w0 k),b6 (hiA (smT 6) w0 k)]).den=_
    unfold loA hiA
    rw [slB_eq,slB_eq,this.1,this.2])
   simp only [SV.den,SV.denL,this]; rfl
  rw [e] at h1
  exact ⟨_,h1,hk⟩
 ·exact hk.elim
theorem al17_ok:al17.Ok Try.prog:=by
 refine ⟨by kernel_rfl,fun args k hk=>?_⟩
 simp only [al17] at hk
 split at hk
 ·obtain ⟨⟨rfl,hy⟩,hk⟩:=hk
  rw [denL2 rfl hy]
  obtain ⟨res,h1,h2⟩:=bdC_ok.2 [tV (smT 6),twL 6 w2] (fun v=>v=.tup [bdV (smT 6) (fsA (smT 6) w2 (coL (smT 6))) (fsA (smT 6) w2 (coH (smT 6) 0)),b6 0]) ⟨smT 6,w2,⟨rfl,rfl,sm_ok (by omega),f62⟩,rfl⟩
  subst h2
  have e:(SV.tup [bdV (smT 6) (fsA (smT 6) w2 (coL (smT 6))) (fsA (smT 6) w2 (coH (smT 6) 0)),b6 0]).den=(SV.tup [bd3,b6 0]).den:=by
   have:(bdV (smT 6) (fsA (smT 6) w2 (coL (smT 6))) (fsA (smT 6) w2 (coH (smT 6) 0))).den=bd3.den:=lst_eq (fun k hk=>by
    obtain ⟨a1,a2,a3,a4,a5⟩:=st62 k hk
    rw [fs_end f62,fs_end f62,show (smT 6).nl=6 from rfl,stB_eq,stB_eq,a1,a2,a3,a4]
    have:(SV.dec ((stB (smT 6) w2 (coL (smT 6)) 6).n≤(k:Int)) inferInstance).den=(SV.bool false).den:=dec_den ⟨fun h=>(a5 h).elim,fun h=>nomatch h⟩
    simp only [SV.den,SV.denL] at this ⊢
    rw [this])
   simp only [SV.den,SV.denL,this]
  rw [e] at h1
  exact ⟨_,h1,hk⟩
 ·exact hk.elim
theorem al21_ok:al21.Ok Try.prog:=by
 refine ⟨by kernel_rfl,fun args k hk=>?_⟩
 simp only [al21] at hk
 split at hk
 ·obtain ⟨rfl,hk⟩:=hk
  obtain ⟨res,h1,h2⟩:=btC_ok.2 [tV (smT 6)] (fun v=>v=.tup [btV (smT 6),b6 (seP (smT 6)).k,b6 0]) ⟨smT 6,⟨rfl,sm_ok (by omega),se6.1⟩,rfl⟩
  subst h2
  have e:(SV.tup [btV (smT 6),b6 (seP (smT 6)).k,b6 0]).den=(SV.tup [twL 6 w2,b6 3,b6 0]).den:=by
   have:(btV (smT 6)).den=(twL 6 w2).den:=lst_eq (fun k hk=>by
    have h6:k=0∨k=1∨k=2∨k=3∨k=4∨k=5:=by have:k<6:=hk; omega
    have hb:btB (seP (smT 6)) k=w2 k:=by
     unfold btB
     rw [se6.2.1]
     rcases h6 with rfl | rfl | rfl | rfl | rfl | rfl <;> rfl
    show (SV.dec (btB (seP (smT 6)) k=true) inferInstance).den=_
    rw [hb])
   simp only [SV.den,SV.denL,this,se6.2.2]
  rw [e] at h1
  exact ⟨_,h1,hk⟩
 ·exact hk.elim
theorem al25_ok:al25.Ok Try.prog:=by
 refine ⟨by kernel_rfl,fun args k hk=>?_⟩
 simp only [al25] at hk
 split at hk
 ·obtain ⟨⟨rfl,hy⟩,hk⟩:=hk
  rw [denL2 rfl hy]
  obtain ⟨res,h1,h2⟩:=mrg_ok.2 [tV (smT 3),twL 3 w0] (fun v=>v=.tup [b6 (mrN (smT 3) 3 w0),b6 (mrE (smT 3) 3 w0)]) ⟨smT 3,w0,⟨rfl,rfl⟩,rfl⟩
  subst h2
  have hc:chE (smT 3) 3 w0=0:=(ch_good (w:=w0) (sm_ok (n:=3) (by omega)) rfl (by rw [f30]; exact Nat.lt_irrefl 3)).2
  have h0:clP (smT 3) w0 0:=clp_iff.2 (cl3.1 0 (by omega))
  have e1:mrN (smT 3) 3 w0=3:=by unfold mrN; rw [if_pos hc,if_pos h0,mg3]; rfl
  have e2:mrE (smT 3) 3 w0=0:=by unfold mrE; rw [if_pos hc,if_pos h0]
  rw [e1,e2] at h1
  exact ⟨_,h1,hk⟩
 ·exact hk.elim
theorem smC_ok:smC2.OkF Try.prog:=by
 refine ⟨by kernel_rfl,fun args k hk=>?_⟩
 simp only [smC2] at hk
 split at hk
 ·obtain ⟨n,⟨rfl,hn⟩,hk⟩:=hk
  have hcs:SoundS Try.prog (ctrs [spnC]):=ctrs_sound (by intro x hx; simp at hx; subst hx; exact spn_ok)
  exact ⟨_,funH_does hcs nil_x nil_ic mixed (sm_true hn),hk⟩
 ·exact hk.elim
theorem spsD_ok:spsD.Ok Try.prog:=by
 refine ⟨by kernel_rfl,fun args k hk=>?_⟩
 simp only [spsD] at hk
 split at hk
 ·obtain ⟨⟨n,a,b,hn,h1,h2⟩,hk⟩:=hk
  rw [denL2 h1 h2]
  exact ⟨_,Does.plain (funH_does nil_cs nil_x nil_ic mixed (sps_true hn a b)) trivial,hk⟩
 ·exact hk.elim
theorem sbsD_ok:sbsD.Ok Try.prog:=by
 refine ⟨by kernel_rfl,fun args k hk=>?_⟩
 simp only [sbsD] at hk
 split at hk
 ·obtain ⟨⟨n,a,b,c,d,o,hn,h1,h2⟩,hk⟩:=hk
  rw [denL2 h1 h2]
  exact ⟨_,Does.plain (funH_does nil_cs nil_x nil_ic mixed (sbs_true hn a b c d o)) trivial,hk⟩
 ·exact hk.elim
theorem bosC_ok:bosC.Ok Try.prog:=by
 refine ⟨by kernel_rfl,fun args k hk=>?_⟩
 simp only [bosC] at hk
 split at hk
 ·obtain ⟨⟨n,a,hn,h1,h2⟩,hk⟩:=hk
  rw [denL2 h1 h2]
  exact ⟨_,Does.plain (funH_does nil_cs nil_x nil_ic mixed (bos_true hn a)) trivial,hk⟩
 ·exact hk.elim
theorem al_cs:SoundS Try.prog alCS:=ctrsF_sound (ctrs_sound (by
 intro x hx
 simp only [List.mem_cons,List.not_mem_nil,or_false] at hx
 rcases hx with rfl | rfl | rfl | rfl | rfl | rfl | rfl | rfl
 ·exact spn_ok
 ·exact al15_ok
 ·exact al17_ok
 ·exact al21_ok
 ·exact al25_ok
 ·exact spsD_ok
 ·exact sbsD_ok
 ·exact bosC_ok)) (by intro x hx; simp at hx; subst hx; exact smC_ok)
theorem al_true:alG:=by
 rw [alG_vc]
 simp only [rI,rE,tt3,tt4,tt5,tt13,tt14,rI,rE,tt3,tt4,tt5,tt13,tt14,and_true,true_and,Nat.zero_lt_one,and_self,implies_true,Int.toNat_natCast,Nat.zero_add,Nat.add_zero,Nat.one_mul,Nat.mul_one,Classical.not_not,iff_self,Bool.false_eq_true,imp_false,and_imp,true_implies,forall_const,not_true_eq_false,not_false_eq_true]
 refine ⟨6,⟨rfl,by omega⟩,by omega,by omega,by omega,by omega,by decide,⟨rfl,?_⟩,⟨rfl,?_⟩,rfl,3,⟨rfl,by omega⟩,by omega,by omega,by omega,by omega,by decide,⟨rfl,?_⟩,⟨6,l6 0 0 0 0 0 0,l6 0 0 0 0 1 2,by omega,rfl,?_⟩,⟨3,l3 1 2 0,l3 12 6 0,l3 12 8 3,l3 0 0 1,fun _=>false,by omega,?_,?_⟩,⟨6,w2,by omega,rfl,?_⟩⟩
 all_goals rfl
theorem alv_ok:alvC.Ok Try.prog:=by
 refine ⟨by kernel_rfl,fun args k hk=>?_⟩
 simp only [alvC] at hk
 split at hk
 ·have t:=al_true
  unfold alG at t
  exact ⟨.bool true,Does.plain (funH_does al_cs nil_x nil_ic mixed t) trivial,hk⟩
 ·exact hk.elim
end Go.Proofs.Ytpdcajchppoocaa
