import Derived.Test.YtpdcajchppoocaaC8
import Derived.Test.YtpdcajchppoocaaXfV1
set_option linter.unusedVariables false
set_option linter.unusedSimpArgs false
set_option maxRecDepth 100000
namespace Go.Proofs.Ytpdcajchppoocaa
open Go Go.Lg
attribute [local irreducible] bodyH
noncomputable def bnE (T:Tn):Int:=open Classical in if okT T then 12 else 1
noncomputable def bnC:Ctr:=⟨21,fun args k=>match args with
 | [x]=>∃ T:Tn,(x=tV T∧¬ (okT T∧(seP T).c=true))∧k (.tup [nlS,b6 0,b6 (bnE T)])
 | _=>False⟩
noncomputable def spwC:Ctr:=⟨19,fun args k=>match args with
 | [.val (.slice none 0 0),.lst 2 m g]=>m=0∧k (.bool true)
 | [x,y]=>(∃ (n:Nat) (a b:Nat→Int),n≤1000000∧x.den=(SV.lst 2 n fun k=>.agg [b6 (a k),b6 (b k)]).den∧y.den=(SV.lst 2 n fun k=>.agg [b6 (a k),b6 (b k)]).den)∧k (.bool true)
 | _=>False⟩
noncomputable def spwG (g:Nat→SV):Prop:=funH Try.prog (ctrs []) noX (ictrs []) (oneL 0 (unrH 1)) noL 19 [nlS,.lst 2 0 g] (.bool true)
def eR:Option SRow:=rw' 2 0 fun _=>.agg [b6 0,b6 0]
noncomputable def owXF (T:Tn) (w:Nat→Bool) (L H:St):CX:=inl Try.prog oCS none (ictrs []) 17 (oneL 0 (ow17 T L H 6 (l4 T T.nl w ++ [sjR T w T.nl,slR T w]))) noL noX
noncomputable def owXC (T:Tn) (w:Nat→Bool) (L H:St):CX:=inl Try.prog oCS none (ictrs []) 15 (oneL 0 (ow15 T w 4 (l4 T T.nl w))) noL (owXF T w L H)
noncomputable def owXD (T:Tn) (w:Nat→Bool) (L H:St):CX:=inl Try.prog oCS none (ictrs []) 15 (oneL 0 (ow15 T w 6 (l4 T T.nl w ++ [slR T w,bjR T L H T.nb]))) noL (owXF T w L H)
noncomputable def owF (T:Tn) (w:Nat→Bool) (L H:St):Prop:=funH Try.prog (ctrs [grC,alvC,spsD,bosC,bnC,mrgC 25]) (byX 4 (owXC T w L H) (owXD T w L H)) (ictrs []) (twoL 1003 (ow3 T T.nl w) (twoL 0 (ow0 T w) (twoL 2 (ow2 T w L H) (twoL 4 (unrH 1) (oneL 6 (ow6 T w)))))) noL 12 [tV T,twL T.nl w] (.bool true)
noncomputable def ob0 (T:Tn) (n:Nat) (w:Nat→Bool) (e:Int):HSpec:=oH 0 4 (ms1 11) (fun j=>oF T n w 0 e [(8,nlS),(11,.sl 4 0 0),(54,b6 0),(55,b6 j)]) fun j=>mkX (l4 T n w ++ [eR])
noncomputable def ob4 (T:Tn) (n:Nat) (w:Nat→Bool) (e:Int):HSpec:=oH T.nl 4 (ms2 11 16) (fun j=>oF T n w 0 e [(11,.sl 4 0 0),(16,.sl 5 0 T.nl),(86,b6 T.nl),(87,b6 j)]) fun j=>mkX (l4 T n w ++ [eR,cjR T j])
noncomputable def ob6 (T:Tn) (n:Nat) (w:Nat→Bool) (e:Int):HSpec:=oH T.nb 4 (ms1 11) (fun j=>oF T n w 0 e [(11,.sl 4 0 0),(20,nlS),(22,b6 e),(110,b6 T.nb),(111,b6 j)]) fun j=>mkX (l4 T n w ++ [eR])
noncomputable def owB (T:Tn) (n:Nat) (w:Nat→Bool) (e:Int):Prop:=funH Try.prog (ctrs [grC,alvC,ruD,bdD,spwC,bosC,mrgC 25]) (inl Try.prog oCS none (ictrs []) 21 (oneL 0 (ow21 T 5 (l4 T n w ++ [eR]))) noL noX) (ictrs []) (twoL 1003 (ow3 T n w) (twoL 0 (ob0 T n w e) (twoL 2 (unrH 1) (twoL 4 (ob4 T n w e) (oneL 6 (ob6 T n w e)))))) noL 12 [tV T,twL n w] (.bool true)
noncomputable def owD (T:Tn) (n:Nat) (w:Nat→Bool) (e:Int):Prop:=funH Try.prog (ctrs [grC,alvC,ruD,bdD,spwC,bosC,bnC,mrgC 25]) noX (ictrs []) (twoL 1003 (ow3 T n w) (twoL 0 (ob0 T n w e) (twoL 2 (unrH 1) (twoL 4 (unrH 1) (oneL 6 (ob6 T n w e)))))) noL 12 [tV T,twL n w] (.bool true)
end Go.Proofs.Ytpdcajchppoocaa

set_option maxRecDepth 100000
namespace Go.Proofs.Ytpdcajchppoocaa
open Go Go.Lg
def owD3 (T:Tn):Prop:=(∀ (i:Nat),i<T.1→rE (3:Nat)∧(if i<(0:Nat) then (0:Int) else T.2 (i - (0:Nat)))=T.2 i∧(if i<(0:Nat) then (0:Int) else T.3 (i - (0:Nat)))=T.3 i∧(if i<(0:Nat) then (0:Int) else T.4 (i - (0:Nat)))=T.4 i∧True)
def owD4 (T:Tn):Prop:=(∀ (i:Nat),i<T.10→rE (2:Nat)∧(if i<(0:Nat) then (0:Int) else T.11 (i - (0:Nat)))=T.11 i∧(if i<(0:Nat) then (0:Int) else T.12 (i - (0:Nat)))=T.12 i∧True)
def owD5 (T:Tn):Prop:=(∀ (i:Nat),i<T.1→rE ((bxV T i).den)∧True∧True∧True∧True)
def owD6 (T:Tn):Prop:=(∀ (i:Nat),i<T.10→rE ((ldV T i).den)∧True∧True∧True)
def owD7 (n:Nat) (w:Nat→Bool):Prop:=(∀ (i:Nat),i<n→rE ((SV.dec (w i=true) inferInstance).den)∧True)
def owD0 (T:Tn) (n:Nat) (w:Nat→Bool):Prop:=(True∧True∧(True∧True∧(∀ (i:Nat),i<T.1→rE true)∧rE (0:Nat)∧rE (0:Nat)∧(∀ (i:Nat),rE true)∧((0:Nat)+T.1)*(24:Nat)≤(140737488355328:Nat)∧(0:Nat)+T.1≤(4611686018427387904:Nat)∧True∧True∧(∀ (i:Nat),i<T.10→rE true)∧rE (0:Nat)∧rE (0:Nat)∧(∀ (i:Nat),rE true)∧((0:Nat)+T.10)*(16:Nat)≤(140737488355328:Nat)∧(0:Nat)+T.10≤(4611686018427387904:Nat)∧True∧True∧(∀ (i:Nat),i<n→rE true)∧rE (0:Nat)∧rE (0:Nat)∧(∀ (i:Nat),rE true)∧((0:Nat)+n)*(1:Nat)≤(140737488355328:Nat)∧(0:Nat)+n≤(4611686018427387904:Nat)∧True∧True∧True∧True∧True∧True∧True∧n=n∧(owD7 n w)∧rE (0:Nat)∧rE (0:Nat)∧rE (0:Nat)∧(0:Nat)+T.1=T.1∧rE (0:Nat)∧(0:Nat)+T.10=T.10∧rE (0:Nat)∧(0:Nat)+n=n∧T.1=T.1∧(owD5 T)∧T.5=T.5∧T.6=T.6∧T.7=T.7∧T.8=T.8∧T.9=T.9∧rE T.10∧(owD6 T)∧T.1=(0:Nat)+T.1∧(owD3 T)∧T.10=(0:Nat)+T.10∧(owD4 T)∧n=(0:Nat)+n∧(∀ (i:Nat),i<n→rE (1:Nat)∧(i<(0:Nat)∧false=true∨¬i<(0:Nat)∧w (i - (0:Nat))=true↔w i=true)∧True)∧True)∧True)
def owD1 (T:Tn) (n:Nat) (w:Nat→Bool):Prop:=(True∧True∧True∧True∧(∀ (i:Nat),i<T.10→rE true)∧rE (0:Nat)∧rE (0:Nat)∧(∀ (i:Nat),rE true)∧((0:Nat)+T.10)*(16:Nat)≤(140737488355328:Nat)∧(0:Nat)+T.10≤(4611686018427387904:Nat)∧True∧True∧(∀ (i:Nat),i<n→rE true)∧rE (0:Nat)∧rE (0:Nat)∧(∀ (i:Nat),rE true)∧((0:Nat)+n)*(1:Nat)≤(140737488355328:Nat)∧(0:Nat)+n≤(4611686018427387904:Nat)∧True∧True∧True∧True∧True∧True∧True∧n=n∧(owD7 n w)∧rE (0:Nat)∧rE (0:Nat)∧rE (0:Nat)∧(0:Nat)+T.1=T.1∧rE (0:Nat)∧(0:Nat)+T.10=T.10∧rE (0:Nat)∧(0:Nat)+n=n∧T.1=T.1∧(owD5 T)∧T.5=T.5∧T.6=T.6∧T.7=T.7∧T.8=T.8∧T.9=T.9∧rE T.10∧(owD6 T)∧T.1=(0:Nat)+T.1∧(owD3 T)∧T.10=(0:Nat)+T.10∧(owD4 T)∧n=(0:Nat)+n∧(∀ (i:Nat),i<n→rE (1:Nat)∧(i<(0:Nat)∧false=true∨¬i<(0:Nat)∧w (i - (0:Nat))=true↔w i=true)∧True)∧True)
def owD2 (T:Tn) (n:Nat) (w:Nat→Bool):Prop:=(True∧True∧(∀ (i:Nat),i<T.10→rE true)∧rE (0:Nat)∧rE (0:Nat)∧(∀ (i:Nat),rE true)∧((0:Nat)+T.10)*(16:Nat)≤(140737488355328:Nat)∧(0:Nat)+T.10≤(4611686018427387904:Nat)∧True∧True∧True∧True∧(∀ (i:Nat),i<n→rE true)∧rE (0:Nat)∧rE (0:Nat)∧(∀ (i:Nat),rE true)∧((0:Nat)+n)*(1:Nat)≤(140737488355328:Nat)∧(0:Nat)+n≤(4611686018427387904:Nat)∧True∧True∧True∧True∧True∧True∧True∧n=n∧(owD7 n w)∧rE (0:Nat)∧rE (0:Nat)∧rE (0:Nat)∧(0:Nat)+T.1=T.1∧rE (0:Nat)∧(0:Nat)+T.10=T.10∧rE (0:Nat)∧(0:Nat)+n=n∧T.1=T.1∧(owD5 T)∧T.5=T.5∧T.6=T.6∧T.7=T.7∧T.8=T.8∧T.9=T.9∧rE T.10∧(owD6 T)∧T.1=(0:Nat)+T.1∧(owD3 T)∧T.10=(0:Nat)+T.10∧(owD4 T)∧n=(0:Nat)+n∧(∀ (i:Nat),i<n→rE (1:Nat)∧(i<(0:Nat)∧false=true∨¬i<(0:Nat)∧w (i - (0:Nat))=true↔w i=true)∧True)∧True)
theorem owD_vc (T:Tn) (n:Nat) (w:Nat→Bool) (e:Int):owD T n w e=((0:Nat)<(1:Nat)∧(∀ (i:Nat),i<T.1→True∧True∧True∧True)∧(∀ (i:Nat),i<T.10→True∧True∧True)∧∃ T_1,tV T=tV T_1∧((16:Int)<(↑T_1.nl:Int)∧T_1.nl≤(16:Nat)∨(24:Nat)<T_1.nl∨(9:Nat)<T_1.nb→rE true∧True)∧(¬((16:Int)<(↑T_1.nl:Int)∧T_1.nl≤(16:Nat)∨(24:Nat)<T_1.nl∨(9:Nat)<T_1.nb)→((30:Int)<(↑n:Int)→rE true∧True)∧(¬(30:Int)<(↑n:Int)→(True∧True∧True∧True∧(0:Nat)<(1:Nat)∧True∧True∧True∧True∧(0:Nat)<(1:Nat)∧True∧True∧(True∧True∧(True∧True∧(∀ (i:Nat),i<T.1→rE true)∧rE (0:Nat)∧rE (0:Nat)∧(∀ (i:Nat),rE true)∧((0:Nat)+T.1)*(24:Nat)≤(140737488355328:Nat)∧(0:Nat)+T.1≤(4611686018427387904:Nat)∧(True∧True∧(owD2 T n w)∧(owD1 T n w)∧True)∧(True∧True∧(owD1 T n w)∧True)∧True)∧(True∧True ∧
(True∧True∧(∀ (i:Nat),i<T.1→rE true)∧rE (0:Nat)∧rE (0:Nat)∧(∀ (i:Nat),rE true)∧((0:Nat)+T.1)*(24:Nat)≤(140737488355328:Nat)∧(0:Nat)+T.1≤(4611686018427387904:Nat)∧(owD2 T n w)∧(owD1 T n w)∧True)∧(owD0 T n w)∧True)∧(True∧True∧(True∧True∧(∀ (i:Nat),i<T.1→rE true)∧rE (0:Nat)∧rE (0:Nat)∧(∀ (i:Nat),rE true)∧((0:Nat)+T.1)*(24:Nat)≤(140737488355328:Nat)∧(0:Nat)+T.1≤(4611686018427387904:Nat)∧(owD1 T n w)∧True)∧(owD0 T n w)∧True)∧True)∧(True∧True∧(True∧True∧(True∧True∧(∀ (i:Nat),i<T.1→rE true)∧rE (0:Nat)∧rE (0:Nat)∧(∀ (i:Nat),rE true)∧((0:Nat)+T.1)*(24:Nat)≤(140737488355328:Nat)∧(0:Nat)+T.1≤(4611686018427387904:Nat)∧(owD2 T n w)∧(owD1 T n w)∧True)∧(owD0 T n w)∧True)∧(True∧True∧(owD0 T n w)∧True) ∧
True)∧(True∧True∧(True∧True∧(True∧True∧(∀ (i:Nat),i<T.1→rE true)∧rE (0:Nat)∧rE (0:Nat)∧(∀ (i:Nat),rE true)∧((0:Nat)+T.1)*(24:Nat)≤(140737488355328:Nat)∧(0:Nat)+T.1≤(4611686018427387904:Nat)∧(owD1 T n w)∧True)∧(owD0 T n w)∧True)∧(True∧True∧(owD0 T n w)∧True)∧True)∧True)∧∀ (zp4_0:Unit),True→(0:Nat)<(1:Nat)∧(∀ (i:Nat),i<T.1→True∧True∧True∧True)∧(∀ (i:Nat),i<T.10→True∧True∧True)∧(∀ (i:Nat),i<n→True)∧∃ T_2 w_1,(tV T=tV T_2∧(twL n w)=twL n w_1∧(chE T_2 n w_1=(0:Int)→False))∧(∀ (i:Nat),i<(0:Nat)→false=true)∧rE (0:Nat)∧rE (0:Nat)∧rE (0:Nat)∧(0:Nat)*(16:Nat)≤(140737488355328:Nat)∧(0:Nat)≤(4611686018427387904:Nat)∧(∃ (z:Nat),z≤(0:Nat)∧n=n∧(owD7 n w)∧rE (0:Nat)∧rE (0:Nat)∧rE (0:Nat) ∧
T.1=T.1∧rE (0:Nat)∧rE T.10∧rE (0:Nat)∧n=n∧rE (Value.slice none (0:Nat) (0:Nat))∧chE T_2 n w_1=e∧rE (0:Nat)∧rE (0:Nat)∧(↑(0:Nat):Int)=(0:Int)∧(0:Int)=(↑z:Int)∧T.1=T.1∧(owD5 T)∧T.5=T.5∧T.6=T.6∧T.7=T.7∧T.8=T.8∧T.9=T.9∧rE T.10∧(owD6 T)∧T.1=T.1∧(∀ (i:Nat),i<T.1→rE (3:Nat)∧rE (T.2 i)∧rE (T.3 i)∧rE (T.4 i)∧True)∧rE T.10∧(∀ (i:Nat),i<T.10→rE (2:Nat)∧rE (T.11 i)∧rE (T.12 i)∧True)∧n=n∧(∀ (i:Nat),i<n→rE (1:Nat)∧(w i=true↔w i=true)∧True)∧rE (0:Nat)∧(∀ (i:Nat),i<(0:Nat)→(2:Nat)=(1:Nat)∧False)∧True)∧∀ (z:Nat),z≤(0:Nat)→((↑z:Int)<(0:Int)→False)∧(¬(↑z:Int)<(0:Int)→(0:Nat)<(1:Nat)∧(∀ (i:Nat),i<T.1→True∧True∧True∧True)∧(∀ (i:Nat),i<T.10→True∧True∧True)∧(∀ (i:Nat),i <
n→True)∧∃ T_3 w_2,(tV T=tV T_3∧(twL n w)=twL n w_2∧(chE T_3 n w_2=(0:Int)→False))∧((0:Int)<(↑(0:Nat):Int)→False)∧(¬(0:Int)<(↑(0:Nat):Int)→(0:Nat)<(1:Nat)∧(∀ (i:Nat),i<T.1→True∧True∧True∧True)∧(∀ (i:Nat),i<T.10→True∧True∧True)∧∃ T_4,(tV T=tV T_4∧¬(okT T_4∧(seP T_4).1=true))∧((0:Int)<(↑(0:Nat):Int)→False)∧(¬(0:Int)<(↑(0:Nat):Int)→(0:Nat)<(1:Nat)∧(∀ (i:Nat),i<T.1→True∧True∧True∧True)∧(∀ (i:Nat),i<T.10→True∧True∧True)∧(∀ (i:Nat),i<n→True)∧∃ T_5 w_3,(tV T=tV T_5∧(twL n w)=twL n w_3)∧(0:Nat)<(1:Nat)∧(∀ (i:Nat),i<T.1→True∧True∧True∧True)∧(∀ (i:Nat),i<T.10→True∧True∧True)∧(∀ (i:Nat),i<n→True)∧∃ T_6 w_4,(tV T=tV T_6∧(twL n w)=twL n w_4∧(chE T_6 n w_4=(0:Int)→False))∧(∃ (z
: Nat),z≤T.1∧n=n∧(owD7 n w)∧rE (0:Nat)∧rE (0:Nat)∧rE (0:Nat)∧T.1=T.1∧rE (0:Nat)∧rE T.10∧rE (0:Nat)∧n=n∧e=e∧rE (0:Nat)∧rE (0:Nat)∧rE (Value.slice none (0:Nat) (0:Nat))∧chE T_6 n w_4=e∧rE (↑T.1:Int)∧(0:Int)=(↑z:Int)∧T.1=T.1∧(owD5 T)∧T.5=T.5∧T.6=T.6∧T.7=T.7∧T.8=T.8∧T.9=T.9∧rE T.10∧(owD6 T)∧T.1=T.1∧(∀ (i:Nat),i<T.1→rE (3:Nat)∧rE (T.2 i)∧rE (T.3 i)∧rE (T.4 i)∧True)∧rE T.10∧(∀ (i:Nat),i<T.10→rE (2:Nat)∧rE (T.11 i)∧rE (T.12 i)∧True)∧n=n∧(∀ (i:Nat),i<n→rE (1:Nat)∧(w i=true↔w i=true)∧True)∧rE (0:Nat)∧(∀ (i:Nat),i<(0:Nat)→rE (2:Nat)∧rE (0:Int)∧rE (0:Int)∧True)∧True)∧∀ (z:Nat),z≤T.1→((↑z:Int)<(↑T.1:Int)→(0:Int)≤(↑z:Int)∧(↑z:Int)<(↑T.1:Int)∧(0:Nat)+(↑z:Int).toNat <
T.1∧(0:Nat)<(1:Nat)∧(0:Int)≤(↑z:Int)∧(↑z:Int)<(↑T.1:Int)∧(¬(T.2 ((0:Nat)+(↑z:Int).toNat)=T.2 (↑z:Int).toNat∧T.3 ((0:Nat)+(↑z:Int).toNat)=T.3 (↑z:Int).toNat∧T.4 ((0:Nat)+(↑z:Int).toNat)=T.4 (↑z:Int).toNat∧True)→false=true∧True)∧(¬¬(T.2 ((0:Nat)+(↑z:Int).toNat)=T.2 (↑z:Int).toNat∧T.3 ((0:Nat)+(↑z:Int).toNat)=T.3 (↑z:Int).toNat∧T.4 ((0:Nat)+(↑z:Int).toNat)=T.4 (↑z:Int).toNat∧True)→rI ((↑z:Int)+(1:Int))∧∃ (z_1:Nat),z_1≤T.1∧T.1 - z_1<T.1 - z∧n=n∧(owD7 n w)∧rE (0:Nat)∧rE (0:Nat)∧rE (0:Nat)∧T.1=T.1∧rE (0:Nat)∧rE T.10∧rE (0:Nat)∧n=n∧e=e∧rE (0:Nat)∧rE (0:Nat)∧rE (Value.slice none (0:Nat) (0:Nat))∧e=e∧rE (↑T.1:Int)∧(↑z:Int)+(1:Int)=(↑z_1:Int)∧T.1=T.1∧(owD5 T)∧T.5=T.5∧T.6=T.6∧T.7=T.7
∧ T.8=T.8∧T.9=T.9∧rE T.10∧(owD6 T)∧T.1=T.1∧(∀ (i:Nat),i<T.1→rE (3:Nat)∧rE (T.2 i)∧rE (T.3 i)∧rE (T.4 i)∧True)∧rE T.10∧(∀ (i:Nat),i<T.10→rE (2:Nat)∧rE (T.11 i)∧rE (T.12 i)∧True)∧n=n∧(∀ (i:Nat),i<n→rE (1:Nat)∧(w i=true↔w i=true)∧True)∧rE (0:Nat)∧(∀ (i:Nat),i<(0:Nat)→rE (2:Nat)∧rE (0:Int)∧rE (0:Int)∧True)∧True))∧(¬(↑z:Int)<(↑T.1:Int)→(0:Nat)<(1:Nat)∧(0:Nat)+T.10≤T.10∧(∀ (i:Nat),i<T.10→rE (2:Nat)∧True∧True∧True)∧(∀ (i:Nat),i<T.10→True∧True∧True)∧(∃ (n:Nat) (a b:Nat→Int),n≤(1000000:Nat)∧(SV.lst (2:Nat) T.nl fun i=>ldV T (i+(0:Nat))).den=(SV.lst (2:Nat) n fun k=>SV.agg [b6 (a k),b6 (b k)]).den∧(SV.lst (2:Nat) T.nl (ldV T)).den=(SV.lst (2:Nat) n fun k=>SV.agg [b6 (a k),b6 (b k)]).den)∧(0:Nat)
+ n≤n∧(∀ (i:Nat),i<n→rE (1:Nat)∧True)∧(∀ (i:Nat),i<n→True)∧(∃ n_1 a,n_1≤(1000000:Nat)∧(SV.lst (1:Nat) n fun i=>SV.dec (w (i+(0:Nat))=true) inferInstance).den=(twL n_1 a).den∧(twL n w).den=(twL n_1 a).den)∧(0:Nat)+(0:Nat)≤(0:Nat)∧(∀ (i:Nat),i<(0:Nat)→rE (2:Nat)∧True∧True∧True)∧rE (0:Nat)∧(e=e→rE true∧True)∧(¬e=e→false=true∧True)))))))):=by kernel_rfl
theorem spwG_vc (g:Nat→SV):spwG g=((¬(↑(0:Nat):Int)=(↑(0:Nat):Int)→false=true∧True)∧(¬¬(↑(0:Nat):Int)=(↑(0:Nat):Int)→((0:Int)<(↑(0:Nat):Int)→False)∧(¬(0:Int)<(↑(0:Nat):Int)→true=true∧True))):=by kernel_rfl
end Go.Proofs.Ytpdcajchppoocaa

set_option maxRecDepth 100000
namespace Go.Proofs.Ytpdcajchppoocaa
open Go Go.Lg
attribute [local irreducible] bodyH
theorem byX_sound {Γ:Ghost} {γ:GS→Γ.S} {N:Nat} {A B:CX} (hA:SoundXH Try.prog Γ γ A) (hB:SoundXH Try.prog Γ γ B):SoundXH Try.prog Γ γ (byX N A B):=by
 intro g h hh args X q k hX hk
 unfold byX at hh
 split at hh
 ·cases hh
 ·rename_i a ha
  split at hh
  ·cases hh
  ·rename_i b hb
   cases hh
   split at hk
   ·exact hA g a ha args X q k hX hk
   ·exact hB g b hb args X q k hX hk
theorem spw_true (g:Nat→SV):spwG g:=by
 rw [spwG_vc]
 simp only [rI,rE,tt3,tt4,tt5,tt13,tt14,rI,rE,tt3,tt4,tt5,tt13,tt14,and_true,true_and,Nat.zero_lt_one,and_self,implies_true,Int.toNat_natCast,Nat.zero_add,Nat.add_zero,Nat.one_mul,Nat.mul_one,Classical.not_not,iff_self,Bool.false_eq_true,imp_false,and_imp,true_implies,forall_const]
 omega
theorem owD_true {T:Tn} {n:Nat} {w:Nat→Bool} (h:chE T n w≠0) (hb:¬ (okT T∧(seP T).c=true)):owD T n w (chE T n w):=by
 rw [owD_vc]
 simp only [owD0,owD1,owD2,owD3,owD4,owD5,owD6,owD7,rI,rE,tt3,tt4,tt5,tt13,tt14,rI,rE,tt3,tt4,tt5,tt13,tt14,and_true,true_and,Nat.zero_lt_one,and_self,implies_true,Int.toNat_natCast,Nat.zero_add,Nat.add_zero,Nat.one_mul,Nat.mul_one,Classical.not_not,iff_self,Bool.false_eq_true,imp_false,and_imp,true_implies,forall_const,Nat.not_lt_zero,if_false,Nat.sub_zero,false_and,false_or,not_false_eq_true]
 refine ⟨T,rfl,fun g1 g2=>⟨by omega,T,w,⟨rfl,rfl,h⟩,by omega,by omega,⟨0,by omega,rfl,rfl,rfl,fun f=>f.elim⟩,fun z hz=>⟨by omega,fun _=>⟨T,w,⟨rfl,rfl,h⟩,by omega,fun _=>⟨T,⟨rfl,hb⟩,by omega,fun _=>⟨T,w,⟨rfl,rfl⟩,T,w,⟨rfl,rfl,h⟩,⟨0,by omega,rfl,rfl⟩,fun z hz=>⟨fun hlt=>⟨by omega,hlt,by omega,by omega,hlt,by omega,z+1,by omega,by omega,by omega⟩,fun hlt=>⟨Nat.le_refl _,⟨T.nl,T.lo,T.hi,by omega,rfl⟩,Nat.le_refl _,⟨n,w,by omega,by first | exact rfl | exact ⟨rfl,rfl⟩⟩,by omega⟩⟩⟩⟩⟩⟩⟩⟩
end Go.Proofs.Ytpdcajchppoocaa

set_option maxRecDepth 100000
namespace Go.Proofs.Ytpdcajchppoocaa
open Go Go.Lg
def owB3 (T:Tn):Prop:=(∀ (i:Nat),i<T.1→rE ((bxV T i).den)∧True∧True∧True∧True)
def owB4 (T:Tn):Prop:=(∀ (i:Nat),i<T.10→rE ((ldV T i).den)∧True∧True∧True)
def owB6 (T:Tn):Prop:=(∀ (i:Nat),i<T.1→rE (3:Nat)∧(if i<(0:Nat) then (0:Int) else T.2 (i - (0:Nat)))=T.2 i∧(if i<(0:Nat) then (0:Int) else T.3 (i - (0:Nat)))=T.3 i∧(if i<(0:Nat) then (0:Int) else T.4 (i - (0:Nat)))=T.4 i∧True)
def owB7 (n:Nat) (w:Nat→Bool):Prop:=(∀ (i:Nat),i<n→rE ((SV.dec (w i=true) inferInstance).den)∧True)
def owB11 (T:Tn):Prop:=(∀ (i:Nat),i<T.10→rE (2:Nat)∧(if i<(0:Nat) then (0:Int) else T.11 (i - (0:Nat)))=T.11 i∧(if i<(0:Nat) then (0:Int) else T.12 (i - (0:Nat)))=T.12 i∧True)
def owB0 (T:Tn) (n:Nat) (w:Nat→Bool):Prop:=(True∧True∧(True∧True∧(∀ (i:Nat),i<T.1→rE true)∧rE (0:Nat)∧rE (0:Nat)∧(∀ (i:Nat),rE true)∧((0:Nat)+T.1)*(24:Nat)≤(140737488355328:Nat)∧(0:Nat)+T.1≤(4611686018427387904:Nat)∧True∧True∧(∀ (i:Nat),i<T.10→rE true)∧rE (0:Nat)∧rE (0:Nat)∧(∀ (i:Nat),rE true)∧((0:Nat)+T.10)*(16:Nat)≤(140737488355328:Nat)∧(0:Nat)+T.10≤(4611686018427387904:Nat)∧True∧True∧(∀ (i:Nat),i<n→rE true)∧rE (0:Nat)∧rE (0:Nat)∧(∀ (i:Nat),rE true)∧((0:Nat)+n)*(1:Nat)≤(140737488355328:Nat)∧(0:Nat)+n≤(4611686018427387904:Nat)∧True∧True∧True∧True∧True∧True∧True∧n=n∧(owB7 n w)∧rE (0:Nat)∧rE (0:Nat)∧rE (0:Nat)∧(0:Nat)+T.1=T.1∧rE (0:Nat)∧(0:Nat)+T.10=T.10∧rE (0:Nat)∧(0:Nat)+n=n∧T.1=T.1∧(owB3 T)∧T.5=T.5∧T.6=T.6∧T.7=T.7∧T.8=T.8∧T.9=T.9∧rE T.10∧(owB4 T)∧T.1=(0:Nat)+T.1∧(owB6 T)∧T.10=(0:Nat)+T.10∧(owB11 T)∧n=(0:Nat)+n∧(∀ (i:Nat),i<n→rE (1:Nat)∧(i<(0:Nat)∧false=true∨¬i<(0:Nat)∧w (i - (0:Nat))=true↔w i=true)∧True)∧True)∧True)
def owB1 (T:Tn) (n:Nat) (w:Nat→Bool):Prop:=(True∧True∧True∧True∧(∀ (i:Nat),i<T.10→rE true)∧rE (0:Nat)∧rE (0:Nat)∧(∀ (i:Nat),rE true)∧((0:Nat)+T.10)*(16:Nat)≤(140737488355328:Nat)∧(0:Nat)+T.10≤(4611686018427387904:Nat)∧True∧True∧(∀ (i:Nat),i<n→rE true)∧rE (0:Nat)∧rE (0:Nat)∧(∀ (i:Nat),rE true)∧((0:Nat)+n)*(1:Nat)≤(140737488355328:Nat)∧(0:Nat)+n≤(4611686018427387904:Nat)∧True∧True∧True∧True∧True∧True∧True∧n=n∧(owB7 n w)∧rE (0:Nat)∧rE (0:Nat)∧rE (0:Nat)∧(0:Nat)+T.1=T.1∧rE (0:Nat)∧(0:Nat)+T.10=T.10∧rE (0:Nat)∧(0:Nat)+n=n∧T.1=T.1∧(owB3 T)∧T.5=T.5∧T.6=T.6∧T.7=T.7∧T.8=T.8∧T.9=T.9∧rE T.10∧(owB4 T)∧T.1=(0:Nat)+T.1∧(owB6 T)∧T.10=(0:Nat)+T.10∧(owB11 T)∧n=(0:Nat)+n∧(∀ (i:Nat),i<n→rE (1:Nat)∧(i<(0:Nat)∧false=true∨¬i<(0:Nat)∧w (i - (0:Nat))=true↔w i=true)∧True)∧True)
def owB2 (T:Tn) (n:Nat) (w:Nat→Bool):Prop:=(True∧True∧(∀ (i:Nat),i<T.10→rE true)∧rE (0:Nat)∧rE (0:Nat)∧(∀ (i:Nat),rE true)∧((0:Nat)+T.10)*(16:Nat)≤(140737488355328:Nat)∧(0:Nat)+T.10≤(4611686018427387904:Nat)∧True∧True∧True∧True∧(∀ (i:Nat),i<n→rE true)∧rE (0:Nat)∧rE (0:Nat)∧(∀ (i:Nat),rE true)∧((0:Nat)+n)*(1:Nat)≤(140737488355328:Nat)∧(0:Nat)+n≤(4611686018427387904:Nat)∧True∧True∧True∧True∧True∧True∧True∧n=n∧(owB7 n w)∧rE (0:Nat)∧rE (0:Nat)∧rE (0:Nat)∧(0:Nat)+T.1=T.1∧rE (0:Nat)∧(0:Nat)+T.10=T.10∧rE (0:Nat)∧(0:Nat)+n=n∧T.1=T.1∧(owB3 T)∧T.5=T.5∧T.6=T.6∧T.7=T.7∧T.8=T.8∧T.9=T.9∧rE T.10∧(owB4 T)∧T.1=(0:Nat)+T.1∧(owB6 T)∧T.10=(0:Nat)+T.10∧(owB11 T)∧n=(0:Nat)+n∧(∀ (i:Nat),i<n→rE (1:Nat)∧(i<(0:Nat)∧false=true∨¬i<(0:Nat)∧w (i - (0:Nat))=true↔w i=true)∧True)∧True)
def owB5 (T:Tn):Prop:=(∀ (i:Nat),i<T.1→rE (3:Nat)∧rE (T.2 i)∧rE (T.3 i)∧rE (T.4 i)∧True)
def owB8 (T:Tn):Prop:=(∀ (i:Nat),i<T.10→rE (2:Nat)∧rE (T.11 i)∧rE (T.12 i)∧True)
def owB9:Prop:=(∀ (i:Nat),i<(0:Nat)→rE (2:Nat)∧rE (0:Int)∧rE (0:Int)∧True)
def owB10 (n:Nat) (w:Nat→Bool):Prop:=(∀ (i:Nat),i<n→rE (1:Nat)∧(w i=true↔w i=true)∧True)
theorem owB_vc (T:Tn) (n:Nat) (w:Nat→Bool) (e:Int):owB T n w e=((0:Nat)<(1:Nat)∧(∀ (i:Nat),i<T.1→True∧True∧True∧True)∧(∀ (i:Nat),i<T.10→True∧True∧True)∧∃ T_1,tV T=tV T_1∧((16:Int)<(↑T_1.nl:Int)∧T_1.nl≤(16:Nat)∨(24:Nat)<T_1.nl∨(9:Nat)<T_1.nb→rE true∧True)∧(¬((16:Int)<(↑T_1.nl:Int)∧T_1.nl≤(16:Nat)∨(24:Nat)<T_1.nl∨(9:Nat)<T_1.nb)→((30:Int)<(↑n:Int)→rE true∧True)∧(¬(30:Int)<(↑n:Int)→(True∧True∧True∧True∧(0:Nat)<(1:Nat)∧True∧True∧True∧True∧(0:Nat)<(1:Nat)∧True∧True∧(True∧True∧(True∧True∧(∀ (i:Nat),i<T.1→rE true)∧rE (0:Nat)∧rE (0:Nat)∧(∀ (i:Nat),rE true)∧((0:Nat)+T.1)*(24:Nat)≤(140737488355328:Nat)∧(0:Nat)+T.1≤(4611686018427387904:Nat)∧(True∧True∧(owB2 T n w)∧(owB1 T n w)∧True)∧(True∧True∧(owB1 T n w)∧True)∧True)∧(True∧True ∧
(True∧True∧(∀ (i:Nat),i<T.1→rE true)∧rE (0:Nat)∧rE (0:Nat)∧(∀ (i:Nat),rE true)∧((0:Nat)+T.1)*(24:Nat)≤(140737488355328:Nat)∧(0:Nat)+T.1≤(4611686018427387904:Nat)∧(owB2 T n w)∧(owB1 T n w)∧True)∧(owB0 T n w)∧True)∧(True∧True∧(True∧True∧(∀ (i:Nat),i<T.1→rE true)∧rE (0:Nat)∧rE (0:Nat)∧(∀ (i:Nat),rE true)∧((0:Nat)+T.1)*(24:Nat)≤(140737488355328:Nat)∧(0:Nat)+T.1≤(4611686018427387904:Nat)∧(owB1 T n w)∧True)∧(owB0 T n w)∧True)∧True)∧(True∧True∧(True∧True∧(True∧True∧(∀ (i:Nat),i<T.1→rE true)∧rE (0:Nat)∧rE (0:Nat)∧(∀ (i:Nat),rE true)∧((0:Nat)+T.1)*(24:Nat)≤(140737488355328:Nat)∧(0:Nat)+T.1≤(4611686018427387904:Nat)∧(owB2 T n w)∧(owB1 T n w)∧True)∧(owB0 T n w)∧True)∧(True∧True∧(owB0 T n w)∧True) ∧
True)∧(True∧True∧(True∧True∧(True∧True∧(∀ (i:Nat),i<T.1→rE true)∧rE (0:Nat)∧rE (0:Nat)∧(∀ (i:Nat),rE true)∧((0:Nat)+T.1)*(24:Nat)≤(140737488355328:Nat)∧(0:Nat)+T.1≤(4611686018427387904:Nat)∧(owB1 T n w)∧True)∧(owB0 T n w)∧True)∧(True∧True∧(owB0 T n w)∧True)∧True)∧True)∧∀ (zp4_0:Unit),True→(0:Nat)<(1:Nat)∧(∀ (i:Nat),i<T.1→True∧True∧True∧True)∧(∀ (i:Nat),i<T.10→True∧True∧True)∧(∀ (i:Nat),i<n→True)∧∃ T_2 w_1,(tV T=tV T_2∧(twL n w)=twL n w_1∧(chE T_2 n w_1=(0:Int)→False))∧(∀ (i:Nat),i<(0:Nat)→false=true)∧rE (0:Nat)∧rE (0:Nat)∧rE (0:Nat)∧(0:Nat)*(16:Nat)≤(140737488355328:Nat)∧(0:Nat)≤(4611686018427387904:Nat)∧(∃ (z:Nat),z≤(0:Nat)∧n=n∧(owB7 n w)∧rE (0:Nat)∧rE (0:Nat)∧rE (0:Nat) ∧
T.1=T.1∧rE (0:Nat)∧rE T.10∧rE (0:Nat)∧n=n∧rE (Value.slice none (0:Nat) (0:Nat))∧chE T_2 n w_1=e∧rE (0:Nat)∧rE (0:Nat)∧(↑(0:Nat):Int)=(0:Int)∧(0:Int)=(↑z:Int)∧T.1=T.1∧(owB3 T)∧T.5=T.5∧T.6=T.6∧T.7=T.7∧T.8=T.8∧T.9=T.9∧rE T.10∧(owB4 T)∧T.1=T.1∧(owB5 T)∧rE T.10∧(owB8 T)∧n=n∧(owB10 n w)∧rE (0:Nat)∧(∀ (i:Nat),i<(0:Nat)→(2:Nat)=(1:Nat)∧False)∧True)∧∀ (z:Nat),z≤(0:Nat)→((↑z:Int)<(0:Int)→False)∧(¬(↑z:Int)<(0:Int)→(0:Nat)<(1:Nat)∧(∀ (i:Nat),i<T.1→True∧True∧True∧True)∧(∀ (i:Nat),i<T.10→True∧True∧True)∧(∀ (i:Nat),i<n→True)∧∃ T_3 w_2,(tV T=tV T_3∧(twL n w)=twL n w_2∧(chE T_3 n w_2=(0:Int)→False))∧((0:Int)<(↑(0:Nat):Int)→False)∧(¬(0:Int)<(↑(0:Nat):Int)→(0:Nat)<(1 :
Nat)∧(0:Nat)<(1:Nat)∧(∀ (i:Nat),i<T.1→True∧True∧True∧True)∧(∀ (i:Nat),i<T.10→True∧True∧True)∧∃ T_4,(tV T=tV T_4∧(okT T_4↔true=true))∧(0:Nat)<(1:Nat)∧(∀ (i:Nat),i<T.1→True∧True∧True∧True)∧(∀ (i:Nat),i<T.10→True∧True∧True)∧∃ T_5,(tV T=tV T_5∧okT T_5∧(seP T_5).1=true)∧(0:Nat)<(1:Nat)∧(0:Nat)<(1:Nat)∧(0:Int)≤(↑T.10:Int)∧(↑T.10:Int)≤(↑T.10:Int)∧(↑T.10:Int)≤(1048576:Int)∧(↑T.10:Int)*(↑(1:Nat):Int)≤(140737488355328:Int)∧(∃ (z:Nat),z≤T.10∧rE (0:Nat)∧(↑T.10:Int).toNat=T.10∧rE (0:Nat)∧rE (0:Nat)∧(↑(↑T.10:Int).toNat:Int)=(↑T.10:Int)∧(0:Int)=(↑z:Int)∧T.1=T.1∧(owB3 T)∧T.5=T.5∧T.6=T.6∧T.7=T.7∧T.8=T.8∧T.9=T.9∧rE T.10∧(owB4 T)∧T.1=T.1∧(owB5 T)∧rE T.10∧(owB8 T)∧n=n ∧
(owB10 n w)∧rE (0:Nat)∧(owB9)∧T.1=T.1∧(owB3 T)∧T.5=T.5∧T.6=T.6∧T.7=T.7∧T.8=T.8∧T.9=T.9∧rE T.10∧(owB4 T)∧rE true∧(↑(seP T_5).2:Int)=(↑(seP T).2:Int)∧(seP T_5).3=(seP T).3∧T.10=(↑T.10:Int).toNat∧(∀ (i_1:Nat),i_1<T.10→rE (1:Nat)∧(false=true↔i_1<z∧btB (seP T) i_1=true)∧True)∧True)∧∀ (z:Nat),z≤T.10→((↑z:Int)<(↑T.10:Int)→(0:Nat)<(1:Nat)∧((0:Int)≤(↑z:Int)∧(↑z:Int)≤(↑(64:Nat):Int))∧(0:Int)≤(↑z:Int)∧(↑z:Int)<(↑T.10:Int)∧(0:Nat)+(1:Nat)≤(1:Nat)∧(0:Nat)+(↑z:Int).toNat<T.10∧(∀ (i':Nat),rE true)∧rI ((↑z:Int)+(1:Int))∧∃ (z_1:Nat),z_1≤T.10∧T.10 - z_1<T.10 - z∧rE (0:Nat)∧rE T.10∧rE (0:Nat)∧rE (0:Nat)∧rE (↑T.10:Int)∧(↑z:Int)+(1:Int)=(↑z_1:Int)∧T.1=T.1∧(owB3 T)∧T.5=T.5∧T.6=T.6 ∧
T.7=T.7∧T.8=T.8∧T.9=T.9∧rE T.10∧(owB4 T)∧T.1=T.1∧(owB5 T)∧rE T.10∧(owB8 T)∧n=n∧(owB10 n w)∧rE (0:Nat)∧(owB9)∧T.1=T.1∧(owB3 T)∧T.5=T.5∧T.6=T.6∧T.7=T.7∧T.8=T.8∧T.9=T.9∧rE T.10∧(owB4 T)∧rE true∧rE (↑(seP T).2:Int)∧rE ((seP T).3)∧rE T.10∧(∀ (i_2:Nat),i_2<T.10→rE (1:Nat)∧(i_2=(0:Nat)+(↑z:Int).toNat∧bitA IntKind.i64 ((↑(seP T).t:Int).fdiv (shP (↑z:Int))) (1:Int)=(1:Int)∨¬i_2=(0:Nat)+(↑z:Int).toNat∧i_2<z∧btB (seP T) i_2=true↔i_2<z_1∧btB (seP T) i_2=true)∧True)∧True)∧(¬(↑z:Int)<(↑T.10:Int)→(0:Nat)<(1:Nat)∧(∃ (z_1:Nat),z_1≤T.10∧n=n∧(owB7 n w)∧rE (0:Nat)∧rE (0:Nat)∧rE (0:Nat)∧T.1=T.1∧rE (0:Nat)∧rE T.10∧rE (0:Nat)∧n=n∧e=e∧rE (0:Nat)∧rE (0:Nat)∧rE (0:Nat)∧rE T.10∧rE (↑T.10:Int)∧(0
: Int)=(↑z_1:Int)∧T.1=T.1∧(owB3 T)∧T.5=T.5∧T.6=T.6∧T.7=T.7∧T.8=T.8∧T.9=T.9∧rE T.10∧(owB4 T)∧T.1=T.1∧(owB5 T)∧rE T.10∧(owB8 T)∧n=n∧(owB10 n w)∧rE (0:Nat)∧(owB9)∧rE T.10∧(∀ (i_2:Nat),i_2<T.10→rE (1:Nat)∧(i_2<z∧btB (seP T) i_2=true↔cjP T z_1 i_2)∧True)∧True)∧∀ (z:Nat),z≤T.10→((↑z:Int)<(↑T.10:Int)→(0:Int)≤(↑z:Int)∧(↑z:Int)<(↑T.10:Int)∧(0:Nat)+(↑z:Int).toNat<T.10∧(0:Int)≤(↑z:Int)∧(↑z:Int)<(↑T.10:Int)∧(0:Nat)+(1:Nat)≤(1:Nat)∧(0:Nat)+(↑z:Int).toNat<T.10∧(∀ (i':Nat),rE true)∧rI ((↑z:Int)+(1:Int))∧∃ (z_1:Nat),z_1≤T.10∧T.10 - z_1<T.10 - z∧n=n∧(owB7 n w)∧rE (0:Nat)∧rE (0:Nat)∧rE (0:Nat)∧T.1=T.1∧rE (0:Nat)∧rE T.10∧rE (0:Nat)∧n=n∧e=e∧rE (0:Nat)∧rE (0:Nat)∧rE (0:Nat)
∧ rE T.10∧rE (↑T.10:Int)∧(↑z:Int)+(1:Int)=(↑z_1:Int)∧T.1=T.1∧(owB3 T)∧T.5=T.5∧T.6=T.6∧T.7=T.7∧T.8=T.8∧T.9=T.9∧rE T.10∧(owB4 T)∧T.1=T.1∧(owB5 T)∧rE T.10∧(owB8 T)∧n=n∧(owB10 n w)∧rE (0:Nat)∧(owB9)∧rE T.10∧(∀ (i_2:Nat),i_2<T.10→rE (1:Nat)∧(i_2=(0:Nat)+(↑z:Int).toNat∧¬cjP T z ((0:Nat)+(↑z:Int).toNat)∨¬i_2=(0:Nat)+(↑z:Int).toNat∧cjP T z i_2↔cjP T z_1 i_2)∧True)∧True)∧(¬(↑z:Int)<(↑T.10:Int)→(0:Nat)<(1:Nat)∧(∀ (i:Nat),i<T.1→True∧True∧True∧True)∧(∀ (i:Nat),i<T.10→True∧True∧True)∧(∀ (i:Nat),i<n→True)∧∃ T_6 w_3,(tV T=tV T_6∧(twL n w)=twL n w_3)∧(0:Nat)<(1:Nat)∧(∀ (i:Nat),i<T.1→True∧True∧True∧True)∧(∀ (i:Nat),i<T.10→True∧True∧True)∧(∀ (i:Nat),i<n→True)∧∃ T_7 w_4,(tV T=tV
T_7∧(twL n w)=twL n w_4∧(chE T_7 n w_4=(0:Int)→False))∧(∃ (z:Nat),z≤T.1∧n=n∧(owB7 n w)∧rE (0:Nat)∧rE (0:Nat)∧rE (0:Nat)∧T.1=T.1∧rE (0:Nat)∧rE T.10∧rE (0:Nat)∧n=n∧e=e∧rE (0:Nat)∧rE (0:Nat)∧rE (Value.slice none (0:Nat) (0:Nat))∧chE T_7 n w_4=e∧rE (↑T.1:Int)∧(0:Int)=(↑z:Int)∧T.1=T.1∧(owB3 T)∧T.5=T.5∧T.6=T.6∧T.7=T.7∧T.8=T.8∧T.9=T.9∧rE T.10∧(owB4 T)∧T.1=T.1∧(owB5 T)∧rE T.10∧(owB8 T)∧n=n∧(owB10 n w)∧rE (0:Nat)∧(owB9)∧True)∧∀ (z:Nat),z≤T.1→((↑z:Int)<(↑T.1:Int)→(0:Int)≤(↑z:Int)∧(↑z:Int)<(↑T.1:Int)∧(0:Nat)+(↑z:Int).toNat<T.1∧(0:Nat)<(1:Nat)∧(0:Int)≤(↑z:Int)∧(↑z:Int)<(↑T.1:Int)∧(¬(T.2 ((0:Nat)+(↑z:Int).toNat)=T.2 (↑z:Int).toNat∧T.3 ((0:Nat)+(↑z:Int).toNat)=T.3 (↑z :
Int).toNat∧T.4 ((0:Nat)+(↑z:Int).toNat)=T.4 (↑z:Int).toNat∧True)→false=true∧True)∧(¬¬(T.2 ((0:Nat)+(↑z:Int).toNat)=T.2 (↑z:Int).toNat∧T.3 ((0:Nat)+(↑z:Int).toNat)=T.3 (↑z:Int).toNat∧T.4 ((0:Nat)+(↑z:Int).toNat)=T.4 (↑z:Int).toNat∧True)→rI ((↑z:Int)+(1:Int))∧∃ (z_1:Nat),z_1≤T.1∧T.1 - z_1<T.1 - z∧n=n∧(owB7 n w)∧rE (0:Nat)∧rE (0:Nat)∧rE (0:Nat)∧T.1=T.1∧rE (0:Nat)∧rE T.10∧rE (0:Nat)∧n=n∧e=e∧rE (0:Nat)∧rE (0:Nat)∧rE (Value.slice none (0:Nat) (0:Nat))∧e=e∧rE (↑T.1:Int)∧(↑z:Int)+(1:Int)=(↑z_1:Int)∧T.1=T.1∧(owB3 T)∧T.5=T.5∧T.6=T.6∧T.7=T.7∧T.8=T.8∧T.9=T.9∧rE T.10∧(owB4 T)∧T.1=T.1∧(owB5 T)∧rE T.10∧(owB8 T)∧n=n∧(owB10 n w)∧rE (0:Nat)∧(owB9)∧True))∧(¬(↑z:Int)<(↑T.1:Int)→(0:Nat)<(1 :
Nat)∧(0:Nat)+T.10≤T.10∧(∀ (i:Nat),i<T.10→rE (2:Nat)∧True∧True∧True)∧(∀ (i:Nat),i<T.10→True∧True∧True)∧(∃ (n:Nat) (a b:Nat→Int),n≤(1000000:Nat)∧(SV.lst (2:Nat) T.nl fun i=>ldV T (i+(0:Nat))).den=(SV.lst (2:Nat) n fun k=>SV.agg [b6 (a k),b6 (b k)]).den∧(SV.lst (2:Nat) T.nl (ldV T)).den=(SV.lst (2:Nat) n fun k=>SV.agg [b6 (a k),b6 (b k)]).den)∧(0:Nat)+n≤n∧(∀ (i:Nat),i<n→rE (1:Nat)∧True)∧(∀ (i:Nat),i<n→True)∧(∃ n_1 a,n_1≤(1000000:Nat)∧(SV.lst (1:Nat) n fun i=>SV.dec (w (i+(0:Nat))=true) inferInstance).den=(twL n_1 a).den∧(twL n w).den=(twL n_1 a).den)∧(0:Nat)+(0:Nat)≤(0:Nat)∧(∀ (i:Nat),i<(0:Nat)→rE (2:Nat)∧True∧True∧True)∧rE (0:Nat)∧(e=e→rE true∧True)∧(¬e=e→false=true∧True))))))))):=by kernel_rfl
end Go.Proofs.Ytpdcajchppoocaa

set_option maxRecDepth 100000
namespace Go.Proofs.Ytpdcajchppoocaa
open Go Go.Lg
attribute [local irreducible] bodyH
theorem bt_step {T:Tn} {z i:Nat} (hz:z≤16) (hb:(seP T).t<2 ^ 62∨True) (hbt:bitA .i64 (((seP T).t:Int).fdiv (shP (z:Int))) 1=1↔btB (seP T) z=true):(i=z∧bitA .i64 (((seP T).t:Int).fdiv (shP (z:Int))) 1=1∨¬i=z∧i<z∧btB (seP T) i=true)↔i<z+1∧btB (seP T) i=true:=by
 rw [hbt]
 by_cases e:i=z
 ·subst e
  exact ⟨fun h=>h.elim (fun h=>⟨Nat.lt_succ_self _,h.2⟩) fun h=>(h.1 rfl).elim,fun h=>.inl ⟨rfl,h.2⟩⟩
 ·constructor
  ·rintro (⟨h1,_⟩ | ⟨_,h1,h2⟩)
   ·exact (e h1).elim
   ·exact ⟨by omega,h2⟩
  ·rintro ⟨h1,h2⟩
   exact .inr ⟨e,by omega,h2⟩
theorem cj_0 {T:Tn} {z i:Nat} (h:i<z):(i<z∧btB (seP T) i=true)↔cjP T 0 i:=by
 unfold cjP
 exact ⟨fun e=>⟨fun _=>Nat.not_lt_zero _,fun _=>e.2⟩,fun e=>⟨h,e.2 (Nat.not_lt_zero _)⟩⟩
theorem cj_step {T:Tn} {z i:Nat}:(i=z∧¬cjP T z z∨¬i=z∧cjP T z i)↔cjP T (z+1) i:=by
 by_cases e:i=z
 ·subst e
  have h1:¬ i<i:=Nat.lt_irrefl i
  have h2:i<i+1:=Nat.lt_succ_self i
  unfold cjP
  by_cases hb:btB (seP T) i=true <;> simp [hb]
 ·have:(i<z+1)↔(i<z):=by omega
  unfold cjP
  simp [e,this]
theorem owB_true {T:Tn} {n:Nat} {w:Nat→Bool} (h:chE T n w≠0) (hT:okT T) (hc:(seP T).c=true):owB T n w (chE T n w):=by
 rw [owB_vc]
 simp only [owB0,owB1,owB2,owB3,owB4,owB5,owB6,owB7,owB8,owB9,owB10,owB11,rI,rE,tt3,tt4,tt5,tt13,tt14,rI,rE,tt3,tt4,tt5,tt13,tt14,and_true,true_and,Nat.zero_lt_one,and_self,implies_true,Int.toNat_natCast,Nat.zero_add,Nat.add_zero,Nat.one_mul,Nat.mul_one,Classical.not_not,iff_self,Bool.false_eq_true,imp_false,and_imp,true_implies,forall_const,Nat.not_lt_zero,if_false,Nat.sub_zero,false_and,false_or,not_false_eq_true]
 have hl:=hT.nl
 have hnb:=hT.nb
 have hb:=(se_bd hT).1
 refine ⟨T,rfl,fun g1 g2=>⟨by omega,T,w,⟨rfl,rfl,h⟩,by omega,by omega,⟨0,by omega,rfl,rfl,rfl,fun f=>f.elim⟩,fun z hz=>⟨by omega,fun _=>⟨T,w,⟨rfl,rfl,h⟩,by omega,fun _=>⟨T,⟨rfl,⟨fun _=>trivial,fun _=>hT⟩⟩,T,⟨rfl,hT,hc⟩,by omega,by omega,by omega,by omega,⟨0,by omega,rfl,rfl,rfl,fun i hi=>⟨fun e=>e.elim,fun e=>(Nat.not_lt_zero _ e.1).elim⟩⟩,fun z hz=>⟨fun hlt=>⟨by omega,by omega,hlt,by omega,by omega,by omega,z+1,by omega,by omega,by omega,fun i hi=>?_⟩,fun hlt=>⟨⟨0,by omega,rfl,fun i hi=>cj_0 (by omega)⟩,fun z hz=>⟨fun hlt=>⟨by omega,hlt,by omega,by omega,hlt,by omega,by omega,by omega,z+1,by omega,by omega,by omega,fun i hi=>cj_step⟩,fun hlt=>⟨T,w,⟨rfl,rfl⟩,T,w,⟨rfl,rfl,h⟩,⟨0,by omega,rfl,rfl⟩,fun z hz=>⟨fun hlt=>⟨by omega,hlt,by omega,by omega,hlt,by omega,z+1,by omega,by omega,by omega⟩,fun hlt=>⟨Nat.le_refl _,⟨T.nl,T.lo,T.hi,by omega,rfl⟩,Nat.le_refl _,⟨n,w,by omega,by first | exact rfl | exact ⟨rfl,rfl⟩⟩,by omega⟩⟩⟩⟩⟩⟩⟩⟩⟩⟩⟩
 exact bt_step (by omega) (.inr trivial) (bit_tb (by omega) (by omega))
end Go.Proofs.Ytpdcajchppoocaa

set_option maxRecDepth 100000
namespace Go.Proofs.Ytpdcajchppoocaa
open Go Go.Lg
attribute [local irreducible] bodyH
theorem pu_i (f:Nat→Int) (z i:Nat):(if i=z then f z else if i<z then f i else 0)=if i<z+1 then f i else 0:=by
 have:=put_i f z i
 rwa [Nat.zero_add] at this
theorem pu_x {f:Nat→Int} {x:Int} {z:Nat} (h:x=f z) (i:Nat):(if i=z then x else if i<z then f i else 0)=if i<z+1 then f i else 0:=by
 rw [h]; exact pu_i f z i
theorem ng_st (f:Nat→Int) (z i:Nat):(if i=z then -1 else if i<z then -1 else f i)=if i<z+1 then -1 else f i:=by
 by_cases h:i<z+1
 ·rw [if_pos h]
  by_cases e:i=z
  ·rw [if_pos e]
  ·rw [if_neg e,if_pos (by omega)]
 ·rw [if_neg h,if_neg (by omega),if_neg (by omega)]
theorem ng_0 {f:Nat→Int} {n i:Nat} (h:i<n):(if i<n then f i else 0)=if i<0 then -1 else f i:=by
 rw [if_pos h,if_neg (Nat.not_lt_zero i)]
theorem or_same {P Q:Prop}:(P∧Q∨¬P∧Q)↔Q:=by
 constructor
 ·rintro (⟨_,h⟩ | ⟨_,h⟩) <;> exact h
 ·intro h
  by_cases e:P
  ·exact .inl ⟨e,h⟩
  ·exact .inr ⟨e,h⟩
theorem c_bx (s:St) {j:Nat} (hj:j<5):cellZ s.sv.cells (2+j)=s.bx j:=by have:=cell_bx2 s hj; rwa [Nat.mul_one] at this
theorem c_fo (s:St) {j:Nat} (hj:j<5):cellZ s.sv.cells (7+j)=s.fo j:=by have:=cell_fo2 s hj; rwa [Nat.mul_one] at this
theorem c_rv (s:St) {j:Nat} (hj:j<5):cellZ s.sv.cells (12+j)=s.rv j:=by have:=cell_rv2 s hj; rwa [Nat.mul_one] at this
theorem ot_st {a:Int} {z i:Nat}:(i=z∧a≤(z:Int)∨¬i=z∧i<z∧a≤(i:Int))↔i<z+1∧a≤(i:Int):=by
 constructor
 ·rintro (⟨rfl,h2⟩ | ⟨h1,h2,h3⟩)
  ·exact ⟨by omega,h2⟩
  ·exact ⟨by omega,h3⟩
 ·rintro ⟨h1,h2⟩
  by_cases h3:i=z
  ·subst h3; exact .inl ⟨rfl,h2⟩
  ·exact .inr ⟨h3,by omega,h2⟩
end Go.Proofs.Ytpdcajchppoocaa
