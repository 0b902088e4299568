import Derived.Test.YtifjghgejnkdoaaIaIaVIb
set_option linter.unusedVariables false
set_option linter.unusedSimpArgs false
namespace Go.Proofs.Ytifjghgejnkdoaa
open Go Go.Lg
attribute [local irreducible] bodyH funS
theorem nil_relS {S:Nat} {c:Nat→Nat→Option Value} {I:Nat→Prop} {N:Nat} {β:Nat→Option Lg.Loc} {v:Value} (h:Rel c I N β (.sc (.slice none 0 0)) v):Rel c I N β (.isl S []) v:=by
 cases h with
 | sc _=>exact .islz S none
theorem nil_doesS {S:Nat} {g:FuncId} {fr:Bool} {pre post:List AV} {res:AV} (h:Does Try.prog g fr (pre ++ .isl S [] :: post) res):Does Try.prog g fr (pre ++ .sc (.slice none 0 0) :: post) res:=by
 intro w I vals hI hr
 refine h w I vals hI ?_
 clear h
 generalize vals.toList=l at hr
 induction pre generalizing l with
 | nil =>
  obtain ⟨v,r,e,h1,h2⟩:=hr.cons
  rw [e]
  exact RelL.mk (nil_relS h1) h2
 | cons x pre ih =>
  obtain ⟨v,r,e,h1,h2⟩:=hr.cons
  rw [e]
  exact RelL.mk h1 (ih _ h2)
def nilAt (S:Nat) (e:SV):Nat→List SV→(List SV→Prop)→Prop
 | 0,args,k=>(match args with
  | .val (.slice none 0 0) :: r=>k (.lst S 0 (fun _=>e) :: r)
  | _=>k args)
 | i+1,args,k=>(match args with
  | x :: r=>nilAt S e i r fun r=>k (x :: r)
  | []=>k [])
theorem nilAt_spec {S:Nat} {e:SV}:∀ {i:Nat} {args:List SV} {k:List SV→Prop},nilAt S e i args k→(∃ a,k a∧∀ {g fr res} (pre:List AV),Does Try.prog g fr (pre ++ SV.denL a) res→Does Try.prog g fr (pre ++ SV.denL args) res)
 | 0,args,k,h=>by
  unfold nilAt at h
  split at h
  ·rename_i r
   exact ⟨_,h,fun pre hd=>nil_doesS (S:=S) (pre:=pre) (post:=SV.denL r) (by simpa [SV.denL,SV.den] using hd)⟩
  ·exact ⟨_,h,fun pre hd=>hd⟩
 | i+1,args,k,h=>by
  unfold nilAt at h
  split at h
  ·rename_i x r
   obtain ⟨a,h1,h2⟩:=nilAt_spec (i:=i) h
   refine ⟨_,h1,fun pre hd=>?_⟩
   have:=h2 (pre ++ [x.den]) (by simpa [SV.denL] using hd)
   simpa [SV.denL] using this
  ·exact ⟨_,h,fun pre hd=>hd⟩
def nilC (S:Nat) (e:SV) (i:Nat) (C:Ctr):Ctr:=⟨C.f,fun args k=>nilAt S e i args fun args=>C.c args k⟩
theorem nilC_ok {S:Nat} {e:SV} {i:Nat} {C:Ctr} (h:C.Ok Try.prog):(nilC S e i C).Ok Try.prog:=by
 refine ⟨h.1,fun x k hk=>?_⟩
 obtain ⟨a,h1,h2⟩:=nilAt_spec hk
 obtain ⟨v,h3,h4⟩:=h.2 _ _ h1
 exact ⟨v,h2 (g:=C.f) [] h3,h4⟩
open Classical in
noncomputable def erC (W:Wl):Int:=if 32<W.n then 3 else if okWl W then 0 else 1
noncomputable def caN (W:Wl):Nat:=if erC W=0 then W.n else 0
noncomputable def caA (W:Wl):Tw:=if erC W=0 then smJ (fun i=>ldW (W.f i)) W.n else ⟨0,0⟩
def ldL (W:Wl) (i:Nat):Tw:=ldW (W.f i)
noncomputable def caR (W:Wl):SV:=.tup [twL (caN W) (ldL W),(caA W).sv,i6 (erC W)]
noncomputable def csC:CSpec:=ctrs [vwC,loC,nilC 2 (Tw.sv ⟨0,0⟩) 0 smC]
noncomputable def caX (W:Wl):CX:=inl Try.prog (ctrs []) none (ictrs []) 32
 (oneL 0 (appH1 18 3 (fun k=>k≤W.n) (fun k=>W.n - k) (W.n+1) 2 (fun k=>mkF 18 [(3,.sl 2 0 k),(6,.sl 1 0 W.n),(7,i6 W.n),(8,i6 k)]) fun k=>mkX [vr 2 (Tw.sv ⟨0,0⟩),rw' 2 W.n fun i=>(ldL W i).sv,rw' 2 k fun i=>(ldL W i).sv])) noL noX
noncomputable def caG (W:Wl):Prop:=funN Try.prog csC (caX W) (ictrs [])
 (oneL 1 (appH1 34 5 (fun k=>k≤W.n) (fun k=>W.n - k) (W.n+1) 1 (fun k=>mkF 34 [(3,.ptr 0 0 0),(5,.sl 1 0 k),(18,W.sv),(19,i6 W.n),(20,i6 k)]) fun k=>mkX [vr 2 (Tw.sv ⟨0,0⟩),rw' 2 k fun i=>(ldL W i).sv])) noL
 18 [W.sv] (caR W)
noncomputable def caC:Ctr:=⟨18,fun args k=>match args with
 | [.lst 4 n f]=>SV.lst 4 n f=(wlOf n f).sv∧n≤1000∧k (caR (wlOf n f))
 | _=>False⟩
end Go.Proofs.Ytifjghgejnkdoaa

set_option maxRecDepth 100000
namespace Go.Proofs.Ytifjghgejnkdoaa
open Go Go.Lg
theorem caG_vc (W:Wl):caG W =
(((32:Int)<(↑W.1:Int)→(0:Nat)<(1:Nat)∧(0:Nat)=caN W∧(0:Int)=(caA W).1∧(0:Int)=(caA W).2∧(3:Int)=erC W∧True)∧(¬(32:Int)<(↑W.1:Int)→(∀ (i:Nat),i<W.1→True∧True∧True∧True∧True)∧(SV.lst (4:Nat) W.n fun i=>(W.f i).sv)=(wlOf W.n fun i=>(W.f i).sv).sv∧W.1≤(1000:Nat)∧(¬okWl (wlOf W.n fun i=>(W.f i).sv)→(0:Nat)<(1:Nat)∧(0:Nat)=caN W∧(0:Int)=(caA W).1∧(0:Int)=(caA W).2∧(1:Int)=erC W∧True)∧(¬¬okWl (wlOf W.n fun i=>(W.f i).sv)→(((0:Int)<(↑W.1:Int)→(0:Int)≤(0:Int)∧(0:Int)<(↑W.1:Int)∧(0:Nat)<(1:Nat)∧okW (Wg.mk (W.f (Int.toNat (0:Int))).elo (W.f (Int.toNat (0:Int))).ehi (W.f (Int.toNat (0:Int))).flo (W.f (Int.toNat (0:Int))).fhi)∧True∧(∀ (i:Nat),i<(1:Nat)→rE true)∧(1:Nat)*(16:Nat)≤(140737488355328:Nat)∧(1:Nat) ≤
(4611686018427387904:Nat)∧rI ((0:Int)+(1:Int))∧∃ (z:Nat),z≤W.1∧W.1 - z<W.1+(1:Nat)∧rE (0:Nat)∧rE (0:Nat)∧rE (0:Nat)∧(1:Nat)=z∧W.1=W.1∧(∀ (i:Nat),i<W.1→rE ((W.f i).sv.den)∧True∧True∧True∧True∧True)∧rE (↑W.1:Int)∧(0:Int)+(1:Int)=(↑z:Int)∧rE (0:Int)∧rE (0:Int)∧z=(1:Nat)∧(∀ (i:Nat),i<z→rE (2:Nat)∧max (0:Int) ((W.f (Int.toNat (0:Int))).3 - (W.f (Int.toNat (0:Int))).2)=max (0:Int) ((W.f i).3 - (W.f i).2)∧(W.f (Int.toNat (0:Int))).4 - (W.f (Int.toNat (0:Int))).1=(W.f i).4 - (W.f i).1∧True)∧True)∧(¬(0:Int)<(↑W.1:Int)→(((0:Int)<(↑(0:Nat):Int)→False)∧(¬(0:Int)<(↑(0:Nat):Int)→(SV.lst (2:Nat) (0:Nat) fun x=>(Tw.mk (0:Int) (0:Int)).sv)=twL (0:Nat) (ftOf fun x=>(Tw.mk (0:Int) (0:Int)).sv)∧(0:Nat)≤(1000:Nat)∧(∀
(i:Nat),i<(0:Nat)→bdT (ftOf (fun x=>(Tw.mk (0:Int) (0:Int)).sv) i))∧(0:Nat)<(1:Nat)∧(0:Nat)=caN W∧sumJ (fun i=>(ftOf (fun x=>(Tw.mk (0:Int) (0:Int)).sv) i).lo) (0:Nat)=(caA W).1∧sumJ (fun i=>(ftOf (fun x=>(Tw.mk (0:Int) (0:Int)).sv) i).hi) (0:Nat)=(caA W).2∧(0:Int)=erC W∧True))∧∀ (z:Nat),z≤W.1→((↑z:Int)<(↑W.1:Int)→(0:Int)≤(↑z:Int)∧(↑z:Int)<(↑W.1:Int)∧(0:Nat)+(↑z:Int).toNat<W.1∧(0:Nat)<(1:Nat)∧True∧(∀ (i:Nat),i<(1:Nat)→rE true)∧rE (0:Nat)∧z=z∧(∀ (i:Nat),rE true)∧(z+(1:Nat))*(16:Nat)≤(140737488355328:Nat)∧z+(1:Nat)≤(4611686018427387904:Nat)∧rI ((↑z:Int)+(1:Int))∧∃ (z_1:Nat),z_1≤W.1∧W.1 - z_1<W.1 - z∧rE (0:Nat)∧z+(1:Nat)=z_1∧rE (0:Nat)∧W.1=W.1∧rE (↑W.1:Int)∧(↑z:Int)+(1:Int) =
(↑z_1:Int)∧rE (0:Int)∧rE (0:Int)∧W.1=W.1∧(∀ (i:Nat),i<W.1→rE (2:Nat)∧rE (max (0:Int) ((W.f i).3 - (W.f i).2))∧rE ((W.f i).4 - (W.f i).1)∧True)∧z_1=z+(1:Nat)∧(∀ (i:Nat),i<z_1→rE (2:Nat)∧(if i<z then max (0:Int) ((W.f i).3 - (W.f i).2) else max (0:Int) ((W.f ((0:Nat)+(↑z:Int).toNat)).3 - (W.f ((0:Nat)+(↑z:Int).toNat)).2))=max (0:Int) ((W.f i).3 - (W.f i).2)∧(if i<z then (W.f i).4 - (W.f i).1 else (W.f ((0:Nat)+(↑z:Int).toNat)).4 - (W.f ((0:Nat)+(↑z:Int).toNat)).1)=(W.f i).4 - (W.f i).1∧True)∧True)∧(¬(↑z:Int)<(↑W.1:Int)→(SV.lst (2:Nat) (0:Nat) fun x=>(Tw.mk (0:Int) (0:Int)).sv)=twL (0:Nat) (ftOf fun x=>(Tw.mk (0:Int) (0:Int)).sv)∧(0:Nat)≤(1000:Nat)∧(∀ (i:Nat),i<(0:Nat)→bdT (ftOf (fun x=>(Tw.mk (0:Int) (0:Int)).sv) i))∧(0:Nat)<(1 :
Nat)∧z=caN W∧(0:Nat)+caN W≤z∧(∀ (i:Nat),i<caN W→rE (2:Nat)∧rE (2:Nat)∧max (0:Int) ((W.f (i+(0:Nat))).3 - (W.f (i+(0:Nat))).2)=max (0:Int) ((W.f i).3 - (W.f i).2)∧(W.f (i+(0:Nat))).4 - (W.f (i+(0:Nat))).1=(W.f i).4 - (W.f i).1∧True)∧sumJ (fun i=>(ftOf (fun x=>(Tw.mk (0:Int) (0:Int)).sv) i).lo) (0:Nat)=(caA W).1∧sumJ (fun i=>(ftOf (fun x=>(Tw.mk (0:Int) (0:Int)).sv) i).hi) (0:Nat)=(caA W).2∧(0:Int)=erC W∧True)))∧∀ (z:Nat),z≤W.1→((↑z:Int)<(↑W.1:Int)→(0:Int)≤(↑z:Int)∧(↑z:Int)<(↑W.1:Int)∧(0:Nat)<(1:Nat)∧okW (Wg.mk (W.f (↑z:Int).toNat).elo (W.f (↑z:Int).toNat).ehi (W.f (↑z:Int).toNat).flo (W.f (↑z:Int).toNat).fhi)∧True∧(∀ (i:Nat),i<(1:Nat)→rE true)∧rE (0:Nat)∧z=z∧(∀ (i:Nat),rE true)∧(z+(1:Nat))*(16:Nat) ≤
(140737488355328:Nat)∧z+(1:Nat)≤(4611686018427387904:Nat)∧rI ((↑z:Int)+(1:Int))∧∃ (z_1:Nat),z_1≤W.1∧W.1 - z_1<W.1 - z∧rE (0:Nat)∧rE (0:Nat)∧rE (0:Nat)∧z+(1:Nat)=z_1∧W.1=W.1∧(∀ (i:Nat),i<W.1→rE ((W.f i).sv.den)∧True∧True∧True∧True∧True)∧rE (↑W.1:Int)∧(↑z:Int)+(1:Int)=(↑z_1:Int)∧rE (0:Int)∧rE (0:Int)∧z_1=z+(1:Nat)∧(∀ (i:Nat),i<z_1→rE (2:Nat)∧(if i<z then max (0:Int) ((W.f i).3 - (W.f i).2) else max (0:Int) ((W.f (↑z:Int).toNat).3 - (W.f (↑z:Int).toNat).2))=max (0:Int) ((W.f i).3 - (W.f i).2)∧(if i<z then (W.f i).4 - (W.f i).1 else (W.f (↑z:Int).toNat).4 - (W.f (↑z:Int).toNat).1)=(W.f i).4 - (W.f i).1∧True)∧True)∧(¬(↑z:Int)<(↑W.1:Int)→(((0:Int)<(↑z:Int)→(0:Int)≤(0:Int)∧(0:Int)<(↑z:Int)∧(0:Nat)+Int.toNat (0 :
Int)<z∧(0:Nat)<(1:Nat)∧True∧(∀ (i:Nat),i<(1:Nat)→rE true)∧(1:Nat)*(16:Nat)≤(140737488355328:Nat)∧(1:Nat)≤(4611686018427387904:Nat)∧rI ((0:Int)+(1:Int))∧∃ (z_1:Nat),z_1≤W.1∧W.1 - z_1<W.1+(1:Nat)∧rE (0:Nat)∧(1:Nat)=z_1∧rE (0:Nat)∧z=W.1∧(↑z:Int)=(↑W.1:Int)∧(0:Int)+(1:Int)=(↑z_1:Int)∧rE (0:Int)∧rE (0:Int)∧W.1=z∧(∀ (i:Nat),i<W.1→rE (2:Nat)∧rE (max (0:Int) ((W.f i).3 - (W.f i).2))∧rE ((W.f i).4 - (W.f i).1)∧True)∧z_1=(1:Nat)∧(∀ (i:Nat),i<z_1→rE (2:Nat)∧max (0:Int) ((W.f ((0:Nat)+Int.toNat (0:Int))).3 - (W.f ((0:Nat)+Int.toNat (0:Int))).2)=max (0:Int) ((W.f i).3 - (W.f i).2)∧(W.f ((0:Nat)+Int.toNat (0:Int))).4 - (W.f ((0:Nat)+Int.toNat (0:Int))).1=(W.f i).4 - (W.f i).1∧True)∧True)∧(¬(0:Int)<(↑z :
Int)→(0:Nat)+z≤z∧(∀ (i:Nat),i<z→rE (2:Nat)∧True∧True∧True)∧(SV.lst (2:Nat) z fun i=>(ldL W (i+(0:Nat))).sv)=twL z (ftOf fun i=>(ldL W (i+(0:Nat))).sv)∧z≤(1000:Nat)∧(∀ (i:Nat),i<z→bdT (ftOf (fun i=>(ldL W (i+(0:Nat))).sv) i))∧(0:Nat)<(1:Nat)∧(0:Nat)=caN W∧sumJ (fun i=>(ftOf (fun i=>(ldL W (i+(0:Nat))).sv) i).lo) z=(caA W).1∧sumJ (fun i=>(ftOf (fun i=>(ldL W (i+(0:Nat))).sv) i).hi) z=(caA W).2∧(0:Int)=erC W∧True))∧∀ (z_1:Nat),z_1≤W.1→((↑z_1:Int)<(↑W.1:Int)→(0:Int)≤(↑z_1:Int)∧(↑z_1:Int)<(↑W.1:Int)∧(0:Nat)+(↑z_1:Int).toNat<W.1∧(0:Nat)<(1:Nat)∧True∧(∀ (i:Nat),i<(1:Nat)→rE true)∧rE (0:Nat)∧z_1=z_1∧(∀ (i:Nat),rE true)∧(z_1+(1:Nat))*(16:Nat)≤(140737488355328:Nat)∧z_1+(1:Nat) ≤
(4611686018427387904:Nat)∧rI ((↑z_1:Int)+(1:Int))∧∃ (z:Nat),z≤W.1∧W.1 - z<W.1 - z_1∧rE (0:Nat)∧z_1+(1:Nat)=z∧rE (0:Nat)∧W.1=W.1∧rE (↑W.1:Int)∧(↑z_1:Int)+(1:Int)=(↑z:Int)∧rE (0:Int)∧rE (0:Int)∧W.1=W.1∧(∀ (i:Nat),i<W.1→rE (2:Nat)∧rE (max (0:Int) ((W.f i).3 - (W.f i).2))∧rE ((W.f i).4 - (W.f i).1)∧True)∧z=z_1+(1:Nat)∧(∀ (i:Nat),i<z→rE (2:Nat)∧(if i<z_1 then max (0:Int) ((W.f i).3 - (W.f i).2) else max (0:Int) ((W.f ((0:Nat)+(↑z_1:Int).toNat)).3 - (W.f ((0:Nat)+(↑z_1:Int).toNat)).2))=max (0:Int) ((W.f i).3 - (W.f i).2)∧(if i<z_1 then (W.f i).4 - (W.f i).1 else (W.f ((0:Nat)+(↑z_1:Int).toNat)).4 - (W.f ((0:Nat)+(↑z_1:Int).toNat)).1)=(W.f i).4 - (W.f i).1∧True)∧True)∧(¬(↑z_1:Int)<(↑W.1:Int)→(0:Nat)+z≤W.1∧(∀ (i:Nat),i<z
→ rE (2:Nat)∧True∧True∧True)∧(SV.lst (2:Nat) z fun i=>(ldL W (i+(0:Nat))).sv)=twL z (ftOf fun i=>(ldL W (i+(0:Nat))).sv)∧z≤(1000:Nat)∧(∀ (i:Nat),i<z→bdT (ftOf (fun i=>(ldL W (i+(0:Nat))).sv) i))∧(0:Nat)<(1:Nat)∧z_1=caN W∧(0:Nat)+caN W≤z_1∧(∀ (i:Nat),i<caN W→rE (2:Nat)∧rE (2:Nat)∧max (0:Int) ((W.f (i+(0:Nat))).3 - (W.f (i+(0:Nat))).2)=max (0:Int) ((W.f i).3 - (W.f i).2)∧(W.f (i+(0:Nat))).4 - (W.f (i+(0:Nat))).1=(W.f i).4 - (W.f i).1∧True)∧sumJ (fun i=>(ftOf (fun i=>(ldL W (i+(0:Nat))).sv) i).lo) z=(caA W).1∧sumJ (fun i=>(ftOf (fun i=>(ldL W (i+(0:Nat))).sv) i).hi) z=(caA W).2∧(0:Int)=erC W∧True))))):=by kernel_rfl
end Go.Proofs.Ytifjghgejnkdoaa

set_option maxRecDepth 100000
namespace Go.Proofs.Ytifjghgejnkdoaa
open Go Go.Lg
attribute [local irreducible] funS bodyH
theorem ld_bd {w:Wg} (h:okW w):bdT (ldW w):=by
 have h1:=h.e.a
 have h2:=h.e.b
 have h3:=h.e.c
 have h4:=h.f.a
 have h5:=h.f.b
 have h6:=h.f.c
 have h7:=h.c
 simp only [bdT,ldW]
 omega
theorem erC_yes {W:Wl} (h:¬ 32<(W.n:Int)) (hw:okWl W):erC W=0∧caN W=W.n∧caA W=smJ (ldL W) W.n:=by
 have e:erC W=0:=by rw [erC,if_neg (by omega),if_pos hw]
 refine ⟨e,by rw [caN,if_pos e],by rw [caA,if_pos e]; rfl⟩
theorem erC_no {W:Wl} (h:erC W≠0):caN W=0∧caA W=⟨0,0⟩:=⟨by rw [caN,if_neg h],by rw [caA,if_neg h]⟩
theorem ca_true {W:Wl} (hn:W.n≤1000):caG W:=by
 rw [caG_vc]
 simp only [rI,rE,and_true,true_and,Nat.zero_lt_one,implies_true,Int.toNat_natCast,Nat.zero_add,Nat.add_zero,wl_fold,wsv_fold,wg_fold,Classical.not_not]
 refine ⟨fun h=>?_,fun h=>⟨hn,fun h1=>?_,fun h1=>?_⟩⟩
 ·have e:erC W=3:=by rw [erC,if_pos (by omega)]
  obtain ⟨e1,e2⟩:=erC_no (W:=W) (by omega)
  rw [e1,e2]; exact ⟨rfl,rfl,rfl,e.symm⟩
 ·have e:erC W=1:=by rw [erC,if_neg (by omega),if_neg h1]
  obtain ⟨e1,e2⟩:=erC_no (W:=W) (by omega)
  rw [e1,e2]; exact ⟨rfl,rfl,rfl,e.symm⟩
 ·obtain ⟨e0,e1,e2⟩:=erC_yes h h1
  rw [e0,e1,e2]
  have hb:∀ i,i<W.n→bdT (ldL W i):=fun i hi=>ld_bd (h1 i hi)
  have st:∀ z i:Nat,i<z+1→((if i<z then max 0 ((W.f i).3 - (W.f i).2) else max 0 ((W.f z).3 - (W.f z).2))=max 0 ((W.f i).3 - (W.f i).2))∧((if i<z then (W.f i).4 - (W.f i).1 else (W.f z).4 - (W.f z).1)=(W.f i).4 - (W.f i).1):=fun z i hi=>by
   by_cases e:i<z
   ·simp only [if_pos e]; exact ⟨trivial,trivial⟩
   ·have:i=z:=by omega
    subst this; simp only [if_neg e]; exact ⟨trivial,trivial⟩
  have ft:∀ z,(SV.lst 2 z fun i=>(ldL W i).sv)=twL z (ftOf fun i=>(ldL W i).sv):=fun z=>rfl
  have sj:∀ z,z=W.n→sumJ (fun i=>(ftOf (fun i=>(ldL W i).sv) i).lo) z=(smJ (ldL W) W.n).1∧sumJ (fun i=>(ftOf (fun i=>(ldL W i).sv) i).hi) z=(smJ (ldL W) W.n).2:=fun z hz=>by subst hz; exact ⟨rfl,rfl⟩
  have step:∀ z:Nat,z<W.n→∃ z_1:Nat,z_1≤W.n∧W.n - z_1<W.n - z∧z+1=z_1∧(z:Int)+1=(z_1:Int)∧z_1=z+1∧∀ i,i<z_1→((if i<z then max 0 ((W.f i).3 - (W.f i).2) else max 0 ((W.f z).3 - (W.f z).2))=max 0 ((W.f i).3 - (W.f i).2))∧((if i<z then (W.f i).4 - (W.f i).1 else (W.f z).4 - (W.f z).1)=(W.f i).4 - (W.f i).1) :=
   fun z hz=>⟨z+1,by omega,by omega,rfl,by omega,rfl,fun i hi=>st z i hi⟩
  refine ⟨⟨fun hp=>?_,fun hp=>?_⟩,fun z hz=>⟨fun hl=>⟨by omega,hl,h1 z (by omega),by omega,by omega,by omega,step z (by omega)⟩,fun hl=>?_⟩⟩
  ·refine ⟨by omega,hp,h1 _ (by simp; omega),by omega,by omega,by omega,1,by omega,by omega,rfl,rfl,rfl,fun i hi=>?_⟩
   have:i=0:=by omega
   subst this; exact ⟨rfl,rfl⟩
  ·have hz:W.n=0:=by omega
   rw [hz]
   refine ⟨⟨fun h=>by omega,fun _=>?_⟩,fun z hz=>⟨fun hl=>by omega,fun hl=>?_⟩⟩
   ·and_intros <;> first | rfl | omega | (intro i hi; first | (and_intros <;> rfl) | omega)
   ·and_intros <;> first | rfl | omega | (intro i hi; first | (and_intros <;> rfl) | omega)
  ·have hzn:z=W.n:=by omega
   subst hzn
   refine ⟨⟨fun hp=>?_,fun hp=>?_⟩,fun z1 hz1=>⟨fun hl=>⟨by omega,hl,by omega,by omega,by omega,by omega,step z1 (by omega)⟩,fun hl=>?_⟩⟩
   ·refine ⟨by omega,hp,by (first | omega | (simp; omega)),by omega,by omega,by omega,1,?_⟩
    and_intros <;> first | rfl | omega | (intro i hi; have h0:i=0:=(by omega); rw [h0]; exact ⟨rfl,rfl⟩)
   ·and_intros <;> first | rfl | omega | exact ft _ | exact fun i hi=>hb i hi
   ·and_intros <;> first | rfl | omega | exact ft _ | exact fun i hi=>hb i hi
theorem ca_ok:caC.Ok Try.prog:=by
 refine ⟨by kernel_rfl,fun x k hk=>?_⟩
 simp only [caC] at hk
 split at hk
 ·rename_i n f
  obtain ⟨hf,hn,hk⟩:=hk
  have hh:=ca_true (W:=wlOf n f) hn
  unfold caG at hh
  rw [← hf] at hh
  refine ⟨_,newD (three_cs vw_ok lo_ok (nilC_ok sm_ok)) ?_ nilS_ic hh (by simp [flatS,flatSL,scS,SV.cells,twL,Tw.sv,caR]),hk⟩
  unfold caX
  exact inl_sound nilS_cs nilS_x (ys:=none) trivial nilS_ic mixed
 ·exact hk.elim
end Go.Proofs.Ytifjghgejnkdoaa
