import Derived.Test.YtblomfkinjmjdaaGpHaHbHbVHc
set_option linter.unusedVariables false
set_option linter.unusedSimpArgs false
namespace Go.Proofs.Ytblomfkinjmjdaa
open Go Go.Lg
attribute [local irreducible] bodyH funS
structure TrP where
 L:Sl
 D:Dm
 s:Ss
 m:Mx
 k:Nat
def xOf (m:Mx):Xs:=fun i=>match i with
 | 0=>m.p0
 | 1=>m.p1
 | 2=>m.p2
 | 3=>m.p3
 | _=>0
structure okD (D:Dm):Prop where
 v:0≤D.vol∧D.vol≤1000
 l:0≤D.least∧D.least≤1000000
 m:0≤D.most∧D.most≤1000000
structure TrP.ok (K:Nat) (p:TrP):Prop where
 n:p.L.n≤4
 L:okSl p.L
 D:okD p.D
 k:p.k≤p.L.n
 K:K≤p.k
 m:p.m=mxOf p.L (xOf p.m) p.k
 b:∀ i,i<p.k→0≤xOf p.m i∧xOf p.m i≤(p.L.f i).mo
 pa:¬ pasP p.D p.m
 be:¬ beyP p.D p.m (rvV p.L p.k) (rvC p.L p.k)
 c:p.s.fb→p.m.cost<p.s.b.cost
noncomputable def TrP.s' (p:TrP):Ss:=trF p.L p.D (p.L.n - p.k) p.k (xOf p.m) p.s
def cloT:SV:=.clo (.func 54) [] [.ptr 0 0 0,.ptr 2 0 0,.ptr 3 0 0,.ptr 1 0 0,.ptr 4 0 0,.ptr 5 0 0]
noncomputable def fbV (b:Prop):SV:=.dec b (Classical.propDecidable _)
noncomputable def seX (L:Sl) (D:Dm) (s:Ss) (l:List (Option SRow)):XS:=mkX (vr 1 L.sv :: vr 3 D.sv :: vr 8 s.b.sv :: vr 1 (fbV s.fb) :: vr 10 (T10 (lfI L)) :: vr 1 cloT :: l)
def boF:SV→Prop
 | .dec p i=>p
 | .bool b=>b=true
 | _=>False
theorem rdTr (a:List SV) (X:XS) (k:TrP→Prop) (h:(match a with
  | [.agg [.int .i64 m0,.int .i64 m1,.int .i64 m2,.int .i64 m3,.int .i64 m4,.int .i64 m5,.int .i64 m6,.int .i64 m7],.int .i64 z,.ptr 0 0 0,.ptr 2 0 0,.ptr 3 0 0,.ptr 1 0 0,.ptr 4 0 0,.ptr 5 0 0]=>(match X.row 0,X.row 1,X.row 2,X.row 3 with
   | some R0,some R1,some R2,some R3=>(match R0.f 0,R1.f 0,R2.f 0 with
    | .lst 5 n f,.agg [.int .i64 d0,.int .i64 d1,.int .i64 d2],.agg [.int .i64 b0,.int .i64 b1,.int .i64 b2,.int .i64 b3,.int .i64 b4,.int .i64 b5,.int .i64 b6,.int .i64 b7]=>SV.lst 5 n f=(slOf n f).sv∧k ⟨slOf n f,⟨d0,d1,d2⟩,⟨boF (R3.f 0),⟨b0,b1,b2,b3,b4,b5,b6,b7⟩⟩,⟨m0,m1,m2,m3,m4,m5,m6,m7⟩,z.toNat⟩
    | _,_,_=>False)
   | _,_,_,_=>False)
  | _=>False)):∃ s,k s:=by
 split at h
 ·split at h
  ·split at h
   ·exact ⟨_,h.2⟩
   ·exact h.elim
  ·exact h.elim
 ·exact h.elim
noncomputable def trC (K:Nat):WCtr where
 f:=54
 p:=TrP
 pre:=TrP.ok K
 X0:=fun p=>seX p.L p.D p.s []
 ch:=fun p=>[(2,SRow.v 8 p.s'.b.sv),(3,SRow.v 1 (fbV p.s'.fb))]
 args:=fun p=>[p.m.sv,i6 p.k,.ptr 0 0 0,.ptr 2 0 0,.ptr 3 0 0,.ptr 1 0 0,.ptr 4 0 0,.ptr 5 0 0]
 res:=fun _=>.tup []
 rd:=fun a X k=>match a with
  | [.agg [.int .i64 m0,.int .i64 m1,.int .i64 m2,.int .i64 m3,.int .i64 m4,.int .i64 m5,.int .i64 m6,.int .i64 m7],.int .i64 z,.ptr 0 0 0,.ptr 2 0 0,.ptr 3 0 0,.ptr 1 0 0,.ptr 4 0 0,.ptr 5 0 0]=>(match X.row 0,X.row 1,X.row 2,X.row 3 with
   | some R0,some R1,some R2,some R3=>(match R0.f 0,R1.f 0,R2.f 0 with
    | .lst 5 n f,.agg [.int .i64 d0,.int .i64 d1,.int .i64 d2],.agg [.int .i64 b0,.int .i64 b1,.int .i64 b2,.int .i64 b3,.int .i64 b4,.int .i64 b5,.int .i64 b6,.int .i64 b7]=>SV.lst 5 n f=(slOf n f).sv∧k ⟨slOf n f,⟨d0,d1,d2⟩,⟨boF (R3.f 0),⟨b0,b1,b2,b3,b4,b5,b6,b7⟩⟩,⟨m0,m1,m2,m3,m4,m5,m6,m7⟩,z.toNat⟩
    | _,_,_=>False)
   | _,_,_,_=>False)
  | _=>False
 rdOK:=rdTr
noncomputable def itS' (L:Sl) (D:Dm) (k:Nat) (m:Mx) (s:Ss) (z:Nat):Ss:=itF (stF L D (trF L D (L.n - (k+1))) k (xOf m)) z s
noncomputable def csTr:CSpec:=ctrs [wiMC,paC,beC]
noncomputable def trFr (k:Nat) (mo:Int) (z:Nat) (l:List (Nat × SV)):FS:=mkF 60 ((1,i6 k) :: (2,.ptr 0 0 0) :: (3,.ptr 2 0 0) :: (4,.ptr 3 0 0) :: (5,.ptr 1 0 0) :: (6,.ptr 4 0 0) :: (7,.ptr 5 0 0) :: (8,.ptr 6 0 0) :: (22,i6 (mo+1)) :: (23,i6 z) :: l)
noncomputable def trL (L:Sl) (D:Dm) (k:Nat) (m:Mx) (s:Ss):Nat→Option HSpec :=
 twoL 1009
  { toLSpec :=
    { σ:=Nat,inv:=fun z=>z≤(L.f k).mo.toNat,μ:=fun _=>0,nr:=8,ms:=fun _ _=>[],t:=fun z=>trFr k (L.f k).mo z [(11,.ptr 7 0 0),(46,.dec (beyP D (addM m k (L.f k) z) (rvV L (k+1)) (rvC L (k+1))) (Classical.propDecidable _))],X:=fun z=>seX L D (itS' L D k m s z) [vr 8 m.sv,vr 8 (addM m k (L.f k) z).sv],rd:=fun t _ k=>(match sget 60 t 23 with | .int _ z=>k z.toNat | _=>False),rdOK:=rdI },D:=[],par:=some ⟨fun t _ k=>(match sget 60 t 23 with | .int _ z=>k z.toNat | _=>False),rdI⟩,kinv:=fun y z=>z=y } <|
 oneL 0 (natH (fun z=>z≤(L.f k).mo.toNat+1) (fun z=>(L.f k).mo.toNat+1 - z) 7 (fun z=>trFr k (L.f k).mo z []) (fun z=>seX L D (itS' L D k m s z) [vr 8 m.sv]) fun _=>none)
noncomputable def trG (k:Nat) (L:Sl) (D:Dm) (m:Mx) (s:Ss):Prop :=
 wrH Try.prog csTr (ctrsW [trC (k+1)] noX) (ictrs []) (trL L D k m s) noL 54 (seX L D s []) (seX L D (itS' L D k m s ((L.f k).mo.toNat+1)) []) [m.sv,i6 k,.ptr 0 0 0,.ptr 2 0 0,.ptr 3 0 0,.ptr 1 0 0,.ptr 4 0 0,.ptr 5 0 0] (.tup [])
noncomputable def trE (L:Sl) (D:Dm) (m:Mx) (s:Ss):Prop :=
 wrH Try.prog csTr noX (ictrs []) noL noL 54 (seX L D s []) (seX L D ⟨True,m⟩ []) [m.sv,i6 L.n,.ptr 0 0 0,.ptr 2 0 0,.ptr 3 0 0,.ptr 1 0 0,.ptr 4 0 0,.ptr 5 0 0] (.tup [])
end Go.Proofs.Ytblomfkinjmjdaa

set_option maxRecDepth 100000
namespace Go.Proofs.Ytblomfkinjmjdaa
open Go Go.Lg
def clR (L:Sl) (p:Prop):Prop:=rE (lfI L (0:Nat))∧rE (lfI L (1:Nat))∧rE (lfI L (2:Nat))∧rE (lfI L (3:Nat))∧rE (lfI L (4:Nat))∧rE (lfI L (5:Nat))∧rE (lfI L (6:Nat))∧rE (lfI L (7:Nat))∧rE (lfI L (8:Nat))∧rE (lfI L (9:Nat))∧rE (Fn.func (54:FuncId))∧rE (0:Nat)∧rE (0:Nat)∧rE (0:Nat)∧rE (0:Nat)∧rE (0:Nat)∧rE (0:Nat)∧rE (0:Nat)∧rE (0:Nat)∧rE (0:Nat)∧rE (0:Nat)∧rE (0:Nat)∧rE (0:Nat)∧p
def eqB (a b:Mx) (p:Prop):Prop:=a.1=b.1∧a.2=b.2∧a.3=b.3∧a.4=b.4∧a.5=b.5∧a.6=b.6∧a.7=b.7∧a.8=b.8∧p
def eqL (L:Sl) (D:Dm) (p:Prop):Prop:=L.1=L.1∧(∀ (i:Nat),i<L.1→rE ((L.f i).sv.den)∧True∧True∧True∧True∧True∧True)∧D.1=D.1∧D.2=D.2∧D.3=D.3∧p

theorem trE_vc (L:Sl) (D:Dm) (m:Mx) (s:Ss):trE L D m s=((∀ (i:Nat),i<L.1→True∧True∧True∧True∧True∧True)∧(0:Nat)<(1:Nat)∧(rE (↑L.1:Int)→(0:Nat)<(1:Nat)∧eqL L D (eqB m m ((rE true↔True)∧clR L (True))))∧(¬(↑L.1:Int)=(↑L.1:Int)→(0:Nat)<(1:Nat)∧(0:Int)≤(↑L.1:Int)∧(↑L.1:Int)<(↑L.1:Int)∧rI ((L.f (↑L.n:Int).toNat).4+(1:Int))∧False)):=by kernel_rfl
noncomputable def leT (k:Nat) (L:Sl) (D:Dm) (m:Mx) (s:Ss) (z:Nat) (u0 u1:Int):Prop:=True∧True∧okM (addM m (↑k:Int) (L.f (↑k:Int).toNat) (↑z:Int))∧((0:Int)≤u0∧u0≤(1000000000:Int))∧((0:Int)≤u1∧u1≤(1000000000:Int))∧True∧True∧((↑z:Int).toNat≤(L.f k).4.toNat∧rE ((↑z:Int).toNat))∧rE (↑k:Int)∧rE (0:Nat)∧rE (0:Nat)∧rE (0:Nat)∧rE (0:Nat)∧rE (0:Nat)∧rE (0:Nat)∧rE (0:Nat)∧rE (0:Nat)∧rE (0:Nat)∧rE (0:Nat)∧rE (0:Nat)∧rE (0:Nat)∧rE (0:Nat)∧rE (0:Nat)∧rE (0:Nat)∧rE (0:Nat)∧rE ((L.f k).4+(1:Int))∧(↑z:Int)=(↑(↑z:Int).toNat:Int)∧(beyP D (addM m (↑k:Int) (L.f (↑k:Int).toNat) (↑z:Int)) (u0) (u1)↔beyP D (addM m (↑k:Int) (L.f k) (↑(↑z:Int).toNat:Int)) (rvV L (k+(1:Nat))) (rvC L (k+(1:Nat))))∧eqL L D (eqB (itS' L D k m s z).b (itS' L D k m s (↑z:Int).toNat).b (((itS' L D k m s z).1↔(itS' L D k m s (↑z:Int).toNat).1)∧clR L (eqB m m (((if (↑k:Int).toNat=(0:Nat) then (↑z:Int) else m.1)=if (↑k:Int).toNat=(0:Nat) then (↑(↑z:Int).toNat:Int) else m.1)∧((if (↑k:Int).toNat=(1:Nat) then (↑z:Int) else m.2)=if (↑k:Int).toNat=(1:Nat) then (↑(↑z:Int).toNat:Int) else m.2)∧((if (↑k:Int).toNat=(2:Nat) then (↑z:Int) else m.3)=if (↑k:Int).toNat=(2:Nat) then (↑(↑z:Int).toNat:Int) else m.3)∧((if (↑k:Int).toNat=(3:Nat) then (↑z:Int) else m.4)=if (↑k:Int).toNat=(3:Nat) then (↑(↑z:Int).toNat:Int) else m.4)∧m.5+(↑z:Int)*(L.f (↑k:Int).toNat).3=m.5+(↑(↑z:Int).toNat:Int)*(L.f k).3∧m.6+(↑z:Int)*(L.f (↑k:Int).toNat).1=m.6+(↑(↑z:Int).toNat:Int)*(L.f k).1∧m.7+(↑z:Int)*(L.f (↑k:Int).toNat).2=m.7+(↑(↑z:Int).toNat:Int)*(L.f k).2∧m.8+(↑z:Int)*(L.f (↑k:Int).toNat).5=m.8+(↑(↑z:Int).toNat:Int)*(L.f k).5∧True))))
theorem trG_vc (k:Nat) (L:Sl) (D:Dm) (m:Mx) (s:Ss):trG k L D m s=((∀ (i:Nat),i<L.1→True∧True∧True∧True∧True∧True)∧(0:Nat)<(1:Nat)∧((↑k:Int)=(↑L.1:Int)→(0:Nat)<(1:Nat)∧eqL L D (eqB m (itS' L D k m s ((L.f k).mo.toNat+(1:Nat))).b ((rE true↔(itS' L D k m s ((L.f k).mo.toNat+(1:Nat))).1)∧clR L (True))))∧(¬(↑k:Int)=(↑L.1:Int)→(0:Nat)<(1:Nat)∧(0:Int)≤(↑k:Int)∧(↑k:Int)<(↑L.1:Int)∧rI ((L.f (↑k:Int).toNat).4+(1:Int))∧(∃ (z:Nat),z≤(L.f k).4.toNat+(1:Nat)∧rE (↑k:Int)∧rE (0:Nat)∧rE (0:Nat)∧rE (0:Nat)∧rE (0:Nat)∧rE (0:Nat)∧rE (0:Nat)∧rE (0:Nat)∧rE (0:Nat)∧rE (0:Nat)∧rE (0:Nat)∧rE (0:Nat)∧rE (0:Nat)∧rE (0:Nat)∧rE (0:Nat)∧(L.f (↑k:Int).toNat).4+(1:Int)=(L.f k).4+(1:Int)∧(0:Int)=(↑z:Int)∧eqL L D (eqB s.b (itS' L D k m s z).b ((s.1↔(itS' L D k m s z).1)∧clR L (eqB m m (True)))))∧∀ (z:Nat),z≤(L.f k).4.toNat+(1:Nat)→((↑z:Int)<(L.f k).4+(1:Int)→(0:Nat)<(1:Nat)∧(0:Nat)<(1:Nat)∧(0:Int)≤(↑k:Int)∧(↑k:Int)<(↑L.1:Int)∧okM m∧okSu (L.f (↑k:Int).toNat)∧((0:Int)≤(↑k:Int)∧(↑k:Int)<(4:Int))∧((0:Int)≤(↑z:Int)∧(↑z:Int)≤(20:Int))∧(0:Nat)<(1:Nat)∧(0:Nat)<(1:Nat)∧(pasP D (addM m (↑k:Int) (L.f (↑k:Int).toNat) (↑z:Int))→(pasP D (addM m (↑k:Int) (L.f (↑k:Int).toNat) (↑z:Int))→eqL L D (eqB (itS' L D k m s z).b (itS' L D k m s ((L.f k).mo.toNat+(1:Nat))).b (((itS' L D k m s z).1↔(itS' L D k m s ((L.f k).mo.toNat+(1:Nat))).1)∧clR L (True))))∧(¬pasP D (addM m (↑k:Int) (L.f (↑k:Int).toNat) (↑z:Int))→(True∧True∧(0:Nat)<(1:Nat)∧True∧True∧(0:Nat)<(1:Nat)∧True∧True∧True∧True∧rI ((↑k:Int)+(1:Int))∧True∧True∧(0:Int)≤(↑k:Int)+(1:Int)∧(↑k:Int)+(1:Int)<(↑(5:Nat):Int)∧True∧True∧(0:Nat)<(1:Nat)∧(0:Nat)+((↑k:Int)+(1:Int)).toNat*(2:Nat)+(2:Nat)≤(10:Nat)∧leT k L D m s z (cellZ (T10 (lfI L)).cells ((0:Nat)+((↑k:Int)+(1:Int)).toNat*(2:Nat))) (cellZ (T10 (lfI L)).cells ((0:Nat)+((↑k:Int)+(1:Int)).toNat*(2:Nat)+(1:Nat))))∧∀ (z_1:Nat),z_1≤(L.f k).4.toNat∧z_1=(↑z:Int).toNat→(beyP D (addM m (↑k:Int) (L.f k) (↑z_1:Int)) (rvV L (k+(1:Nat))) (rvC L (k+(1:Nat)))→rI ((↑z_1:Int)+(1:Int))∧∃ (z_2:Nat),z_2≤(L.f k).4.toNat+(1:Nat)∧(L.f k).4.toNat+(1:Nat) - z_2<(L.f k).4.toNat+(1:Nat) - z∧rE (↑k:Int)∧rE (0:Nat)∧rE (0:Nat)∧rE (0:Nat)∧rE (0:Nat)∧rE (0:Nat)∧rE (0:Nat)∧rE (0:Nat)∧rE (0:Nat)∧rE (0:Nat)∧rE (0:Nat)∧rE (0:Nat)∧rE (0:Nat)∧rE (0:Nat)∧rE (0:Nat)∧rE ((L.f k).4+(1:Int))∧(↑z_1:Int)+(1:Int)=(↑z_2:Int)∧eqL L D (eqB (itS' L D k m s z_1).b (itS' L D k m s z_2).b (((itS' L D k m s z_1).1↔(itS' L D k m s z_2).1)∧clR L (eqB m m (True)))))∧(¬beyP D (addM m (↑k:Int) (L.f k) (↑z_1:Int)) (rvV L (k+(1:Nat))) (rvC L (k+(1:Nat)))→(0:Nat)<(1:Nat)∧(0:Nat)<(1:Nat)∧rI ((↑k:Int)+(1:Int))∧rE L.sv∧TrP.ok (k+(1:Nat)) (TrP.mk L D (Ss.mk (boF (fbV (itS' L D k m s z_1).fb)) (itS' L D k m s z_1).b) (addM m (↑k:Int) (L.f k) (↑z_1:Int)) ((↑k:Int)+(1:Int)).toNat)∧((if (↑k:Int).toNat=(0:Nat) then (↑z_1:Int) else m.1)=if (↑k:Int).toNat=(0:Nat) then (↑z_1:Int) else m.1)∧((if (↑k:Int).toNat=(1:Nat) then (↑z_1:Int) else m.2)=if (↑k:Int).toNat=(1:Nat) then (↑z_1:Int) else m.2)∧((if (↑k:Int).toNat=(2:Nat) then (↑z_1:Int) else m.3)=if (↑k:Int).toNat=(2:Nat) then (↑z_1:Int) else m.3)∧((if (↑k:Int).toNat=(3:Nat) then (↑z_1:Int) else m.4)=if (↑k:Int).toNat=(3:Nat) then (↑z_1:Int) else m.4)∧rE (m.5+(↑z_1:Int)*(L.f k).3)∧rE (m.6+(↑z_1:Int)*(L.f k).1)∧rE (m.7+(↑z_1:Int)*(L.f k).2)∧rE (m.8+(↑z_1:Int)*(L.f k).5)∧(↑k:Int)+(1:Int)=(↑((↑k:Int)+(1:Int)).toNat:Int)∧rE (0:Nat)∧rE (0:Nat)∧rE (0:Nat)∧rE (0:Nat)∧rE (0:Nat)∧rE (0:Nat)∧rE (0:Nat)∧rE (0:Nat)∧rE (0:Nat)∧rE (0:Nat)∧rE (0:Nat)∧rE (0:Nat)∧L.1=L.1∧(∀ (i:Nat),i<L.1→rE ((L.f i).sv.den))∧D.1=D.1∧D.2=D.2∧D.3=D.3∧rE ((itS' L D k m s z_1).b.1)∧rE ((itS' L D k m s z_1).b.2)∧rE ((itS' L D k m s z_1).b.3)∧rE ((itS' L D k m s z_1).b.4)∧rE ((itS' L D k m s z_1).b.5)∧rE ((itS' L D k m s z_1).b.6)∧rE ((itS' L D k m s z_1).b.7)∧rE ((itS' L D k m s z_1).b.8)∧((itS' L D k m s z_1).1↔(itS' L D k m s z_1).1)∧rE (lfI L (0:Nat))∧rE (lfI L (1:Nat))∧rE (lfI L (2:Nat))∧rE (lfI L (3:Nat))∧rE (lfI L (4:Nat))∧rE (lfI L (5:Nat))∧rE (lfI L (6:Nat))∧rE (lfI L (7:Nat))∧rE (lfI L (8:Nat))∧rE (lfI L (9:Nat))∧rE (0:Nat)∧rE (0:Nat)∧rE (0:Nat)∧rE (0:Nat)∧rE (0:Nat)∧rE (0:Nat)∧rE (0:Nat)∧rE (0:Nat)∧rE (0:Nat)∧rE (0:Nat)∧rE (0:Nat)∧rE (0:Nat)∧rI ((↑z_1:Int)+(1:Int))∧∃ (z_2:Nat),z_2≤(L.f k).4.toNat+(1:Nat)∧(L.f k).4.toNat+(1:Nat) - z_2<(L.f k).4.toNat+(1:Nat) - z∧rE (↑k:Int)∧rE (0:Nat)∧rE (0:Nat)∧rE (0:Nat)∧rE (0:Nat)∧rE (0:Nat)∧rE (0:Nat)∧rE (0:Nat)∧rE (0:Nat)∧rE (0:Nat)∧rE (0:Nat)∧rE (0:Nat)∧rE (0:Nat)∧rE (0:Nat)∧rE (0:Nat)∧rE ((L.f k).4+(1:Int))∧(↑z_1:Int)+(1:Int)=(↑z_2:Int)∧eqL L D (eqB (TrP.mk L D (Ss.mk (boF (fbV (itS' L D k m s z_1).fb)) (itS' L D k m s z_1).b) (addM m (↑k:Int) (L.f k) (↑z_1:Int)) ((↑k:Int)+(1:Int)).toNat).s'.b (itS' L D k m s z_2).b (((TrP.mk L D (Ss.mk (boF (fbV (itS' L D k m s z_1).fb)) (itS' L D k m s z_1).b) (addM m (↑k:Int) (L.f k) (↑z_1:Int)) ((↑k:Int)+(1:Int)).toNat).s'.1↔(itS' L D k m s z_2).1)∧clR L (eqB m m (True)))))))∧(¬pasP D (addM m (↑k:Int) (L.f (↑k:Int).toNat) (↑z:Int))→(0:Nat)<(1:Nat)∧((itS' L D k m s z).1→(0:Nat)<(1:Nat)∧(0:Nat)<(1:Nat)∧((itS' L D k m s z).b.8≤m.8+(↑z:Int)*(L.f (↑k:Int).toNat).5→eqL L D (eqB (itS' L D k m s z).b (itS' L D k m s ((L.f k).mo.toNat+(1:Nat))).b (((itS' L D k m s z).1↔(itS' L D k m s ((L.f k).mo.toNat+(1:Nat))).1)∧clR L (True))))∧(¬(itS' L D k m s z).b.8≤m.8+(↑z:Int)*(L.f (↑k:Int).toNat).5→(True∧True∧(0:Nat)<(1:Nat)∧True∧True∧(0:Nat)<(1:Nat)∧True∧True∧True∧True∧rI ((↑k:Int)+(1:Int))∧True∧True∧(0:Int)≤(↑k:Int)+(1:Int)∧(↑k:Int)+(1:Int)<(↑(5:Nat):Int)∧True∧True∧(0:Nat)<(1:Nat)∧(0:Nat)+((↑k:Int)+(1:Int)).toNat*(2:Nat)+(2:Nat)≤(10:Nat)∧leT k L D m s z (cellZ (T10 (lfI L)).cells ((0:Nat)+((↑k:Int)+(1:Int)).toNat*(2:Nat))) (cellZ (T10 (lfI L)).cells ((0:Nat)+((↑k:Int)+(1:Int)).toNat*(2:Nat)+(1:Nat))))∧∀ (z_1:Nat),z_1≤(L.f k).4.toNat∧z_1=(↑z:Int).toNat→(beyP D (addM m (↑k:Int) (L.f k) (↑z_1:Int)) (rvV L (k+(1:Nat))) (rvC L (k+(1:Nat)))→rI ((↑z_1:Int)+(1:Int))∧∃ (z_2:Nat),z_2≤(L.f k).4.toNat+(1:Nat)∧(L.f k).4.toNat+(1:Nat) - z_2<(L.f k).4.toNat+(1:Nat) - z∧rE (↑k:Int)∧rE (0:Nat)∧rE (0:Nat)∧rE (0:Nat)∧rE (0:Nat)∧rE (0:Nat)∧rE (0:Nat)∧rE (0:Nat)∧rE (0:Nat)∧rE (0:Nat)∧rE (0:Nat)∧rE (0:Nat)∧rE (0:Nat)∧rE (0:Nat)∧rE (0:Nat)∧rE ((L.f k).4+(1:Int))∧(↑z_1:Int)+(1:Int)=(↑z_2:Int)∧eqL L D (eqB (itS' L D k m s z_1).b (itS' L D k m s z_2).b (((itS' L D k m s z_1).1↔(itS' L D k m s z_2).1)∧clR L (eqB m m (True)))))∧(¬beyP D (addM m (↑k:Int) (L.f k) (↑z_1:Int)) (rvV L (k+(1:Nat))) (rvC L (k+(1:Nat)))→(0:Nat)<(1:Nat)∧(0:Nat)<(1:Nat)∧rI ((↑k:Int)+(1:Int))∧rE L.sv∧TrP.ok (k+(1:Nat)) (TrP.mk L D (Ss.mk (boF (fbV (itS' L D k m s z_1).fb)) (itS' L D k m s z_1).b) (addM m (↑k:Int) (L.f k) (↑z_1:Int)) ((↑k:Int)+(1:Int)).toNat)∧((if (↑k:Int).toNat=(0:Nat) then (↑z_1:Int) else m.1)=if (↑k:Int).toNat=(0:Nat) then (↑z_1:Int) else m.1)∧((if (↑k:Int).toNat=(1:Nat) then (↑z_1:Int) else m.2)=if (↑k:Int).toNat=(1:Nat) then (↑z_1:Int) else m.2)∧((if (↑k:Int).toNat=(2:Nat) then (↑z_1:Int) else m.3)=if (↑k:Int).toNat=(2:Nat) then (↑z_1:Int) else m.3)∧((if (↑k:Int).toNat=(3:Nat) then (↑z_1:Int) else m.4)=if (↑k:Int).toNat=(3:Nat) then (↑z_1:Int) else m.4)∧rE (m.5+(↑z_1:Int)*(L.f k).3)∧rE (m.6+(↑z_1:Int)*(L.f k).1)∧rE (m.7+(↑z_1:Int)*(L.f k).2)∧rE (m.8+(↑z_1:Int)*(L.f k).5)∧(↑k:Int)+(1:Int)=(↑((↑k:Int)+(1:Int)).toNat:Int)∧rE (0:Nat)∧rE (0:Nat)∧rE (0:Nat)∧rE (0:Nat)∧rE (0:Nat)∧rE (0:Nat)∧rE (0:Nat)∧rE (0:Nat)∧rE (0:Nat)∧rE (0:Nat)∧rE (0:Nat)∧rE (0:Nat)∧L.1=L.1∧(∀ (i:Nat),i<L.1→rE ((L.f i).sv.den))∧D.1=D.1∧D.2=D.2∧D.3=D.3∧rE ((itS' L D k m s z_1).b.1)∧rE ((itS' L D k m s z_1).b.2)∧rE ((itS' L D k m s z_1).b.3)∧rE ((itS' L D k m s z_1).b.4)∧rE ((itS' L D k m s z_1).b.5)∧rE ((itS' L D k m s z_1).b.6)∧rE ((itS' L D k m s z_1).b.7)∧rE ((itS' L D k m s z_1).b.8)∧((itS' L D k m s z_1).1↔(itS' L D k m s z_1).1)∧rE (lfI L (0:Nat))∧rE (lfI L (1:Nat))∧rE (lfI L (2:Nat))∧rE (lfI L (3:Nat))∧rE (lfI L (4:Nat))∧rE (lfI L (5:Nat))∧rE (lfI L (6:Nat))∧rE (lfI L (7:Nat))∧rE (lfI L (8:Nat))∧rE (lfI L (9:Nat))∧rE (0:Nat)∧rE (0:Nat)∧rE (0:Nat)∧rE (0:Nat)∧rE (0:Nat)∧rE (0:Nat)∧rE (0:Nat)∧rE (0:Nat)∧rE (0:Nat)∧rE (0:Nat)∧rE (0:Nat)∧rE (0:Nat)∧rI ((↑z_1:Int)+(1:Int))∧∃ (z_2:Nat),z_2≤(L.f k).4.toNat+(1:Nat)∧(L.f k).4.toNat+(1:Nat) - z_2<(L.f k).4.toNat+(1:Nat) - z∧rE (↑k:Int)∧rE (0:Nat)∧rE (0:Nat)∧rE (0:Nat)∧rE (0:Nat)∧rE (0:Nat)∧rE (0:Nat)∧rE (0:Nat)∧rE (0:Nat)∧rE (0:Nat)∧rE (0:Nat)∧rE (0:Nat)∧rE (0:Nat)∧rE (0:Nat)∧rE (0:Nat)∧rE ((L.f k).4+(1:Int))∧(↑z_1:Int)+(1:Int)=(↑z_2:Int)∧eqL L D (eqB (TrP.mk L D (Ss.mk (boF (fbV (itS' L D k m s z_1).fb)) (itS' L D k m s z_1).b) (addM m (↑k:Int) (L.f k) (↑z_1:Int)) ((↑k:Int)+(1:Int)).toNat).s'.b (itS' L D k m s z_2).b (((TrP.mk L D (Ss.mk (boF (fbV (itS' L D k m s z_1).fb)) (itS' L D k m s z_1).b) (addM m (↑k:Int) (L.f k) (↑z_1:Int)) ((↑k:Int)+(1:Int)).toNat).s'.1↔(itS' L D k m s z_2).1)∧clR L (eqB m m (True)))))))∧(¬(itS' L D k m s z).1→(True∧True∧(0:Nat)<(1:Nat)∧True∧True∧(0:Nat)<(1:Nat)∧True∧True∧True∧True∧rI ((↑k:Int)+(1:Int))∧True∧True∧(0:Int)≤(↑k:Int)+(1:Int)∧(↑k:Int)+(1:Int)<(↑(5:Nat):Int)∧True∧True∧(0:Nat)<(1:Nat)∧(0:Nat)+((↑k:Int)+(1:Int)).toNat*(2:Nat)+(2:Nat)≤(10:Nat)∧leT k L D m s z (cellZ (T10 (lfI L)).cells ((0:Nat)+((↑k:Int)+(1:Int)).toNat*(2:Nat))) (cellZ (T10 (lfI L)).cells ((0:Nat)+((↑k:Int)+(1:Int)).toNat*(2:Nat)+(1:Nat))))∧∀ (z_1:Nat),z_1≤(L.f k).4.toNat∧z_1=(↑z:Int).toNat→(beyP D (addM m (↑k:Int) (L.f k) (↑z_1:Int)) (rvV L (k+(1:Nat))) (rvC L (k+(1:Nat)))→rI ((↑z_1:Int)+(1:Int))∧∃ (z_2:Nat),z_2≤(L.f k).4.toNat+(1:Nat)∧(L.f k).4.toNat+(1:Nat) - z_2<(L.f k).4.toNat+(1:Nat) - z∧rE (↑k:Int)∧rE (0:Nat)∧rE (0:Nat)∧rE (0:Nat)∧rE (0:Nat)∧rE (0:Nat)∧rE (0:Nat)∧rE (0:Nat)∧rE (0:Nat)∧rE (0:Nat)∧rE (0:Nat)∧rE (0:Nat)∧rE (0:Nat)∧rE (0:Nat)∧rE (0:Nat)∧rE ((L.f k).4+(1:Int))∧(↑z_1:Int)+(1:Int)=(↑z_2:Int)∧eqL L D (eqB (itS' L D k m s z_1).b (itS' L D k m s z_2).b (((itS' L D k m s z_1).1↔(itS' L D k m s z_2).1)∧clR L (eqB m m (True)))))∧(¬beyP D (addM m (↑k:Int) (L.f k) (↑z_1:Int)) (rvV L (k+(1:Nat))) (rvC L (k+(1:Nat)))→(0:Nat)<(1:Nat)∧(0:Nat)<(1:Nat)∧rI ((↑k:Int)+(1:Int))∧rE L.sv∧TrP.ok (k+(1:Nat)) (TrP.mk L D (Ss.mk (boF (fbV (itS' L D k m s z_1).fb)) (itS' L D k m s z_1).b) (addM m (↑k:Int) (L.f k) (↑z_1:Int)) ((↑k:Int)+(1:Int)).toNat)∧((if (↑k:Int).toNat=(0:Nat) then (↑z_1:Int) else m.1)=if (↑k:Int).toNat=(0:Nat) then (↑z_1:Int) else m.1)∧((if (↑k:Int).toNat=(1:Nat) then (↑z_1:Int) else m.2)=if (↑k:Int).toNat=(1:Nat) then (↑z_1:Int) else m.2)∧((if (↑k:Int).toNat=(2:Nat) then (↑z_1:Int) else m.3)=if (↑k:Int).toNat=(2:Nat) then (↑z_1:Int) else m.3)∧((if (↑k:Int).toNat=(3:Nat) then (↑z_1:Int) else m.4)=if (↑k:Int).toNat=(3:Nat) then (↑z_1:Int) else m.4)∧rE (m.5+(↑z_1:Int)*(L.f k).3)∧rE (m.6+(↑z_1:Int)*(L.f k).1)∧rE (m.7+(↑z_1:Int)*(L.f k).2)∧rE (m.8+(↑z_1:Int)*(L.f k).5)∧(↑k:Int)+(1:Int)=(↑((↑k:Int)+(1:Int)).toNat:Int)∧rE (0:Nat)∧rE (0:Nat)∧rE (0:Nat)∧rE (0:Nat)∧rE (0:Nat)∧rE (0:Nat)∧rE (0:Nat)∧rE (0:Nat)∧rE (0:Nat)∧rE (0:Nat)∧rE (0:Nat)∧rE (0:Nat)∧L.1=L.1∧(∀ (i:Nat),i<L.1→rE ((L.f i).sv.den))∧D.1=D.1∧D.2=D.2∧D.3=D.3∧rE ((itS' L D k m s z_1).b.1)∧rE ((itS' L D k m s z_1).b.2)∧rE ((itS' L D k m s z_1).b.3)∧rE ((itS' L D k m s z_1).b.4)∧rE ((itS' L D k m s z_1).b.5)∧rE ((itS' L D k m s z_1).b.6)∧rE ((itS' L D k m s z_1).b.7)∧rE ((itS' L D k m s z_1).b.8)∧((itS' L D k m s z_1).1↔(itS' L D k m s z_1).1)∧rE (lfI L (0:Nat))∧rE (lfI L (1:Nat))∧rE (lfI L (2:Nat))∧rE (lfI L (3:Nat))∧rE (lfI L (4:Nat))∧rE (lfI L (5:Nat))∧rE (lfI L (6:Nat))∧rE (lfI L (7:Nat))∧rE (lfI L (8:Nat))∧rE (lfI L (9:Nat))∧rE (0:Nat)∧rE (0:Nat)∧rE (0:Nat)∧rE (0:Nat)∧rE (0:Nat)∧rE (0:Nat)∧rE (0:Nat)∧rE (0:Nat)∧rE (0:Nat)∧rE (0:Nat)∧rE (0:Nat)∧rE (0:Nat)∧rI ((↑z_1:Int)+(1:Int))∧∃ (z_2:Nat),z_2≤(L.f k).4.toNat+(1:Nat)∧(L.f k).4.toNat+(1:Nat) - z_2<(L.f k).4.toNat+(1:Nat) - z∧rE (↑k:Int)∧rE (0:Nat)∧rE (0:Nat)∧rE (0:Nat)∧rE (0:Nat)∧rE (0:Nat)∧rE (0:Nat)∧rE (0:Nat)∧rE (0:Nat)∧rE (0:Nat)∧rE (0:Nat)∧rE (0:Nat)∧rE (0:Nat)∧rE (0:Nat)∧rE (0:Nat)∧rE ((L.f k).4+(1:Int))∧(↑z_1:Int)+(1:Int)=(↑z_2:Int)∧eqL L D (eqB (TrP.mk L D (Ss.mk (boF (fbV (itS' L D k m s z_1).fb)) (itS' L D k m s z_1).b) (addM m (↑k:Int) (L.f k) (↑z_1:Int)) ((↑k:Int)+(1:Int)).toNat).s'.b (itS' L D k m s z_2).b (((TrP.mk L D (Ss.mk (boF (fbV (itS' L D k m s z_1).fb)) (itS' L D k m s z_1).b) (addM m (↑k:Int) (L.f k) (↑z_1:Int)) ((↑k:Int)+(1:Int)).toNat).s'.1↔(itS' L D k m s z_2).1)∧clR L (eqB m m (True))))))))∧(¬(↑z:Int)<(L.f k).4+(1:Int)→eqL L D (eqB (itS' L D k m s z).b (itS' L D k m s ((L.f k).mo.toNat+(1:Nat))).b (((itS' L D k m s z).1↔(itS' L D k m s ((L.f k).mo.toNat+(1:Nat))).1)∧clR L (True)))))):=by kernel_rfl
end Go.Proofs.Ytblomfkinjmjdaa

set_option maxRecDepth 100000
namespace Go.Proofs.Ytblomfkinjmjdaa
open Go Go.Lg
attribute [local irreducible] bodyH funS
theorem xOf_mx {L:Sl} {y:Xs} {j i:Nat} (hj:j≤4) (hi:i<j):xOf (mxOf L y j) i=y i:=by
 have:i=0∨i=1∨i=2∨i=3:=by omega
 rcases this with rfl | rfl | rfl | rfl <;> (show ptI y j _=_; unfold ptI; rw [if_pos hi])
theorem add_mx {L:Sl} {x:Xs} {k z:Nat} (hk:k<4):addM (mxOf L x k) k (L.f k) z=mxOf L (upX x k z) (k+1):=by
 obtain ⟨e1,e2,e3,e4⟩:=same_s (L:=L) (x:=x) (y:=upX x k z) (k:=k) fun i hi=>by unfold upX; rw [if_neg (by omega)]
 have up:upX x k z k=z:=by unfold upX; rw [if_pos rfl]
 have v1:voS L (upX x k z) (k+1)=voS L x k+z*(L.f k).v:=by
  show voS L (upX x k z) k+upX x k z k*_=_; rw [e1,up]
 have v2:coS L (upX x k z) (k+1)=coS L x k+z*(L.f k).lo:=by
  show coS L (upX x k z) k+upX x k z k*_=_; rw [e2,up]
 have v3:hoS L (upX x k z) (k+1)=hoS L x k+z*(L.f k).hi:=by
  show hoS L (upX x k z) k+upX x k z k*_=_; rw [e3,up]
 have v4:csS L (upX x k z) (k+1)=csS L x k+z*(L.f k).pay:=by
  show csS L (upX x k z) k+upX x k z k*_=_; rw [e4,up]
 have pt:∀ i,i<4→(if (k:Int).toNat=i then (z:Int) else ptI x k i)=ptI (upX x k z) (k+1) i:=fun i hi=>by
  rw [Int.toNat_natCast]
  unfold ptI upX
  by_cases h:k=i
  ·subst h; rw [if_pos rfl,if_pos (by omega),if_pos rfl]
  ·rw [if_neg h]
   by_cases h2:i<k
   ·rw [if_pos h2,if_pos (by omega),if_neg (by omega)]
   ·rw [if_neg h2,if_neg (by omega)]
 unfold addM
 show Mx.mk (if (k:Int).toNat=0 then (z:Int) else ptI x k 0) (if (k:Int).toNat=1 then (z:Int) else ptI x k 1) (if (k:Int).toNat=2 then (z:Int) else ptI x k 2) (if (k:Int).toNat=3 then (z:Int) else ptI x k 3) (voS L x k+z*(L.f k).v) (coS L x k+z*(L.f k).lo) (hoS L x k+z*(L.f k).hi) (csS L x k+z*(L.f k).pay)=_
 rw [pt 0 (by omega),pt 1 (by omega),pt 2 (by omega),pt 3 (by omega),← v1,← v2,← v3,← v4]
 rfl
theorem okM_mx {L:Sl} (hL:okSl L) {x:Xs} {k:Nat} (hk:k≤L.n) (hn:L.n≤4) (hx:∀ i,i<k→0≤x i∧x i≤(L.f i).mo):okM (mxOf L x k):=by
 have b1:=sum_bd (g:=fun i=>x i*(L.f i).v) (B:=20) (m:=k) fun i hi=>by
  have s:=hL i (by omega)
  have:=mul_bd (hx i hi).1 (Int.le_trans (hx i hi).2 s.m1) s.v0 s.v1
  exact ⟨this.1,by omega⟩
 have b2:=sum_bd (g:=fun i=>x i*(L.f i).lo) (B:=200000) (m:=k) fun i hi=>by
  have s:=hL i (by omega)
  have:=mul_bd (hx i hi).1 (Int.le_trans (hx i hi).2 s.m1) s.sp.a (Int.le_trans s.sp.b s.sp.c)
  exact ⟨this.1,by omega⟩
 have b3:=sum_bd (g:=fun i=>x i*(L.f i).hi) (B:=200000) (m:=k) fun i hi=>by
  have s:=hL i (by omega)
  have:=mul_bd (hx i hi).1 (Int.le_trans (hx i hi).2 s.m1) (Int.le_trans s.sp.a s.sp.b) s.sp.c
  exact ⟨this.1,by omega⟩
 have b4:=sum_bd (g:=fun i=>x i*(L.f i).pay) (B:=20000000) (m:=k) fun i hi=>by
  have s:=hL i (by omega)
  have:=mul_bd (hx i hi).1 (Int.le_trans (hx i hi).2 s.m1) s.p0 s.p1
  exact ⟨this.1,by omega⟩
 refine ⟨⟨b1.1,?_⟩,⟨b2.1,?_⟩,⟨b3.1,?_⟩,⟨b4.1,?_⟩⟩
 ·exact Int.le_trans b1.2 (by omega)
 ·exact Int.le_trans b2.2 (by omega)
 ·exact Int.le_trans b3.2 (by omega)
 ·exact Int.le_trans b4.2 (by omega)
theorem itF_congr {g g':Nat→Ss→Ss} (h:∀ n s,g n s=g' n s):∀ (n:Nat) (s:Ss),itF g n s=itF g' n s
 | 0,s=>rfl
 | n+1,s=>by simp only [itF]; rw [itF_congr h n s,h]
theorem trF_congr {L:Sl} {D:Dm}:∀ (r k:Nat) {x x':Xs} (s:Ss),(∀ i,i<k→x i=x' i)→trF L D r k x s=trF L D r k x' s
 | 0,k,x,x',s,h=>by
  simp only [trF]
  rw [same_mx (L:=L) (x:=x') (y:=x) h]
 | r+1,k,x,x',s,h=>by
  simp only [trF]
  refine itF_congr (fun n s=>?_) _ _
  have up:∀ i,i<k+1→upX x k n i=upX x' k n i:=fun i hi=>by
   unfold upX
   by_cases e:i=k
   ·rw [if_pos e,if_pos e]
   ·rw [if_neg e,if_neg e]; exact h i (by omega)
  unfold stF
  rw [same_mx (L:=L) up,(same_s (L:=L) up).2.2.2,trF_congr r (k+1) s up]
theorem csS_up1 {L:Sl} (hL:okSl L) {x:Xs} {k:Nat} (hk:k<L.n) {a b:Nat} (hab:a≤b):(mxOf L (upX x k a) (k+1)).vol≤(mxOf L (upX x k b) (k+1)).vol∧(mxOf L (upX x k a) (k+1)).hot≤(mxOf L (upX x k b) (k+1)).hot∧csS L (upX x k a) (k+1)≤csS L (upX x k b) (k+1):=by
 have s:=hL k hk
 have e:∀ z:Nat,voS L (upX x k z) k=voS L x k∧coS L (upX x k z) k=coS L x k∧hoS L (upX x k z) k=hoS L x k∧csS L (upX x k z) k=csS L x k:=fun z=>same_s (L:=L) fun i hi=>by unfold upX; rw [if_neg (by omega)]
 have up:∀ z:Nat,upX x k z k=z:=fun z=>by unfold upX; rw [if_pos rfl]
 have hab:(a:Int)≤b:=by omega
 have v1:=Int.mul_le_mul_of_nonneg_right hab s.v0
 have v3:=Int.mul_le_mul_of_nonneg_right hab (Int.le_trans s.sp.a s.sp.b)
 have v4:=Int.mul_le_mul_of_nonneg_right hab s.p0
 refine ⟨?_,?_,?_⟩
 ·show voS L (upX x k a) k+upX x k a k*_≤voS L (upX x k b) k+upX x k b k*_
  rw [(e a).1,(e b).1,up,up]; omega
 ·show hoS L (upX x k a) k+upX x k a k*_≤hoS L (upX x k b) k+upX x k b k*_
  rw [(e a).2.2.1,(e b).2.2.1,up,up]; omega
 ·show csS L (upX x k a) k+upX x k a k*_≤csS L (upX x k b) k+upX x k b k*_
  rw [(e a).2.2.2,(e b).2.2.2,up,up]; omega
theorem it_stop {L:Sl} (hL:okSl L) {D:Dm} {rec:Nat→Xs→Ss→Ss} {x:Xs} {k:Nat} {s:Ss} (hk:k<L.n) {z:Nat} (h:pasP D (mxOf L (upX x k z) (k+1))∨((itF (stF L D rec k x) z s).fb∧(itF (stF L D rec k x) z s).b.cost≤csS L (upX x k z) (k+1))):∀ j,itF (stF L D rec k x) (z+j) s=itF (stF L D rec k x) z s
 | 0=>rfl
 | j+1=>by
  have ih:=it_stop hL (s:=s) hk h j
  show stF L D rec k x (z+j) (itF (stF L D rec k x) (z+j) s)=_
  rw [ih]
  obtain ⟨u1,u2,u3⟩:=csS_up1 (L:=L) hL (x:=x) hk (by omega:z≤z+j)
  clear ih
  generalize itF (stF L D rec k x) z s=s1 at h ⊢
  unfold stF
  rw [if_pos]
  rcases h with h | ⟨h1,h2⟩
  ·left
   unfold pasP at *
   omega
  ·exact .inr ⟨h1,by omega⟩
theorem c10 (f:Nat→Int) {i:Nat} (hi:i<10):cellZ (T10 f).cells i=f i:=by
 have:i=0∨i=1∨i=2∨i=3∨i=4∨i=5∨i=6∨i=7∨i=8∨i=9:=by omega
 rcases this with rfl | rfl | rfl | rfl | rfl | rfl | rfl | rfl | rfl | rfl <;> rfl
theorem lf_even {L:Sl} (j:Nat):lfI L (2*j)=rvV L j∧lfI L (2*j+1)=rvC L j:=by
 unfold lfI
 rw [if_pos (by omega),if_neg (by omega),show 2*j / 2=j by omega,show (2*j+1) / 2=j by omega]
 exact ⟨rfl,rfl⟩
theorem trE_true {L:Sl} {D:Dm} {m:Mx} {s:Ss}:trE L D m s:=by
 rw [trE_vc]
 simp only [leT,clR,eqB,eqL,rI,rE,tt3,tt4,tt5,tt13,tt14,and_true,true_and,Nat.zero_lt_one,implies_true,and_self,iff_self,not_true_eq_false,false_implies]
theorem trG_true {k:Nat} {L:Sl} {D:Dm} {m:Mx} {s:Ss} (h:(TrP.mk L D s m k).ok k) (hk:k<L.n):trG k L D m s:=by
 have hn:L.n≤4:=h.n
 have hL:okSl L:=h.L
 have hD:okD D:=h.D
 have hm:m=mxOf L (xOf m) k:=h.m
 have hb:∀ i,i<k→0≤xOf m i∧xOf m i≤(L.f i).mo:=h.b
 have su:=hL k hk
 have m0:=su.m0
 have m1:=su.m1
 have oM:okM m:=by rw [hm]; exact okM_mx hL (by omega) hn hb
 have aE:∀ z:Nat,addM m k (L.f k) z=mxOf L (upX (xOf m) k z) (k+1):=fun z=>by
  conv=>lhs; rw [hm]
  exact add_mx (by omega)
 have yb:∀ z:Nat,(z:Int)≤(L.f k).mo→∀ i,i<k+1→0≤upX (xOf m) k z i∧upX (xOf m) k z i≤(L.f i).mo:=fun z hz i hi=>by
  unfold upX
  by_cases e:i=k
  ·subst e; rw [if_pos rfl]; omega
  ·rw [if_neg e]; exact hb i (by omega)
 have cE:∀ z:Nat,m.cost+z*(L.f k).pay=csS L (upX (xOf m) k z) (k+1):=fun z=>congrArg Mx.cost (aE z)
 have stop:∀ z:Nat,z≤(L.f k).mo.toNat+1→(pasP D (addM m k (L.f k) z)∨((itS' L D k m s z).fb∧(itS' L D k m s z).b.cost≤m.cost+z*(L.f k).pay))→itS' L D k m s z=itS' L D k m s ((L.f k).mo.toNat+1):=fun z hz hq=>by
  rw [aE,cE] at hq
  have:=it_stop hL (s:=s) hk hq ((L.f k).mo.toNat+1 - z)
  rw [show z+((L.f k).mo.toNat+1 - z)=(L.f k).mo.toNat+1 by omega] at this
  exact this.symm
 have step:∀ z:Nat,¬ (pasP D (addM m k (L.f k) z)∨((itS' L D k m s z).fb∧(itS' L D k m s z).b.cost≤m.cost+z*(L.f k).pay))→(beyP D (addM m k (L.f k) z) (rvV L (k+1)) (rvC L (k+1))→itS' L D k m s (z+1)=itS' L D k m s z)∧(¬ beyP D (addM m k (L.f k) z) (rvV L (k+1)) (rvC L (k+1))→itS' L D k m s (z+1)=trF L D (L.n - (k+1)) (k+1) (xOf (addM m k (L.f k) z)) (itS' L D k m s z)):=fun z hq=>by
  rw [aE,cE] at hq
  have e:itS' L D k m s (z+1)=stF L D (trF L D (L.n - (k+1))) k (xOf m) z (itS' L D k m s z):=rfl
  rw [e]
  unfold stF
  rw [if_neg hq,aE]
  refine ⟨fun hq2=>by rw [if_pos hq2],fun hq2=>?_⟩
  rw [if_neg hq2]
  refine trF_congr _ _ _ fun i hi=>(xOf_mx (by omega) hi).symm
 have bd:=rv_bd hL hn
 rw [trG_vc]
 simp only [leT,clR,eqB,eqL,rI,rE,tt3,tt4,tt5,tt13,tt14,and_true,true_and,Nat.zero_lt_one,and_self,implies_true,Int.toNat_natCast,Nat.zero_add,Nat.add_zero,Nat.one_mul,Nat.mul_one,Classical.not_not,iff_self,Bool.false_eq_true,imp_false,and_imp,true_implies,forall_const]
 refine ⟨fun x=>by omega,fun _=>⟨by omega,by omega,by omega,⟨0,by omega,rfl,rfl,rfl,rfl,rfl,rfl,rfl,rfl,rfl,Iff.rfl⟩,fun z hz=>⟨fun hl=>⟨by omega,by omega,oM,su,by omega,by omega,fun hp=>⟨fun _=>?_,fun x=>absurd hp x⟩,fun hp=>⟨fun hf=>⟨fun hc=>?_,fun hc=>?_⟩,fun hf=>?_⟩⟩,fun hl=>?_⟩⟩⟩
 ·rw [stop z hz (.inl hp)]
  exact ⟨rfl,rfl,rfl,rfl,rfl,rfl,rfl,rfl,Iff.rfl⟩
 ·rw [stop z hz (.inr ⟨hf,hc⟩)]
  exact ⟨rfl,rfl,rfl,rfl,rfl,rfl,rfl,rfl,Iff.rfl⟩
 rotate_left 2
 ·have:z=(L.f k).mo.toNat+1:=by omega
  rw [this]
  exact ⟨rfl,rfl,rfl,rfl,rfl,rfl,rfl,rfl,Iff.rfl⟩
 all_goals
  have hq:¬ (pasP D (addM m k (L.f k) z)∨((itS' L D k m s z).fb∧(itS' L D k m s z).b.cost≤m.cost+z*(L.f k).pay)):=by
   rintro (x | ⟨x,y⟩)
   ·exact hp x
   ·first | exact hc y | exact hf x
  have oA:okM (addM m k (L.f k) z):=by rw [aE]; exact okM_mx hL (by omega) hn (yb z (by omega))
  have lf:∀ j,0≤lfI L j∧lfI L j≤1000000000:=fun j=>by
   have:=bd (j / 2)
   unfold lfI
   split <;> omega
  have le:=lf_even (L:=L) (k+1)
  refine ⟨⟨by omega,by omega,by omega,by omega,?_⟩,fun z1 hz1 hz2=>?_⟩
  ·have ej:(↑k+1:Int).toNat*2=2*(k+1):=by omega
   rw [ej,c10 _ (by omega),c10 _ (by omega),le.1,le.2]
   exact ⟨oA,by have:=bd (k+1); omega,by have:=bd (k+1); omega,by omega,Iff.rfl⟩
  ·subst hz2
   obtain ⟨st1,st2⟩:=step z1 hq
   refine ⟨fun hb1=>⟨by omega,z1+1,by omega,by omega,by omega,?_⟩,fun hb1=>⟨by omega,?_,by omega,by omega,z1+1,by omega,by omega,by omega,?_⟩⟩
   ·rw [st1 hb1]
    exact ⟨rfl,rfl,rfl,rfl,rfl,rfl,rfl,rfl,Iff.rfl⟩
   ·have ek:(↑k+1:Int).toNat=k+1:=by omega
    rw [ek]
    have em:mxOf L (xOf (addM m k (L.f k) z1)) (k+1)=addM m k (L.f k) z1:=by
     rw [aE]
     exact same_mx fun i hi=>xOf_mx (by omega) hi
    refine ⟨hn,hL,hD,hk,Nat.le_refl _,em.symm,fun i hi=>?_,fun x=>hq (.inl x),hb1,fun x=>?_⟩
    ·show 0≤xOf (addM m k (L.f k) z1) i∧xOf (addM m k (L.f k) z1) i≤_
     have hi:i<k+1:=hi
     rw [aE,xOf_mx (by omega) hi]
     exact yb z1 (by omega) i hi
    ·exact Int.not_le.1 fun y=>hq (.inr ⟨x,y⟩)
   ·have ek:(↑k+1:Int).toNat=k+1:=by omega
    rw [ek,st2 hb1]
    exact ⟨rfl,rfl,rfl,rfl,rfl,rfl,rfl,rfl,Iff.rfl⟩
end Go.Proofs.Ytblomfkinjmjdaa
