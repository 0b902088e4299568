import Derived.Test.YtpdcajchppoocaaWe0We2Wd
set_option linter.unusedVariables false
set_option linter.unusedSimpArgs false
namespace Go.Lg
open Go.RowKit
variable {P:Program}

noncomputable def roomS (X:XS):Bool:=Nat.blt X.n 510
theorem roomS_spec {X:XS} (h:roomS X=true):X.n<512:=by
 have:X.n<510:=by simpa [roomS,Nat.blt_eq] using h
 omega
def SRow.v (S:Nat) (x:SV):SRow:=⟨S,1,fun _=>x,true⟩
theorem SRow.v_den (S:Nat) (x:SV):(SRow.v S x).den=⟨S,[x.den],none⟩:=by simp [SRow.v,SRow.den,SRow.els,List.range_succ]
noncomputable def boxS (n:Nat) (x:SV) (X:XS) (k:KS):Prop :=
 ifP (roomS X && x.ok && Nat.beq x.cells.length n) (k (.ptr X.n 0 0) (X.push (some (SRow.v n x))))
theorem boxS_spec {t x X} {k:KS} (h:boxS (P.cellsOf t) x X k):∃ (v:SV) (X':XS),aBox P t x.den X.den v.den X'.den∧X'.n<512∧k v X':=by
 obtain ⟨h1,h⟩:=ifP_spec h
 simp only [Bool.and_eq_true,Nat.beq_eq] at h1
 have hr:X.n<510:=by simpa [roomS,Nat.blt_eq] using h1.1.1
 refine ⟨_,_,⟨ok_den h1.1.2,by rw [den_cells,denL_length]; exact h1.2,?_,?_⟩,?_,h⟩
 ·rw [XS.length]; rfl
 ·rw [XS.push_den (by omega)]; simp [denR,SRow.v_den]
 ·show X.n+1<512; omega
noncomputable def allocS (P:Program) (t:TypeId) (X:XS) (k:KS):Prop:=match zeroS P t with
 | some z=>boxS (P.cellsOf t) z X k
 | none=>False
theorem allocS_spec {t X} {k:KS} (h:allocS P t X k):∃ (v:SV) (X':XS),aAlloc P t X.den v.den X'.den∧X'.n<512∧k v X':=by
 unfold allocS at h
 split at h
 ·rename_i z hz
  obtain ⟨v,X',h1,h2,h3⟩:=boxS_spec h
  exact ⟨v,X',⟨_,zeroS_spec hz,h1⟩,h2,h3⟩
 ·exact h.elim

def forceS (v:SV) (k:SV→Prop):Prop:=match v with
 | .any=>k .any
 | .int K z=>k (.int K z)
 | .dec p i=>k (.dec p i)
 | .bool b=>k (.bool b)
 | .val v=>k (.val v)
 | .ptr r i j=>k (.ptr r i j)
 | .ptd r i j=>k (.ptd r i j)
 | .ipd c j=>k (.ipd c j)
 | .sl r o n=>k (.sl r o n)
 | .sub r i j s n=>k (.sub r i j s n)
 | .lst s n f=>k (.lst s n f)
 | .ipt c=>k (.ipt c)
 | .agg c=>k (.agg c)
 | .tup c=>k (.tup c)
 | .clo f a b=>k (.clo f a b)
 | .yld r=>k (.yld r)
 | .mp r=>k (.mp r)
 | .ifc t v=>k (.ifc t v)
theorem forceS_eq (v:SV) (k:SV→Prop):forceS v k=k v:=by cases v <;> rfl
noncomputable def forceC (l:List SV) (k:List SV→Prop):Prop :=
 List.rec (motive:=fun _=>(List SV→Prop)→Prop) (fun k=>k []) (fun x _ ih k=>forceS x fun x=>ih fun r=>k (x :: r)) l k
theorem forceC_eq:∀ (l:List SV) (k:List SV→Prop),forceC l k=k l
 | [],k=>rfl
 | x :: l,k=>by
  show forceS x (fun x=>forceC l fun r=>k (x :: r))=_
  rw [forceS_eq,forceC_eq l]
noncomputable def putV (e:SV) (j:Nat) (x:SV) (k:SV→Prop):Prop:=match e with
 | .agg cs=>overS cs j x.cells fun l=>forceC l fun l=>k (.agg l)
 | .any=>False
 | _=>k x
theorem putV_spec {e:SV} {j:Nat} {x:SV} {k:SV→Prop} (h:putV e j x k):∃ v:SV,v.den=putEl e.den j x.den∧k v:=by
 unfold putV at h
 split at h
 ·rename_i cs
  simp only [forceC_eq] at h
  refine ⟨_,?_,overS_spec h⟩
  simp only [SV.den,putEl,denL_append,denL_take,denL_drop,den_cells,denL_length]
 ·exact h.elim
 ·rename_i h1 h2
  refine ⟨x,?_,h⟩
  cases e <;> first | rfl | exact absurd rfl (h1 _) | exact absurd rfl h2
def putF (e:SV) (j:Nat) (x:SV):SV:=match e with
 | .agg cs=>.agg (cs.take j ++ x.cells ++ cs.drop (j+x.cells.length))
 | _=>x
theorem putF_den (e:SV) (j:Nat) (x:SV):(putF e j x).den=putEl e.den j x.den:=by
 cases e <;> simp [putF,putEl,SV.den,denL_append,denL_take,denL_drop,den_cells,denL_length]
noncomputable def putR (f:Nat→SV) (i j:Nat) (x:SV):Nat→SV:=fun i'=>sel (i'=i) (Nat.decEq i' i) (putF (f i') j x) (f i')
theorem putR_den {f:Nat→SV} {n i j:Nat} {x:SV} (hi:i<n) (h:∀ i',selOK (putF (f i') j x) (f i')=true) :
  ((List.range n).map fun i'=>(putR f i j x i').den)=((List.range n).map fun i'=>(f i').den).set i (putEl (((List.range n).map fun i'=>(f i').den).getD i .any) j x.den):=by
 apply List.ext_getElem
 ·simp
 ·intro m a b
  simp at a
  simp only [List.getElem_map,List.getElem_range,List.getElem_set,putR]
  rw [sel_den _ _ _ _ (h m)]
  by_cases hm:i=m
  ·subst hm; simp [putF_den,List.getD,hi]
  ·rw [if_neg (fun h=>hm (by simpa using h.symm)),if_neg hm]
def hasLst:SV→Bool
 | .agg c=>go c
 | _=>false
where go:List SV→Bool
 | []=>false
 | .lst .. :: _=>true
 | _ :: xs=>go xs
noncomputable def putL (f:Nat→SV) (i j:Nat) (x:SV):Nat→SV:=fun i'=>match f i' with
 | .agg cs=>.agg (cs.take j ++ selL (i'=i) (Nat.decEq i' i) x.cells ((cs.drop j).take x.cells.length) ++ cs.drop (j+x.cells.length))
 | y=>y
noncomputable def okPL (e:SV) (j:Nat) (x:SV):Bool:=match e with
 | .agg cs=>selOKL x.cells ((cs.drop j).take x.cells.length)
 | _=>false
theorem putL_one {f:Nat→SV} {i j i':Nat} {x:SV} (h:okPL (f i') j x=true):(putL f i j x i').den=if i'=i then putEl (f i').den j x.den else (f i').den:=by
 unfold putL
 unfold okPL at h
 generalize f i'=e at h ⊢
 cases e with
 | agg cs =>
  have h:selOKL x.cells ((cs.drop j).take x.cells.length)=true:=h
  show AV.agg (SV.denL (cs.take j ++ selL (i'=i) (Nat.decEq i' i) x.cells ((cs.drop j).take x.cells.length) ++ cs.drop (j+x.cells.length)))=_
  rw [denL_append,denL_append,selL_den _ _ _ _ h]
  split
  ·rw [denL_take,denL_drop]
   simp [putEl,SV.den,den_cells,denL_length]
  ·rw [← denL_append,← denL_append,List.append_assoc]
   have:(cs.drop j).take x.cells.length ++ cs.drop (j+x.cells.length)=cs.drop j:=by
    rw [← List.drop_drop,List.take_append_drop]
   rw [this,List.take_append_drop]
   rfl
 | _=>exact absurd h (by simp)
theorem putL_den {f:Nat→SV} {n i j:Nat} {x:SV} (hi:i<n) (h:∀ i',okPL (f i') j x=true) :
  ((List.range n).map fun i'=>(putL f i j x i').den)=((List.range n).map fun i'=>(f i').den).set i (putEl (((List.range n).map fun i'=>(f i').den).getD i .any) j x.den):=by
 apply List.ext_getElem
 ·simp
 ·intro m a b
  simp at a
  simp only [List.getElem_map,List.getElem_range,List.getElem_set]
  rw [putL_one (h m)]
  by_cases hm:i=m
  ·subst hm; simp [List.getD,hi]
  ·rw [if_neg (fun h=>hm (by simpa using h.symm)),if_neg hm]
def setZ (K:IntKind) (j:Nat) (v:Int):List SV→Nat→List SV
 | [],_=>[]
 | x :: xs,b=>.int K (if j=b then v else numZ x) :: setZ K j v xs (b+1)
theorem allInt_cons {K:IntKind} {x:SV} {xs:List SV} (h:allInt K (x :: xs)=true):x=.int K (numZ x)∧allInt K xs=true:=by
 cases x with
 | int K' z =>
  have h:(kindEq K' K && allInt K xs)=true:=h
  simp only [Bool.and_eq_true] at h
  rw [kindEq_spec h.1]
  exact ⟨rfl,h.2⟩
 | _=>cases h
theorem setZ_past {K:IntKind} {j:Nat} {v:Int}:∀ {cs:List SV} {b:Nat},allInt K cs=true→j<b→setZ K j v cs b=cs
 | [],_,_,_=>rfl
 | x :: xs,b,h,hb=>by
  obtain ⟨h1,h2⟩:=allInt_cons h
  simp only [setZ]
  rw [if_neg (by omega),setZ_past h2 (by omega),← h1]
theorem setZ_at {K:IntKind} {j:Nat} {v:Int}:∀ {cs:List SV} {b:Nat},allInt K cs=true→b≤j→j<b+cs.length→setZ K j v cs b=cs.take (j - b) ++ [.int K v] ++ cs.drop (j - b+1)
 | [],b,_,h1,h2=>by simp at h2; omega
 | x :: xs,b,h,h1,h2=>by
  obtain ⟨h3,h4⟩:=allInt_cons h
  simp only [setZ]
  by_cases e:j=b
  ·subst e
   rw [if_pos rfl,setZ_past h4 (by omega)]
   simp
  ·rw [if_neg e,setZ_at h4 (by omega) (by simp at h2; omega),← h3]
   rw [show j - b=(j - (b+1))+1 by omega]
   simp
def ofInt (x:SV) (k:Int→Prop):Prop:=match x with
 | .int _ z=>k z
 | _=>False
theorem ofInt_spec {x:SV} {k:Int→Prop} (h:ofInt x k):∃ K z,x=.int K z∧k z:=by
 cases x <;> first | exact h.elim | exact ⟨_,_,rfl,h⟩
noncomputable def setK (K:IntKind) (j:Nat) (v:Int):List SV→Nat→(List SV→Prop)→Prop :=
 List.rec (motive:=fun _=>Nat→(List SV→Prop)→Prop) (fun _ k=>k []) (fun x _ ih b k=>ofInt x fun z=>forceNat (Nat.succ b) fun b'=>ih b' fun l=>k (.int K (if j=b then v else z) :: l))
theorem setK_spec {K:IntKind} {j:Nat} {v:Int}:∀ {cs:List SV} {b:Nat} {k:List SV→Prop},setK K j v cs b k→k (setZ K j v cs b)
 | [],b,k,h=>h
 | x :: cs,b,k,h=>by
  have h:ofInt x fun z=>forceNat (Nat.succ b) fun b'=>setK K j v cs b' fun l=>k (.int K (if j=b then v else z) :: l):=h
  obtain ⟨K',z,hx,h2⟩:=ofInt_spec h
  clear h
  subst hx
  rw [forceNat_eq] at h2
  exact setK_spec (b:=b+1) h2
noncomputable def setB (j:Nat) (p:Prop):List SV→Nat→List SV
 | [],_=>[]
 | x :: xs,b=>.dec ((j=b∧p)∨(¬ j=b∧decP x)) (Classical.propDecidable _) :: setB j p xs (b+1)
theorem setB_past {j:Nat} {p:Prop}:∀ {cs:List SV} {b:Nat},allB cs=true→j<b→SV.denL (setB j p cs b)=SV.denL cs
 | [],_,_,_=>rfl
 | x :: xs,b,h,hb=>by
  have h:(isB x && allB xs)=true:=h
  simp only [Bool.and_eq_true] at h
  have e:((j=b∧p)∨(¬ j=b∧decP x))↔decP x:=⟨fun h=>h.elim (fun h=>by omega) fun h=>h.2,fun h=>.inr ⟨by omega,h⟩⟩
  simp only [setB,SV.denL,setB_past h.2 (show j<b+1 by omega),isB_den h.1,SV.den]
  congr 3
  exact decide_eq_decide.2 e
theorem setB_at {j:Nat} {p:Prop}:∀ {cs:List SV} {b:Nat},allB cs=true→b≤j→j<b+cs.length→SV.denL (setB j p cs b)=(SV.denL cs).take (j - b) ++ [.sc (.bool (@decide p (Classical.propDecidable _)))] ++ (SV.denL cs).drop (j - b+1)
 | [],b,_,h1,h2=>by simp at h2; omega
 | x :: xs,b,h,h1,h2=>by
  have h:(isB x && allB xs)=true:=h
  simp only [Bool.and_eq_true] at h
  simp only [setB,SV.denL]
  by_cases e:j=b
  ·subst e
   have e2:((j=j∧p)∨(¬ j=j∧decP x))↔p:=⟨fun h=>h.elim (fun h=>h.2) fun h=>absurd rfl h.1,fun h=>.inl ⟨rfl,h⟩⟩
   rw [setB_past h.2 (by omega)]
   simp only [SV.den,Nat.sub_self,List.take_zero,List.nil_append,Nat.zero_add,List.drop_succ_cons,List.drop_zero,List.singleton_append]
   congr 3
   exact decide_eq_decide.2 e2
  ·have e2:((j=b∧p)∨(¬ j=b∧decP x))↔decP x:=⟨fun h=>h.elim (fun h=>absurd h.1 e) fun h=>h.2,fun h=>.inr ⟨e,h⟩⟩
   rw [setB_at h.2 (by omega) (by simp at h2; omega)]
   rw [show j - b=(j - (b+1))+1 by omega]
   simp only [SV.den,isB_den h.1,List.take_succ_cons,List.cons_append,List.drop_succ_cons]
   congr 3
   exact decide_eq_decide.2 e2
noncomputable def storeB (kn:Bool) (n r i j:Nat) (R:SRow) (p:Prop) (X:XS) (k:KS):Prop :=
 ifP (kn && Nat.beq 1 n && R.var && Nat.beq R.n 1 && Nat.beq i 0) (match R.f 0 with
   | .agg cs=>ifP (allB cs && Nat.beq cs.length R.sz) (j<cs.length∧k .any (X.set r (some (SRow.v R.sz (.agg (setB j p cs 0))))))
   | _=>False)
theorem storeB_spec {t r i j X} {R:SRow} {x:SV} {k:KS} (hR:X.row r=some R) (hx:isB x=true) (hX:X.n<512) (h:storeB (known P t) (P.cellsOf t) r i j R (decP x) X k):∃ (v:SV) (X':XS),aStore P t (SV.ptd r i j).den x.den X.den v.den X'.den∧X'.n<512∧k v X':=by
 unfold storeB at h
 obtain ⟨hc,h⟩:=ifP_spec h
 simp only [Bool.and_eq_true,Nat.beq_eq] at hc
 obtain ⟨⟨⟨⟨c1,c2⟩,c3⟩,c4⟩,c5⟩:=hc
 split at h
 ·rename_i cs hf
  obtain ⟨hd,hj,h5⟩:=ifP_spec h
  simp only [Bool.and_eq_true,Nat.beq_eq] at hd
  have hr:=XS.row_lt hR
  have hone:x.den.cells.length=P.cellsOf t:=by rw [← c2,isB_den hx]; rfl
  subst c5
  have hok:x.den.ok=true:=by rw [isB_den hx]; rfl
  refine ⟨.any,X.set r (some (SRow.v R.sz (.agg (setB j (decP x) cs 0)))),⟨R.den,X.row_get hR,by show 0<R.els.length; rw [els_length]; omega,c1,hok,hone,by omega,by rw [hone,← c2]; show j+1≤R.sz; omega,rfl,?_⟩,hX,h5⟩
  rw [XS.set_den (by omega) hr]
  have h0:R.els=[(R.f 0).den]:=by simp [SRow.els,c4,List.range_succ]
  show X.den.set r (some (SRow.v R.sz _).den)=X.den.set r (some ⟨R.sz,R.els.set 0 (putEl (R.els.getD 0 .any) j x.den),R.obj⟩)
  rw [SRow.obj_n (R:=R) (by omega),SRow.v_den,h0,hf]
  simp only [SV.den]
  rw [setB_at hd.1 (Nat.zero_le _) (by omega),isB_den hx]
  simp [putEl,AV.cells]
 ·exact h.elim
noncomputable def storeA (kn:Bool) (n r i j:Nat) (R:SRow) (c:List SV) (X:XS) (k:KS):Prop:=match c with
 | [.int K u,.int K' v]=>ifP (kn && Nat.beq 2 n && R.var && Nat.beq R.n 1 && Nat.beq i 0 && kindEq K' K) (match R.f 0 with
   | .agg cs=>ifP (allInt K cs && Nat.beq cs.length R.sz) (j+1<cs.length∧setK K j u cs 0 fun l=>setK K (j+1) v l 0 fun l=>k .any (X.set r (some (SRow.v R.sz (.agg l)))))
   | _=>False)
 | _=>False
theorem allInt_setZ {K:IntKind} {j:Nat} {v:Int}:∀ {cs:List SV} {b:Nat},allInt K cs=true→allInt K (setZ K j v cs b)=true∧(setZ K j v cs b).length=cs.length
 | [],b,h=>⟨h,rfl⟩
 | x :: cs,b,h=>by
  obtain ⟨h1,h2⟩:=allInt_cons h
  obtain ⟨h3,h4⟩:=allInt_setZ (j:=j) (v:=v) (b:=b+1) h2
  refine ⟨?_,by simp only [setZ,List.length_cons,h4]⟩
  show (kindEq K K && allInt K (setZ K j v cs (b+1)))=true
  rw [h3,Bool.and_true]
  have h:allInt K (x :: cs)=true:=h
  rw [h1] at h
  have h:(kindEq K K && allInt K cs)=true:=h
  simp only [Bool.and_eq_true] at h
  exact h.1
theorem setZ_two {K:IntKind} {j:Nat} {u v:Int} {cs:List SV} (h:allInt K cs=true) (hj:j+1<cs.length):setZ K (j+1) v (setZ K j u cs 0) 0=cs.take j ++ [.int K u,.int K v] ++ cs.drop (j+2):=by
 obtain ⟨h1,h2⟩:=allInt_setZ (j:=j) (v:=u) (b:=0) h
 rw [setZ_at h1 (Nat.zero_le _) (by omega),setZ_at h (Nat.zero_le _) (by omega)]
 have hl:(cs.take j).length=j:=by rw [List.length_take]; omega
 simp only [Nat.sub_zero]
 rw [List.append_assoc (cs.take j),List.take_append,hl,List.take_take,Nat.min_eq_right (by omega),show j+1 - j=1 by omega,List.drop_append,hl,List.drop_of_length_le (by omega:(cs.take j).length≤j+1+1),show j+1+1 - j=2 by omega]
 simp
theorem storeA_spec {t r i j X} {R:SRow} {c:List SV} {k:KS} (hR:X.row r=some R) (hX:X.n<512) (h:storeA (known P t) (P.cellsOf t) r i j R c X k):∃ (v:SV) (X':XS),aStore P t (SV.ptd r i j).den (SV.agg c).den X.den v.den X'.den∧X'.n<512∧k v X':=by
 unfold storeA at h
 split at h
 ·rename_i K u K' v
  obtain ⟨hc,h⟩:=ifP_spec h
  simp only [Bool.and_eq_true,Nat.beq_eq] at hc
  obtain ⟨⟨⟨⟨⟨c1,c2⟩,c3⟩,c4⟩,c5⟩,c6⟩:=hc
  have c6:=kindEq_spec c6
  subst c6
  split at h
  ·rename_i cs hf
   obtain ⟨hd,hj,h⟩:=ifP_spec h
   have h5:=setK_spec (setK_spec h)
   simp only [Bool.and_eq_true,Nat.beq_eq] at hd
   have hr:=XS.row_lt hR
   have hone:(SV.agg [.int K' u,.int K' v]).den.cells.length=P.cellsOf t:=by rw [← c2]; rfl
   subst c5
   refine ⟨.any,X.set r (some (SRow.v R.sz (.agg (setZ K' (j+1) v (setZ K' j u cs 0) 0)))),⟨R.den,X.row_get hR,by show 0<R.els.length; rw [els_length]; omega,c1,rfl,hone,by omega,by rw [hone,← c2]; show j+2≤R.sz; omega,rfl,?_⟩,hX,h5⟩
   rw [XS.set_den (by omega) hr]
   have h0:R.els=[(R.f 0).den]:=by simp [SRow.els,c4,List.range_succ]
   show X.den.set r (some (SRow.v R.sz _).den)=X.den.set r (some ⟨R.sz,R.els.set 0 (putEl (R.els.getD 0 .any) j (SV.agg [.int K' u,.int K' v]).den),R.obj⟩)
   rw [SRow.obj_n (R:=R) (by omega),SRow.v_den,h0,hf,setZ_two hd.1 hj]
   simp [SV.den,putEl,denL_append,denL_take,denL_drop,AV.cells,SV.denL]
  ·exact h.elim
 ·exact h.elim
noncomputable def storeD (kn:Bool) (n r i j:Nat) (x:SV) (X:XS) (k:KS):Prop:=match X.row r with
 | some R=>(match x with
  | .int K v=>ifP (kn && Nat.beq 1 n && R.var && Nat.beq R.n 1 && Nat.beq i 0) (match R.f 0 with
   | .agg cs=>ifP (allInt K cs && Nat.beq cs.length R.sz) (match Nat.ble cs.length 16 with
    | true=>j<cs.length∧k .any (X.set r (some (SRow.v R.sz (.agg (setZ K j v cs 0)))))
    | false=>j<cs.length∧setK K j v cs 0 fun l=>k .any (X.set r (some (SRow.v R.sz (.agg l)))))
   | _=>False)
  | .dec p _=>storeB kn n r i j R p X k
  | .bool b=>storeB kn n r i j R (b=true) X k
  | .agg c=>storeA kn n r i j R c X k
  | _=>False)
 | none=>False
theorem storeD_spec {t r i j x X} {k:KS} (hX:X.n<512) (h:storeD (known P t) (P.cellsOf t) r i j x X k):∃ (v:SV) (X':XS),aStore P t (SV.ptd r i j).den x.den X.den v.den X'.den∧X'.n<512∧k v X':=by
 unfold storeD at h
 split at h
 ·rename_i R hR
  split at h
  ·rename_i K v
   obtain ⟨hc,h⟩:=ifP_spec h
   simp only [Bool.and_eq_true,Nat.beq_eq] at hc
   obtain ⟨⟨⟨⟨c1,c2⟩,c3⟩,c4⟩,c5⟩:=hc
   split at h
   ·rename_i cs hf
    obtain ⟨hd,h⟩:=ifP_spec h
    have hh:j<cs.length∧k .any (X.set r (some (SRow.v R.sz (.agg (setZ K j v cs 0))))):=by
     split at h
     ·exact h
     ·exact ⟨h.1,setK_spec h.2⟩
    obtain ⟨hj,h5⟩:=hh
    simp only [Bool.and_eq_true,Nat.beq_eq] at hd
    have hr:=XS.row_lt hR
    have hone:(SV.int K v).den.cells.length=P.cellsOf t:=by rw [← c2]; rfl
    subst c5
    refine ⟨.any,X.set r (some (SRow.v R.sz (.agg (setZ K j v cs 0)))),⟨R.den,X.row_get hR,by show 0<R.els.length; rw [els_length]; omega,c1,rfl,hone,by omega,by rw [hone,← c2]; show j+1≤R.sz; omega,rfl,?_⟩,hX,h5⟩
    rw [XS.set_den (by omega) hr]
    have h0:R.els=[(R.f 0).den]:=by simp [SRow.els,c4,List.range_succ]
    show X.den.set r (some (SRow.v R.sz _).den)=X.den.set r (some ⟨R.sz,R.els.set 0 (putEl (R.els.getD 0 .any) j (SV.int K v).den),R.obj⟩)
    rw [SRow.obj_n (R:=R) (by omega),SRow.v_den,h0,hf,setZ_at hd.1 (Nat.zero_le _) (by omega)]
    simp [SV.den,putEl,denL_append,denL_take,denL_drop,AV.cells,SV.denL]
   ·exact h.elim
  ·rename_i p hi
   exact storeB_spec (x:=.dec p hi) hR rfl hX h
  ·rename_i b
   exact storeB_spec (x:=.bool b) hR rfl hX h
  ·rename_i c
   exact storeA_spec hR hX h
  ·exact h.elim
 ·exact h.elim
noncomputable def storeS (kn:Bool) (n:Nat) (p x:SV) (X:XS) (k:KS):Prop:=match p with
 | .ptr r i j=>(match X.row r with
  | some R=>ifP (kn && x.ok && Nat.beq x.cells.length n && Nat.blt 0 n) ((match R.var with
   | true=>ifP (Nat.beq i 0 && Nat.beq R.n 1 && Nat.ble (Nat.add j n) R.sz) (putV (R.f 0) j x fun y=>forceNat R.sz fun sz=>k .any (X.set r (some (SRow.v sz y))))
   | false=>forceS x fun x=>(match hasLst (R.f 0) with
    | true=>(j+n≤R.sz∧i<R.n∧(∀ i',okPL (R.f i') j x=true)∧k .any (X.set r (some ⟨R.sz,R.n,putL R.f i j x,false⟩)))
    | false=>(j+n≤R.sz∧i<R.n∧(∀ i',selOK (putF (R.f i') j x) (R.f i')=true)∧k .any (X.set r (some ⟨R.sz,R.n,putR R.f i j x,false⟩))))))
  | none=>False)
 | .ptd r i j=>storeD kn n r i j x X k
 | _=>False
theorem storeS_spec {t p x X} {k:KS} (hX:X.n<512) (h:storeS (known P t) (P.cellsOf t) p x X k):∃ (v:SV) (X':XS),aStore P t p.den x.den X.den v.den X'.den∧X'.n<512∧k v X':=by
 unfold storeS at h
 split at h
 ·rename_i r i j
  split at h
  ·rename_i R hR
   obtain ⟨hc,h⟩:=ifP_spec h
   simp only [Bool.and_eq_true,Nat.beq_eq,Nat.blt_eq] at hc
   obtain ⟨⟨⟨c1,c2⟩,c3⟩,c4⟩:=hc
   have hr:=XS.row_lt hR
   have e3:x.den.cells.length=P.cellsOf t:=by rw [den_cells,denL_length]; exact c3
   split at h
   ·obtain ⟨hd,h5⟩:=ifP_spec h
    simp only [Bool.and_eq_true,Nat.beq_eq,Nat.ble_eq] at hd
    obtain ⟨⟨d1,d2⟩,d3⟩:=hd
    subst d1
    have d3:j+P.cellsOf t≤R.sz:=d3
    obtain ⟨y,hy,h6⟩:=putV_spec h5
    rw [forceNat_eq] at h6
    refine ⟨.any,X.set r (some (SRow.v R.sz y)),⟨R.den,X.row_get hR,by show 0<R.els.length; rw [els_length]; omega,c1,ok_den c2,e3,by omega,by rw [e3]; exact d3,rfl,?_⟩,hX,h6⟩
    rw [XS.set_den (by omega) hr]
    have h0:R.els=[(R.f 0).den]:=by simp [SRow.els,d2,List.range_succ]
    show X.den.set r (some (SRow.v R.sz y).den)=X.den.set r (some ⟨R.sz,R.els.set 0 (putEl (R.els.getD 0 .any) j x.den),R.obj⟩)
    rw [SRow.obj_n (R:=R) (by omega),SRow.v_den,h0,hy]; rfl
   ·rw [forceS_eq] at h
    split at h
    ·obtain ⟨d1,d2,d3,h5⟩:=h
     refine ⟨.any,X.set r (some ⟨R.sz,R.n,putL R.f i j x,false⟩),⟨R.den,X.row_get hR,by show i<R.els.length; rw [els_length]; exact d2,c1,ok_den c2,e3,by omega,by rw [e3]; exact d1,rfl,?_⟩,hX,h5⟩
     rw [XS.set_den (by omega) hr]
     simp only [denR,Option.map_some,SRow.den,SRow.els,SRow.obj_nv,SRow.obj_n (R:=R) (by omega)]
     rw [putL_den d2 d3]
    ·obtain ⟨d1,d2,d3,h5⟩:=h
     refine ⟨.any,X.set r (some ⟨R.sz,R.n,putR R.f i j x,false⟩),⟨R.den,X.row_get hR,by show i<R.els.length; rw [els_length]; exact d2,c1,ok_den c2,e3,by omega,by rw [e3]; exact d1,rfl,?_⟩,hX,h5⟩
     rw [XS.set_den (by omega) hr]
     simp only [denR,Option.map_some,SRow.den,SRow.els,SRow.obj_nv,SRow.obj_n (R:=R) (by omega)]
     rw [putR_den d2 d3]
  ·exact h.elim
 ·exact storeD_spec hX h
 ·exact h.elim

def rowsK (S n:Nat) (f:Nat→SV):SRow:=⟨S,n,f,false⟩
theorem rowsK_den (S n:Nat) (f:Nat→SV):(rowsK S n f).den=⟨S,(List.range n).map fun i=>(f i).den,none⟩:=rfl
theorem range_const {α:Type} (x:α):∀ n:Nat,(List.range n).map (fun _=>x)=List.replicate n x:=fun n=>by
 apply List.ext_getElem <;> simp
noncomputable def makeS (P:Program) (se:Option (TypeId × Nat)) (l c:SV) (X:XS) (k:KS):Prop:=match se,l,c with
 | some (e,S),.int _ n,.int _ m=>(match zeroS P e with
  | some z=>ifP (z.ok && Nat.beq z.cells.length S && roomS X) (0≤n∧n≤m∧m≤1048576∧m*P.bytesOf e≤140737488355328∧k (.sl X.n 0 n.toNat) (X.push (some (rowsK S n.toNat fun _=>z))))
  | none=>False)
 | _,_,_=>False
theorem XS.push_lt {X:XS} (h:roomS X=true) (x:Option SRow):(X.push x).n<512:=by
 have hr:X.n<510:=by simpa [roomS,Nat.blt_eq] using h
 show X.n+1<512; omega
theorem makeS_spec {t l c X} {k:KS} (h:makeS P (slElem P t) l c X k):∃ (v:SV) (X':XS),aMakeSlice P t l.den c.den X.den v.den X'.den∧X'.n<512∧k v X':=by
 unfold makeS at h
 split at h
 ·rename_i e S _ n _ m hse
  obtain ⟨hu,hk,hS⟩:=slElem_spec hse
  simp only at hu hk hS
  split at h
  ·rename_i z hz
   obtain ⟨hc,h1,h2,h3,h4,h⟩:=ifP_spec h
   simp only [Bool.and_eq_true,Nat.beq_eq] at hc
   obtain ⟨⟨c1,c2⟩,c3⟩:=hc
   refine ⟨_,_,⟨e,z.den,_,n,_,m,hu,hk,zeroS_spec hz,ok_den c1,by rw [den_cells,denL_length,c2,hS],rfl,rfl,h1,h2,by omega,h4,?_,?_⟩,XS.push_lt c3 _,h⟩
   ·rw [XS.length]; rfl
   ·rw [XS.push_den (roomS_spec c3)]
    simp only [denR,Option.map_some,rowsK_den,range_const,hS]
  ·exact h.elim
 ·exact h.elim

noncomputable def allSV (p:SV→Bool) (l:List SV):Bool:=List.rec (motive:=fun _=>Bool) true (fun x _ ih=>and (p x) ih) l
theorem allSV_spec {p:SV→Bool}:∀ {l:List SV},allSV p l=true→∀ x ∈ l,p x=true
 | [],_,x,hx=>by cases hx
 | y :: l,h,x,hx=>by
  have h:(p y && allSV p l)=true:=h
  simp only [Bool.and_eq_true] at h
  rcases List.mem_cons.1 hx with rfl | hx
  ·exact h.1
  ·exact allSV_spec h.2 x hx
noncomputable def chainF:List SV→Nat→SV
 | [],_=>.any
 | [x],_=>x
 | x :: y :: l,i=>sel (i=0) (Nat.decEq i 0) x (chainF (y :: l) (i - 1))
def okChain:List SV→Prop
 | x :: y :: l=>(∀ i,selOK x (chainF (y :: l) i)=true)∧okChain (y :: l)
 | _=>True
theorem chainF_den:∀ (l:List SV),okChain l→∀ i,i<l.length→(chainF l i).den=(l.getD i .any).den
 | [],_,i,hi=>by simp at hi
 | [x],_,i,hi=>by
  have:i=0:=by simp at hi; omega
  subst this; rfl
 | x :: y :: l,h,i,hi=>by
  rw [chainF,sel_den _ _ _ _ (h.1 _)]
  cases i with
  | zero=>simp
  | succ i =>
   rw [if_neg (by omega),Nat.add_sub_cancel,chainF_den (y :: l) h.2 i (by simpa using hi)]; simp
noncomputable def chainK (l:List SV) (k:(Nat→SV)→Prop):Prop:=match l with
 | []=>k fun _=>.any
 | x :: r=>(match allSV (selOK x) r with
  | true=>okChain (x :: r)∧k (chainF (x :: r))
  | false=>k fun i=>List.getD (x :: r) i .any)
theorem getD_map (l:List SV):((List.range l.length).map fun i=>(l.getD i .any).den)=l.map SV.den:=by
 apply List.ext_getElem
 ·simp
 ·intro i a b
  simp at a b
  simp [List.getD,b]
theorem chainK_spec {l:List SV} {k:(Nat→SV)→Prop} (h:chainK l k):∃ f:Nat→SV,((List.range l.length).map fun i=>(f i).den)=l.map SV.den∧k f:=by
 unfold chainK at h
 split at h
 ·exact ⟨_,by simp,h⟩
 ·rename_i x r
  split at h
  ·refine ⟨_,?_,h.2⟩
   rw [← getD_map]
   apply List.map_congr_left
   intro i hi
   exact chainF_den _ h.1 i (by simpa using hi)
  ·exact ⟨_,getD_map _,h⟩
noncomputable def litS (P:Program) (se:Option (TypeId × Nat)) (len:Nat) (is:List Nat) (xs:List SV) (X:XS) (k:KS):Prop:=match se with
 | some (e,S)=>(match zeroS P e with
  | some z=>ifP (Nat.ble (Nat.mul len S) 16777216 && decide (is=List.range len) && allSV SV.ok xs && allSV (fun x=>Nat.beq x.cells.length S) xs && Nat.beq xs.length len)
   (match len with
   | 0=>ifP (roomS X) (k (.sl X.n 0 0) (X.push (some (rowsK S 0 fun _=>z))))
   | _=>forceC xs fun xs=>chainK xs fun f=>k (.lst S len f) X)
  | none=>False)
 | none=>False
theorem litS_spec {t len X} {parts:List (Nat × SV)} {k:KS} (hX:X.n<512) (h:litS P (slElem P t) len (parts.map (·.1)) (parts.map (·.2)) X k):∃ (v:SV) (X':XS),aLit P t len (parts.map fun p=>(p.1,p.2.den)) X.den v.den X'.den∧X'.n<512∧k v X':=by
 unfold litS at h
 split at h
 ·rename_i e S hse
  obtain ⟨hu,hk,hS⟩:=slElem_spec hse
  simp only at hu hk hS
  split at h
  ·rename_i z hz
   obtain ⟨hc,h⟩:=ifP_spec h
   simp only [Bool.and_eq_true,Nat.beq_eq,Nat.ble_eq,decide_eq_true_eq] at hc
   obtain ⟨⟨⟨⟨c1,c2⟩,c3⟩,c4⟩,c5⟩:=hc
   have c1:len*S≤16777216:=c1
   have a1:((parts.map fun p=>(p.1,p.2.den)).map (·.1))=List.range len:=by rw [← c2]; simp
   have a2:((parts.map fun p=>(p.1,p.2.den)).all fun p=>p.2.ok)=true:=by
    simp only [List.all_map,List.all_eq_true]
    intro p hp
    exact ok_den (allSV_spec c3 _ (List.mem_map.2 ⟨p,hp,rfl⟩))
   have a3:((parts.map fun p=>(p.1,p.2.den)).all fun p=>p.2.cells.length == P.cellsOf e)=true:=by
    simp only [List.all_map,List.all_eq_true]
    intro p hp
    have:=allSV_spec c4 _ (List.mem_map.2 ⟨p,hp,rfl⟩)
    simp only [Nat.beq_eq] at this
    simp [den_cells,denL_length,this,hS]
   split at h
   ·obtain ⟨c6,h⟩:=ifP_spec h
    refine ⟨_,_,⟨e,z.den,hu,hk,zeroS_spec hz,by rw [← hS]; exact c1,a1,a2,a3,.inl ⟨rfl,?_,?_⟩⟩,XS.push_lt c6 _,h⟩
    ·rw [XS.length]; rfl
    ·rw [XS.push_den (roomS_spec c6)]
     simp [denR,rowsK_den,hS]
   ·rename_i n hn
    rw [forceC_eq] at h
    obtain ⟨f,hf,h⟩:=chainK_spec h
    refine ⟨_,_,⟨e,z.den,hu,hk,zeroS_spec hz,by rw [← hS]; exact c1,a1,a2,a3,.inr ⟨fun h0=>hn h0,?_,rfl⟩⟩,hX,h⟩
    simp only [SV.den]
    rw [← c5,hf,hS]; simp
  ·exact h.elim
 ·exact h.elim

noncomputable def elemsS (S:Nat) (X:XS) (x:SV) (k:Nat→(Nat→SV)→Prop):Prop:=match x with
 | .lst sz n f=>ifP (Nat.beq sz S) (k n f)
 | .sl r o m=>(match X.row r with
  | some R=>ifP (Nat.beq R.sz S) (o+m≤R.n∧k m fun i=>R.f (i+o))
  | none=>False)
 | .val (.slice none 0 0)=>k 0 fun _=>.any
 | _=>False
theorem elemsS_spec {S:Nat} {X:XS} {x:SV} {k:Nat→(Nat→SV)→Prop} (h:elemsS S X x k):∃ n f,elemsOf S X.den x.den=some ((List.range n).map fun i=>(f i).den)∧k n f:=by
 unfold elemsS at h
 split at h
 ·rename_i sz n f
  obtain ⟨h1,h⟩:=ifP_spec h
  simp only [Nat.beq_eq] at h1
  exact ⟨n,f,by simp [SV.den,elemsOf,h1],h⟩
 ·rename_i r o m
  split at h
  ·rename_i R hR
   obtain ⟨h1,h2,h⟩:=ifP_spec h
   simp only [Nat.beq_eq] at h1
   refine ⟨m,_,?_,h⟩
   simp only [SV.den,elemsOf,X.row_get hR]
   rw [if_pos ⟨by show o+m≤R.els.length; rw [els_length]; exact h2,h1⟩]
   congr 1
   apply List.ext_getElem
   ·simp [SRow.den,els_length]; omega
   ·intro i a b
    simp at b
    simp [SRow.den,SRow.els,Nat.add_comm o i]
  ·exact h.elim
 ·exact ⟨0,_,rfl,h⟩
 ·exact h.elim
noncomputable def appF (n:Nat) (f g:Nat→SV):Nat→SV:=fun i=>sel (i<n) (Nat.decLt i n) (f i) (g (i - n))
theorem appF_den {n m:Nat} {f g:Nat→SV} (h:∀ i,selOK (f i) (g (i - n))=true) :
  ((List.range (n+m)).map fun i=>(appF n f g i).den)=((List.range n).map fun i=>(f i).den) ++ ((List.range m).map fun i=>(g i).den):=by
 apply List.ext_getElem
 ·simp
 ·intro i a b
  simp at a
  simp only [List.getElem_map,List.getElem_range,List.getElem_append,List.length_map,List.length_range,appF]
  rw [sel_den _ _ _ _ (h i)]
  by_cases hi:i<n
  ·simp [hi]
  ·simp [hi]
def hasSl:SV→Bool
 | .agg c=>go c
 | _=>false
where go:List SV→Bool
 | []=>false
 | .sl .. :: _=>true
 | _ :: xs=>go xs
noncomputable def appP (n m:Nat) (f g:Nat→SV):Nat→SV:=fun i=>match Nat.beq i 9223372036854775808 with
 | true=>.tup [.lst 0 n f,.lst 0 m g]
 | false=>if i<n then f i else g (i - n)
theorem appP_lo {n m:Nat} {f g:Nat→SV} {i:Nat} (h:n+m≤4611686018427387904) (hi:i<n):appP n m f g i=f i:=by
 unfold appP
 have:Nat.beq i 9223372036854775808=false:=by
  cases hb:Nat.beq i 9223372036854775808 with
  | true=>have:=Nat.eq_of_beq_eq_true hb; omega
  | false=>rfl
 rw [this]
 exact if_pos hi
theorem appP_hi {n m:Nat} {f g:Nat→SV} {i:Nat} (h:n+m≤4611686018427387904) (hi:i<m):appP n m f g (n+i)=g i:=by
 unfold appP
 have:Nat.beq (n+i) 9223372036854775808=false:=by
  cases hb:Nat.beq (n+i) 9223372036854775808 with
  | true=>have:=Nat.eq_of_beq_eq_true hb; omega
  | false=>rfl
 rw [this]
 show (if n+i<n then f (n+i) else g (n+i - n))=_
 rw [if_neg (by omega),Nat.add_sub_cancel_left]
theorem appP_den {n m:Nat} {f g:Nat→SV} (h:n+m≤4611686018427387904) :
  ((List.range (n+m)).map fun i=>(appP n m f g i).den)=((List.range n).map fun i=>(f i).den) ++ ((List.range m).map fun i=>(g i).den):=by
 apply List.ext_getElem
 ·simp
 ·intro i a b
  simp at a
  simp only [List.getElem_map,List.getElem_range,List.getElem_append,List.length_map,List.length_range]
  by_cases hi:i<n
  ·simp [hi,appP_lo h hi]
  ·rw [dif_neg hi]
   have e:i=n+(i - n):=by omega
   rw [e,appP_hi h (by omega),Nat.add_sub_cancel_left]
def isSl:SV→Bool
 | .sl ..=>true
 | .lst ..=>true
 | .agg c=>hasSl (.agg c)
 | _=>false
noncomputable def baseS (S:Nat) (X:XS) (s:SV) (m:Nat) (g:Nat→SV) (k:SRow→Nat→XS→Prop):Prop:=match s with
 | .sl r o n=>(match X.row r with
  | some R=>ifP (Nat.beq R.sz S) (o=0∧R.n=n∧(match isSl (g 0) with
   | true=>n+m≤4611686018427387904∧k (rowsK S (n+m) (appP n m R.f g)) (n+m) (X.set r none)
   | false=>(match selOK (R.f 0) (g 0) with
    | true=>(∀ i,selOK (R.f i) (g (i - n))=true)∧k (rowsK S (n+m) (appF n R.f g)) (n+m) (X.set r none)
    | false=>(match Nat.beq n 0 with
     | true=>n=0∧k (rowsK S m g) m (X.set r none)
     | false=>n+m≤4611686018427387904∧k (rowsK S (n+m) (appP n m R.f g)) (n+m) (X.set r none)))))
  | none=>False)
 | .val (.slice none 0 0)=>k (rowsK S m g) m X
 | _=>False
theorem baseS_spec {S:Nat} {X:XS} {s:SV} {m:Nat} {g:Nat→SV} {k:SRow→Nat→XS→Prop} (hX:X.n<512) (h:baseS S X s m g k) (x:AV) :
  ∃ els R n X1,baseOf S X.den x s.den=some (els,XS.den X1)∧X1.n=X.n∧R.den=⟨S,els ++ ((List.range m).map fun i=>(g i).den),none⟩∧n=els.length+m∧k R n X1:=by
 unfold baseS at h
 split at h
 ·rename_i r o n
  split at h
  ·rename_i R hR
   obtain ⟨h1,h2,h3,h⟩:=ifP_spec h
   simp only [Nat.beq_eq] at h1
   have hr:=XS.row_lt hR
   have base:baseOf S X.den x (SV.sl r o n).den=some (R.els,XS.den (X.set r none)):=by
    simp only [SV.den,baseOf,X.row_get hR]
    have hlen:R.els.length=n:=by rw [els_length,h3]
    have hden:R.den.els=R.els:=rfl
    rw [if_pos ⟨by rw [hden,hlen,h2]; omega,h1⟩,XS.set_den (by omega) hr,hden,h2,List.drop_zero,List.take_of_length_le (by omega)]; rfl
   split at h
   ·obtain ⟨h4,h⟩:=h
    refine ⟨R.els,_,_,X.set r none,base,rfl,?_,by rw [els_length,h3],h⟩
    rw [rowsK_den,appP_den h4,SRow.els,h3]
   ·split at h
    ·obtain ⟨h4,h⟩:=h
     refine ⟨R.els,_,_,X.set r none,base,rfl,?_,by rw [els_length,h3],h⟩
     rw [rowsK_den,appF_den h4,SRow.els,h3]
    ·split at h
     ·obtain ⟨h4,h⟩:=h
      have e0:R.els=[]:=List.length_eq_zero_iff.1 (by rw [els_length,h3,h4])
      refine ⟨R.els,_,_,X.set r none,base,rfl,?_,by rw [e0]; simp,h⟩
      rw [rowsK_den,e0,List.nil_append]
     ·obtain ⟨h4,h⟩:=h
      refine ⟨R.els,_,_,X.set r none,base,rfl,?_,by rw [els_length,h3],h⟩
      rw [rowsK_den,appP_den h4,SRow.els,h3]
  ·exact h.elim
 ·exact ⟨[],_,_,X,rfl,rfl,by rw [rowsK_den]; rfl,by simp,h⟩
 ·exact h.elim
noncomputable def appendS (P:Program) (se:Option (TypeId × Nat)) (s x:SV) (X:XS) (k:KS):Prop:=match se with
 | some (e,S)=>(match zeroS P e with
  | some z=>ifP (z.ok && Nat.beq z.cells.length S && roomS X) (elemsS S X x fun m g=>(∀ i,i<m→(g i).ok=true)∧baseS S X s m g fun R n X1 =>
    n*P.bytesOf e≤140737488355328∧n≤4611686018427387904∧k (.sl X.n 0 n) (X1.push (some R)))
  | none=>False)
 | none=>False
theorem appendS_spec {t s x X} {k:KS} (h:appendS P (slElem P t) s x X k):∃ (v:SV) (X':XS),aAppend P t s.den x.den X.den v.den X'.den∧X'.n<512∧k v X':=by
 unfold appendS at h
 split at h
 ·rename_i e S hse
  obtain ⟨hu,hk,hS⟩:=slElem_spec hse
  simp only at hu hk hS
  split at h
  ·rename_i z hz
   obtain ⟨hc,h⟩:=ifP_spec h
   simp only [Bool.and_eq_true,Nat.beq_eq] at hc
   obtain ⟨⟨c1,c2⟩,c3⟩:=hc
   obtain ⟨m,g,h1,h2,h⟩:=elemsS_spec h
   obtain ⟨els,R,n,X1,h3,h4,h5,h6,h7,h8,h9⟩:=baseS_spec (roomS_spec c3) h x.den
   have hr:X.n<510:=by simpa [roomS,Nat.blt_eq] using c3
   subst hS
   refine ⟨_,_,⟨e,z.den,els,X1.den,_,hu,hk,zeroS_spec hz,ok_den c1,by rw [den_cells,denL_length,c2],h3,h1,?_,by simp only [List.length_map,List.length_range]; rw [← h6]; exact h7,by simp only [List.length_map,List.length_range]; rw [← h6]; exact h8,?_,?_⟩,?_,h9⟩
   ·simp only [List.all_map,List.all_eq_true]
    intro i hi
    exact ok_den (h2 i (by simpa using hi))
   ·rw [XS.length]; simp [SV.den,h6]
   ·rw [XS.push_den (by omega),denR,Option.map_some,h5]
   ·show X1.n+1<512; omega
  ·exact h.elim
 ·exact h.elim
end Go.Lg

namespace Go.Lg
open Go.RowKit
variable {P:Program}

def mvZ (K:IntKind) (g:Nat→Int) (j q:Nat):List SV→Nat→List SV
 | [],_=>[]
 | x :: xs,b=>.int K (if j≤b∧b<j+q then g b else numZ x) :: mvZ K g j q xs (b+1)
theorem mvZ_length {K:IntKind} {g:Nat→Int} {j q:Nat}:∀ {cs:List SV} {b:Nat},(mvZ K g j q cs b).length=cs.length
 | [],_=>rfl
 | x :: xs,b=>by simp only [mvZ,List.length_cons,mvZ_length]
theorem mvZ_get {K:IntKind} {g:Nat→Int} {j q:Nat}:∀ {cs:List SV} {b i:Nat},i<cs.length→(mvZ K g j q cs b)[i]?=some (.int K (if j≤b+i∧b+i<j+q then g (b+i) else cellZ cs i))
 | [],_,_,h=>by simp at h
 | x :: xs,b,0,h=>rfl
 | x :: xs,b,i+1,h=>by
  simp only [mvZ,List.getElem?_cons_succ]
  rw [mvZ_get (by simpa using h)]
  simp only [cellZ,show b+1+i=b+(i+1) by omega]
theorem denL_getE {l:List SV} {i:Nat}:(SV.denL l)[i]?=l[i]?.map SV.den:=by rw [denL_eq,List.getElem?_map]
theorem mvZ_den {K:IntKind} {g:Nat→Int} {j q:Nat} {cs:List SV} {ys:List AV} (h:allInt K cs=true) (hj:j+q≤cs.length) (hy:ys.length=q) (hg:∀ i,i<q→ys[i]?=some (.sc (.int K (g (j+i))))) :
  SV.denL (mvZ K g j q cs 0)=(SV.denL cs).take j ++ ys ++ (SV.denL cs).drop (j+ys.length):=by
 apply List.ext_getElem?
 intro i
 rw [denL_getE]
 by_cases hi:i<cs.length
 ·rw [mvZ_get hi,Nat.zero_add]
  have hc:(SV.denL cs)[i]?=some (.sc (.int K (cellZ cs i))):=by rw [denL_getE,allInt_get h i hi]; rfl
  have hl:((SV.denL cs).take j).length=j:=by simp [denL_length]; omega
  by_cases h1:i<j
  ·rw [if_neg (by omega),List.append_assoc,List.getElem?_append_left (by omega),List.getElem?_take_of_lt h1,hc]; rfl
  ·by_cases h2:i<j+q
   ·rw [if_pos ⟨by omega,h2⟩,List.append_assoc,List.getElem?_append_right (by omega),hl,List.getElem?_append_left (by omega),hg _ (by omega)]
    rw [show j+(i - j)=i by omega]; rfl
   ·rw [if_neg (by omega),List.getElem?_append_right (by simp; omega)]
    rw [List.getElem?_drop]
    simp only [List.length_append,hl,hy]
    rw [show j+q+(i - (j+q))=i by omega,hc]; rfl
 ·rw [List.getElem?_eq_none (by rw [mvZ_length]; omega)]
  rw [List.getElem?_eq_none (by simp [denL_length]; omega)]
  rfl
theorem setDen {X:XS} {r:Nat} {R:SRow} {S:Nat} {a b:List SV} (hX:X.n<512) (hR:X.row r=some R) (h:SV.denL a=SV.denL b):(X.set r (some (SRow.v S (.agg b)))).den=(X.set r (some (SRow.v S (.agg a)))).den:=by
 rw [XS.set_den (by omega) (XS.row_lt hR),XS.set_den (by omega) (XS.row_lt hR)]
 simp only [denR,Option.map_some,SRow.v_den,SV.den,h]
noncomputable def nthZ (l:List SV) (i:Nat) (k:Int→Prop) (d:Prop):Prop :=
 List.rec (motive:=fun _=>Nat→Prop) (fun _=>d) (fun x _ ih i=>Nat.rec (motive:=fun _=>Prop) (ofInt x k) (fun m _=>ih m) i) l i
theorem nthZ_spec {k:Int→Prop} {d:Prop}:∀ {l:List SV} {i:Nat},nthZ l i k d→(i<l.length∧k (cellZ l i))∨(l.length≤i∧d)
 | [],i,h=>.inr ⟨Nat.zero_le _,h⟩
 | x :: l,0,h=>by
  have h:ofInt x k:=h
  obtain ⟨K,z,hx,h2⟩:=ofInt_spec h
  subst hx
  exact .inl ⟨Nat.zero_lt_succ _,h2⟩
 | x :: l,i+1,h=>by
  rcases nthZ_spec (l:=l) (i:=i) h with ⟨h1,h2⟩ | ⟨h1,h2⟩
  ·exact .inl ⟨by simpa using h1,h2⟩
  ·exact .inr ⟨by simpa using h1,h2⟩
noncomputable def mvK (K:IntKind) (src:Nat→(Int→Prop)→Prop→Prop) (j q:Nat):List SV→Nat→(List SV→Prop)→Prop :=
 List.rec (motive:=fun _=>Nat→(List SV→Prop)→Prop) (fun _ k=>k []) (fun x _ ih b k=>ofInt x fun z=>src b (fun zs=>forceNat (Nat.succ b) fun b'=>ih b' fun l=>k (.int K (if j≤b∧b<j+q then zs else z) :: l)) (forceNat (Nat.succ b) fun b'=>ih b' fun l=>k (.int K z :: l)))
theorem mvK_spec {K:IntKind} {src:Nat→(Int→Prop)→Prop→Prop} {j q:Nat} {g:Nat→Int} (hs:∀ b kk d,src b kk d→(∃ zs,kk zs∧(j≤b∧b<j+q→zs=g b))∨(d∧¬ (j≤b∧b<j+q))) :
  ∀ {cs:List SV} {b:Nat} {k:List SV→Prop},mvK K src j q cs b k→∃ l,SV.denL l=SV.denL (mvZ K g j q cs b)∧k l
 | [],b,k,h=>⟨[],rfl,h⟩
 | x :: cs,b,k,h=>by
  have h:ofInt x fun z=>src b (fun zs=>forceNat (Nat.succ b) fun b'=>mvK K src j q cs b' fun l=>k (.int K (if j≤b∧b<j+q then zs else z) :: l)) (forceNat (Nat.succ b) fun b'=>mvK K src j q cs b' fun l=>k (.int K z :: l)):=h
  obtain ⟨K',z,hx,h2⟩:=ofInt_spec h
  subst hx
  clear h
  ·rcases hs _ _ _ h2 with ⟨zs,h1,h2⟩ | ⟨h1,h2⟩
   ·rw [forceNat_eq] at h1
    obtain ⟨l,h3,h4⟩:=mvK_spec hs h1
    refine ⟨_,?_,h4⟩
    simp only [mvZ,SV.denL,h3,numZ]
    by_cases hc:j≤b∧b<j+q
    ·rw [h2 hc]
    ·rw [if_neg hc,if_neg hc]
   ·rw [forceNat_eq] at h1
    obtain ⟨l,h3,h4⟩:=mvK_spec hs h1
    refine ⟨_,?_,h4⟩
    simp only [mvZ,SV.denL,h3,numZ]
    rw [if_neg h2]
noncomputable def cpSrc (cs:List SV) (j j2:Nat) (b:Nat) (kk:Int→Prop) (d:Prop):Prop:=match Nat.ble j b with
 | true=>nthZ cs (Nat.add (Nat.sub b j) j2) kk d
 | false=>d
theorem cpSrc_spec {cs:List SV} {j j2 q:Nat} (hq:j2+q≤cs.length) (b:Nat) (kk:Int→Prop) (d:Prop) (h:cpSrc cs j j2 b kk d):(∃ zs,kk zs∧(j≤b∧b<j+q→zs=cellZ cs (b - j+j2)))∨(d∧¬ (j≤b∧b<j+q)):=by
 unfold cpSrc at h
 split at h
 ·rename_i hb
  rcases nthZ_spec h with ⟨_,h2⟩ | ⟨h1,h2⟩
  ·exact .inl ⟨_,h2,fun _=>rfl⟩
  ·refine .inr ⟨h2,fun hc=>?_⟩
   have h1:cs.length≤b - j+j2:=h1
   omega
 ·rename_i hb
  refine .inr ⟨h,fun hc=>?_⟩
  have:Nat.ble j b=true:=by simpa [Nat.ble_eq] using hc.1
  rw [this] at hb; cases hb
noncomputable def copyB (S:Nat) (X:XS) (r i j sz n:Nat) (s:SV) (k:KS):Prop:=match s with
 | .sub r2 i2 j2 sz2 m=>ifP (Nat.beq r r2 && (Nat.beq sz 1 && (Nat.beq sz2 1 && (Nat.beq S 1 && (Nat.beq i 0 && Nat.beq i2 0))))) (match X.row r with
  | some R=>ifP (R.var && Nat.beq R.n 1) (match R.f 0 with
   | .agg cs=>(match kindOf cs with
    | some K=>ifP (allInt K cs && Nat.beq cs.length R.sz) (j+n≤cs.length∧j2+m≤cs.length∧mvK K (cpSrc cs j j2) j (min m n) cs 0 fun l=>k (.int .i64 (min m n:Nat)) (X.set r (some (SRow.v R.sz (.agg l)))))
    | none=>False)
   | _=>False)
  | none=>False)
 | _=>False
theorem row1_els {R:SRow} (h:R.n=1):R.els=[(R.f 0).den]:=by simp [SRow.els,h,List.range_succ]
theorem set_selfS {X:XS} {r:Nat} {R:SRow} (h:X.row r=some R):X.den.set r (some R.den)=X.den:=by
 have hg:=X.row_get h
 apply List.ext_getElem?
 intro i
 rw [List.getElem?_set]
 split
 ·rename_i he
  subst he
  rw [hg]; simp [(List.getElem?_eq_some_iff.1 hg).1]
 ·rfl
theorem dst_sub {X:XS} {r j n:Nat} {R:SRow} {cs:List SV} {K:IntKind} {g:Nat→Int} {xs:List AV} {ys:List AV} (hX:X.n<512) (hR:X.row r=some R) (c2:R.n=1) (hf:R.f 0=.agg cs) (ha:allInt K cs=true) (hl:cs.length=R.sz) (hj:j+n≤cs.length)
  (hxs:xs.flatMap AV.cells=ys) (hlen:xs.length≤n) (hy:ys.length=xs.length) (hg:∀ i,i<xs.length→ys[i]?=some (.sc (.int K (g (j+i))))) :
  dstA 1 X.den (.sub r 0 j 1 n) xs=some (XS.den (X.set r (some (SRow.v R.sz (.agg (mvZ K g j xs.length cs 0)))))):=by
 have hd:(X.set r (some (SRow.v R.sz (.agg (mvZ K g j xs.length cs 0))))).den=X.den.set r (some ⟨R.sz,[.agg (SV.denL (mvZ K g j xs.length cs 0))],none⟩):=by
  rw [XS.set_den (by omega) (XS.row_lt hR)]; simp [denR,SRow.v_den,SV.den]
 have hmv:=mvZ_den (g:=g) (j:=j) (q:=xs.length) (ys:=ys) ha (by omega) hy (fun i hi=>hg i hi)
 have hels:R.els=[.agg (SV.denL cs)]:=by rw [row1_els c2,hf]; rfl
 rw [hd,hmv]
 simp only [dstA,X.row_get hR]
 have e0:(SRow.den R).els=R.els:=rfl
 rw [if_pos ⟨by first | rfl | trivial,by omega,by rw [e0,hels]; simp,by show j+n*1≤R.sz; omega,hlen⟩]
 by_cases hx:xs=[]
 ·subst hx
  have hy0:ys=[]:=by rw [← hxs]; rfl
  subst hy0
  rw [if_pos rfl]
  congr 1
  have e:([AV.agg ((SV.denL cs).take j ++ [] ++ (SV.denL cs).drop (j+0))]:List AV)=R.els:=by rw [hels]; simp
  rw [show (([]:List AV)).length=0 from rfl,e]
  have hh:=(set_selfS hR).symm
  rw [SRow.den_n (R:=R) (by omega)] at hh
  exact hh
 ·rw [if_neg hx,hxs]
  have e0:(SRow.den R).els=R.els:=rfl
  have e1:(SRow.den R).sz=R.sz:=rfl
  have e2:(SRow.den R).ob=none:=SRow.obj_n (by omega)
  rw [e0,e1,e2,hels]
  simp [putEl,AV.cells]
theorem copyB_spec {t e:TypeId} {S:Nat} {X:XS} {r i j sz n:Nat} {s:SV} {k:KS} (hX:X.n<512) (hu:P.underlying t=some (.slice e)) (hk:known P e=true) (hS:P.cellsOf e=S) (h:copyB S X r i j sz n s k) :
  ∃ (v:SV) (X':XS),aCopy P t (SV.sub r i j sz n).den s.den X.den v.den X'.den∧X'.n<512∧k v X':=by
 unfold copyB at h
 split at h
 ·rename_i r2 i2 j2 sz2 m
  obtain ⟨hc,g⟩:=ifP_spec h
  clear h
  simp only [Bool.and_eq_true,Nat.beq_eq] at hc
  obtain ⟨rfl,rfl,rfl,rfl,rfl,rfl⟩:=hc
  split at g
  ·rename_i R hR
   obtain ⟨hc,h⟩:=ifP_spec g
   clear g
   simp only [Bool.and_eq_true,Nat.beq_eq] at hc
   obtain ⟨c1,c2⟩:=hc
   split at h
   ·rename_i cs hf
    split at h
    ·rename_i K hK
     obtain ⟨hc,h1,h2,h3⟩:=ifP_spec h
     obtain ⟨lc,elc,h3⟩:=mvK_spec (g:=fun b=>cellZ cs (b - j+j2)) (cpSrc_spec (by omega)) h3
     simp only [Bool.and_eq_true,Nat.beq_eq] at hc
     obtain ⟨ha,hl⟩:=hc
     have hels:R.els=[.agg (SV.denL cs)]:=by rw [row1_els c2,hf]; rfl
     have hL:elemsOf 1 X.den (SV.sub r 0 j2 1 m).den=some ((List.range m).map fun k=>.agg (((SV.denL cs).drop (j2+k*1)).take 1)):=by
      simp only [SV.den,elemsOf,X.row_get hR]
      have e0:(SRow.den R).els=R.els:=rfl
      rw [if_pos ⟨by first | rfl | trivial,by rw [e0,hels]; simp,by show j2+m*1≤R.sz; omega⟩,e0,hels]
      rfl
     have hone:∀ k,k<m→((SV.denL cs).drop (j2+k*1)).take 1=[.sc (.int K (cellZ cs (j2+k)))]:=fun k hk=>by
      have hh:(SV.denL cs)[j2+k]?=some (.sc (.int K (cellZ cs (j2+k)))):=by rw [denL_getE,allInt_get ha _ (by omega)]; rfl
      obtain ⟨h4,h5⟩:=List.getElem?_eq_some_iff.1 hh
      rw [Nat.mul_one,List.drop_eq_getElem_cons h4,h5]; rfl
     refine ⟨_,_,⟨e,n,_,hu,hk,rfl,by rw [hS]; exact hL,?_,?_,?_⟩,?_,h3⟩
     ·rw [List.all_eq_true]
      intro x hx
      obtain ⟨k',hk',rfl⟩:=List.mem_map.1 hx
      rw [hone k' (by simpa using hk')]
      rfl
     ·rw [hS]
      have hlx:(((List.range m).map fun k=>AV.agg (((SV.denL cs).drop (j2+k*1)).take 1)).take n).length=min m n:=by simp [Nat.min_comm]
      have hxs:(((List.range m).map fun k=>AV.agg (((SV.denL cs).drop (j2+k*1)).take 1)).take n).flatMap AV.cells=(List.range (min m n)).map fun k=>.sc (.int K (cellZ cs (j2+k))):=by
       rw [← List.map_take,List.take_range,List.flatMap_map,Nat.min_comm]
       have:∀ l:List Nat,(∀ x ∈ l,x<m)→l.flatMap (fun a=>AV.cells (AV.agg (((SV.denL cs).drop (j2+a*1)).take 1)))=l.map fun k=>.sc (.int K (cellZ cs (j2+k))):=by
        intro l
        induction l with
        | nil=>intro _; rfl
        | cons a l ih =>
         intro hh
         rw [List.flatMap_cons,ih (fun x hx=>hh x (by simp [hx])),List.map_cons]
         rw [hone a (hh a (by simp))]; rfl
       exact this _ (fun x hx=>by have:=List.mem_range.1 hx; omega)
      have:=dst_sub (g:=fun b=>cellZ cs (b - j+j2)) (j:=j) (n:=n) hX hR c2 hf ha hl h1 hxs (by rw [hlx]; omega) (by rw [hlx]; simp) (fun i hi=>by
       rw [hlx] at hi
       rw [List.getElem?_map,List.getElem?_range hi]
       simp only [Option.map_some]
       rw [show j+i - j+j2=j2+i by omega])
      rw [hlx] at this
      exact this.trans (by rw [setDen hX hR elc])
     ·simp [SV.den]
     ·exact hX
    ·exact h.elim
   ·exact h.elim
  ·exact g.elim
 ·exact h.elim
noncomputable def mvN (K:IntKind) (cs:List SV) (j j2 q:Nat):List SV→Nat→(List SV→Prop)→Prop :=
 List.rec (motive:=fun _=>Nat→(List SV→Prop)→Prop) (fun _ k=>k []) (fun x _ ih b k=>match and (Nat.ble j b) (Nat.blt b (Nat.add j q)) with
  | true=>nthZ cs (Nat.add (Nat.sub b j) j2) (fun z=>forceNat (Nat.succ b) fun b'=>ih b' fun l=>k (.int K z :: l)) False
  | false=>ofInt x fun z=>forceNat (Nat.succ b) fun b'=>ih b' fun l=>k (.int K z :: l))
theorem mvN_spec {K:IntKind} {cs0:List SV} {j j2 q:Nat}:∀ {cs:List SV} {b:Nat} {k:List SV→Prop},mvN K cs0 j j2 q cs b k→∃ l,SV.denL l=SV.denL (mvZ K (fun b=>cellZ cs0 (b - j+j2)) j q cs b)∧k l
 | [],b,k,h=>⟨[],rfl,h⟩
 | x :: cs,b,k,h=>by
  have h:(match and (Nat.ble j b) (Nat.blt b (Nat.add j q)) with
   | true=>nthZ cs0 (Nat.add (Nat.sub b j) j2) (fun z=>forceNat (Nat.succ b) fun b'=>mvN K cs0 j j2 q cs b' fun l=>k (.int K z :: l)) False
   | false=>ofInt x fun z=>forceNat (Nat.succ b) fun b'=>mvN K cs0 j j2 q cs b' fun l=>k (.int K z :: l)):=h
  split at h
  ·rename_i hc
   have hc:(Nat.ble j b && Nat.blt b (Nat.add j q))=true:=hc
   simp only [Bool.and_eq_true,Nat.ble_eq,Nat.blt_eq] at hc
   have hc:j≤b∧b<j+q:=hc
   rcases nthZ_spec h with ⟨_,h2⟩ | ⟨_,h2⟩
   ·rw [forceNat_eq] at h2
    obtain ⟨l,h3,h4⟩:=mvN_spec h2
    refine ⟨_,?_,h4⟩
    simp only [mvZ,SV.denL,h3]
    rw [if_pos hc]; rfl
   ·exact h2.elim
  ·rename_i hc
   obtain ⟨K',z,hx,h2⟩:=ofInt_spec h
   clear h
   subst hx
   rw [forceNat_eq] at h2
   obtain ⟨l,h3,h4⟩:=mvN_spec h2
   refine ⟨_,?_,h4⟩
   have hn:¬ (j≤b∧b<j+q):=fun hh=>by
    have:(Nat.ble j b && Nat.blt b (Nat.add j q))=true:=by
     simp only [Bool.and_eq_true,Nat.ble_eq,Nat.blt_eq]; exact hh
    rw [show and (Nat.ble j b) (Nat.blt b (Nat.add j q))=true from this] at hc
    cases hc
   simp only [mvZ,SV.denL,h3,numZ]
   rw [if_neg hn]
noncomputable def copyN (S:Nat) (X:XS) (d s:SV) (k:KS):Prop:=match d with
 | .sub r i j sz n=>(match s with
  | .sub r2 i2 j2 sz2 m=>forceNat n fun n=>forceNat m fun m=>forceNat (min m n) fun q=>ifP (Nat.beq r r2 && (Nat.beq sz 1 && (Nat.beq sz2 1 && (Nat.beq S 1 && (Nat.beq i 0 && Nat.beq i2 0))))) (match X.row r with
   | some R=>ifP (R.var && Nat.beq R.n 1) (match R.f 0 with
    | .agg cs=>(match kindOf cs with
     | some K=>ifP (allInt K cs && Nat.beq cs.length R.sz) (j+n≤cs.length∧j2+m≤cs.length∧mvN K cs j j2 q cs 0 fun l=>k (.int .i64 (min m n:Nat)) (X.set r (some (SRow.v R.sz (.agg l)))))
     | none=>False)
    | _=>False)
   | none=>False)
  | _=>False)
 | _=>False
theorem copyN_spec {t e:TypeId} {S:Nat} {X:XS} {r i j sz n:Nat} {s:SV} {k:KS} (hX:X.n<512) (hu:P.underlying t=some (.slice e)) (hk:known P e=true) (hS:P.cellsOf e=S) (h:copyN S X (.sub r i j sz n) s k) :
  ∃ (v:SV) (X':XS),aCopy P t (SV.sub r i j sz n).den s.den X.den v.den X'.den∧X'.n<512∧k v X':=by
 unfold copyN at h
 simp only at h
 split at h
 ·rename_i r2 i2 j2 sz2 m
  rw [forceNat_eq,forceNat_eq,forceNat_eq] at h
  obtain ⟨hc,g⟩:=ifP_spec h
  clear h
  simp only [Bool.and_eq_true,Nat.beq_eq] at hc
  obtain ⟨rfl,rfl,rfl,rfl,rfl,rfl⟩:=hc
  split at g
  ·rename_i R hR
   obtain ⟨hc,h⟩:=ifP_spec g
   clear g
   simp only [Bool.and_eq_true,Nat.beq_eq] at hc
   obtain ⟨c1,c2⟩:=hc
   split at h
   ·rename_i cs hf
    split at h
    ·rename_i K hK
     obtain ⟨hc,h1,h2,h3⟩:=ifP_spec h
     obtain ⟨lc,elc,h3⟩:=mvN_spec h3
     simp only [Bool.and_eq_true,Nat.beq_eq] at hc
     obtain ⟨ha,hl⟩:=hc
     have hels:R.els=[.agg (SV.denL cs)]:=by rw [row1_els c2,hf]; rfl
     have hL:elemsOf 1 X.den (SV.sub r 0 j2 1 m).den=some ((List.range m).map fun k=>.agg (((SV.denL cs).drop (j2+k*1)).take 1)):=by
      simp only [SV.den,elemsOf,X.row_get hR]
      have e0:(SRow.den R).els=R.els:=rfl
      rw [if_pos ⟨by first | rfl | trivial,by rw [e0,hels]; simp,by show j2+m*1≤R.sz; omega⟩,e0,hels]
      rfl
     have hone:∀ k,k<m→((SV.denL cs).drop (j2+k*1)).take 1=[.sc (.int K (cellZ cs (j2+k)))]:=fun k hk=>by
      have hh:(SV.denL cs)[j2+k]?=some (.sc (.int K (cellZ cs (j2+k)))):=by rw [denL_getE,allInt_get ha _ (by omega)]; rfl
      obtain ⟨h4,h5⟩:=List.getElem?_eq_some_iff.1 hh
      rw [Nat.mul_one,List.drop_eq_getElem_cons h4,h5]; rfl
     refine ⟨_,_,⟨e,n,_,hu,hk,rfl,by rw [hS]; exact hL,?_,?_,?_⟩,?_,h3⟩
     ·rw [List.all_eq_true]
      intro x hx
      obtain ⟨k',hk',rfl⟩:=List.mem_map.1 hx
      rw [hone k' (by simpa using hk')]
      rfl
     ·rw [hS]
      have hlx:(((List.range m).map fun k=>AV.agg (((SV.denL cs).drop (j2+k*1)).take 1)).take n).length=min m n:=by simp [Nat.min_comm]
      have hxs:(((List.range m).map fun k=>AV.agg (((SV.denL cs).drop (j2+k*1)).take 1)).take n).flatMap AV.cells=(List.range (min m n)).map fun k=>.sc (.int K (cellZ cs (j2+k))):=by
       rw [← List.map_take,List.take_range,List.flatMap_map,Nat.min_comm]
       have:∀ l:List Nat,(∀ x ∈ l,x<m)→l.flatMap (fun a=>AV.cells (AV.agg (((SV.denL cs).drop (j2+a*1)).take 1)))=l.map fun k=>.sc (.int K (cellZ cs (j2+k))):=by
        intro l
        induction l with
        | nil=>intro _; rfl
        | cons a l ih =>
         intro hh
         rw [List.flatMap_cons,ih (fun x hx=>hh x (by simp [hx])),List.map_cons]
         rw [hone a (hh a (by simp))]; rfl
       exact this _ (fun x hx=>by have:=List.mem_range.1 hx; omega)
      have:=dst_sub (g:=fun b=>cellZ cs (b - j+j2)) (j:=j) (n:=n) hX hR c2 hf ha hl h1 hxs (by rw [hlx]; omega) (by rw [hlx]; simp) (fun i hi=>by
       rw [hlx] at hi
       rw [List.getElem?_map,List.getElem?_range hi]
       simp only [Option.map_some]
       rw [show j+i - j+j2=j2+i by omega])
      rw [hlx] at this
      exact this.trans (by rw [setDen hX hR elc])
     ·simp [SV.den]
     ·exact hX
    ·exact h.elim
   ·exact h.elim
  ·exact g.elim
 ·exact h.elim
noncomputable def clearB (S:Nat) (X:XS) (x:SV) (k:KS):Prop:=match x with
 | .sub r i j sz n=>ifP (Nat.beq sz 1 && (Nat.beq S 1 && Nat.beq i 0)) (match X.row r with
  | some R=>ifP (R.var && Nat.beq R.n 1) (match R.f 0 with
   | .agg cs=>(match kindOf cs with
    | some K=>ifP (allInt K cs && Nat.beq cs.length R.sz) (j+n≤cs.length∧mvK K (fun _ kk _=>kk 0) j n cs 0 fun l=>k (.tup []) (X.set r (some (SRow.v R.sz (.agg l)))))
    | none=>False)
   | _=>False)
  | none=>False)
 | _=>False
def zerI (P:Program) (e:TypeId) (cs:List SV):Bool:=match zeroS P e with
 | some (.int K z)=>(match kindOf cs with
  | some K'=>kindEq K K' && decide (z=0)
  | none=>false)
 | _=>false
theorem clearB_spec {t e:TypeId} {S:Nat} {X:XS} {x:SV} {k:KS} (hX:X.n<512) (hu:P.underlying t=some (.slice e)) (hk:known P e=true) (hS:P.cellsOf e=S) (hz:∀ r R cs,X.row r=some R→R.f 0=.agg cs→(∃ i j sz n,x=.sub r i j sz n)→zerI P e cs=true) (h:clearB S X x k) :
  ∃ (v:SV) (X':XS),aClear P t x.den X.den v.den X'.den∧X'.n<512∧k v X':=by
 unfold clearB at h
 split at h
 ·rename_i r i j sz n
  obtain ⟨hc,g⟩:=ifP_spec h
  clear h
  simp only [Bool.and_eq_true,Nat.beq_eq] at hc
  obtain ⟨rfl,rfl,rfl⟩:=hc
  split at g
  ·rename_i R hR
   obtain ⟨hc,h⟩:=ifP_spec g
   clear g
   simp only [Bool.and_eq_true,Nat.beq_eq] at hc
   obtain ⟨c1,c2⟩:=hc
   split at h
   ·rename_i cs hf
    have hzz:=hz r R cs hR hf ⟨_,_,_,_,rfl⟩
    split at h
    ·rename_i K hK
     obtain ⟨hc,h1,h3⟩:=ifP_spec h
     obtain ⟨lc,elc,h5⟩:=mvK_spec (g:=fun _=>0) (fun b kk d h=>.inl ⟨0,h,fun _=>rfl⟩) h3
     clear h3
     simp only [Bool.and_eq_true,Nat.beq_eq] at hc
     obtain ⟨ha,hl⟩:=hc
     unfold zerI at hzz
     split at hzz
     ·rename_i K0 z hz0
      rw [hK] at hzz
      simp only [Bool.and_eq_true,decide_eq_true_eq] at hzz
      obtain ⟨hkk,rfl⟩:=hzz
      have:=kindEq_spec hkk
      subst this
      refine ⟨_,_,⟨rfl,e,n,(SV.int K0 0).den,hu,hk,rfl,zeroS_spec hz0,rfl,by rw [hS]; rfl,?_⟩,?_,h5⟩
      ·rw [hS]
       have:=dst_sub (g:=fun _=>(0:Int)) (j:=j) (n:=n) (xs:=List.replicate n (SV.int K0 0).den) (ys:=List.replicate n (SV.int K0 0).den) hX hR c2 hf ha hl h1 (by
        have:∀ m:Nat,(List.replicate m (SV.int K0 0).den).flatMap AV.cells=List.replicate m (SV.int K0 0).den:=by
         intro m
         induction m with
         | zero=>rfl
         | succ m ih=>rw [List.replicate_succ,List.flatMap_cons,ih]; rfl
        exact this n) (by simp) (by simp) (fun i hi=>by
         rw [List.length_replicate] at hi
         rw [List.getElem?_replicate,if_pos hi]; rfl)
       rw [List.length_replicate] at this
       exact this.trans (by rw [setDen hX hR elc])
      ·exact hX
     ·cases hzz
    ·exact h.elim
   ·exact h.elim
  ·exact g.elim
 ·exact h.elim
def intKey (P:Program) (t:TypeId):Bool:=match P.underlying t with
 | some (.int _)=>true
 | _=>false
def aggKey (P:Program) (t:TypeId) (cs:List SV):Bool:=match flatT P 6 t with
 | some l=>aggT P t && kindOK l cs
 | none=>false
theorem aggKey_spec {t:TypeId} {cs:List SV} (h:aggKey P t cs=true):∃ l,flatT P 6 t=some l∧aggT P t=true∧kindOK l cs=true:=by
 unfold aggKey at h
 split at h
 ·rename_i l hl
  simp only [Bool.and_eq_true] at h
  exact ⟨l,hl,h.1,h.2⟩
 ·cases h
def keyOK (P:Program) (kt:TypeId):SV→Bool
 | .int .i64 _=>intKey P kt
 | .agg cs=>aggKey P kt cs
 | _=>false
def keyVal:SV→Value
 | .agg cs=>.agg (cs.map leafV).toArray
 | x=>.int .i64 (numI x)
def eqKey (x y:SV):Prop:=match x with
 | .agg cs=>(match y with
  | .agg ds=>eqM cs ds
  | _=>False)
 | x=>numI x=numI y
theorem keyVal_toV {kt:TypeId} {x:SV} (h:keyOK P kt x=true):toV x.den=some (keyVal x):=by
 unfold keyOK at h
 split at h
 ·rfl
 ·rename_i cs
  obtain ⟨l,h1,h2,h3⟩:=aggKey_spec h
  exact toV_flat h3
 ·cases h
theorem key_both {kt:TypeId} {x y:SV} (hx:keyOK P kt x=true) (hy:keyOK P kt y=true) :
  (∃ q z z',P.underlying kt=some (.int q)∧x=.int .i64 z∧y=.int .i64 z')∨∃ l cs ds,flatT P 6 kt=some l∧aggT P kt=true∧x=.agg cs∧y=.agg ds∧kindOK l cs=true∧kindOK l ds=true:=by
 unfold keyOK at hx
 split at hx
 ·rename_i z
  unfold intKey at hx
  split at hx
  ·rename_i q hq
   unfold keyOK at hy
   split at hy
   ·exact .inl ⟨q,_,_,hq,rfl,rfl⟩
   ·obtain ⟨l,h1,h2,h3⟩:=aggKey_spec hy
    simp [aggT,hq] at h2
   ·cases hy
  ·cases hx
 ·rename_i cs
  obtain ⟨l,h1,h2,h3⟩:=aggKey_spec hx
  unfold keyOK at hy
  split at hy
  ·unfold intKey at hy
   split at hy
   ·rename_i q hq
    simp [aggT,hq] at h2
   ·cases hy
  ·obtain ⟨l',g1,g2,g3⟩:=aggKey_spec hy
   rw [h1] at g1
   cases g1
   exact .inr ⟨l,_,_,h1,h2,rfl,rfl,h3,g3⟩
  ·cases hy
 ·cases hx
theorem key_equal {kt:TypeId} {x y:SV} (hx:keyOK P kt x=true) (hy:keyOK P kt y=true):∃ b,(Op.equal kt (keyVal x) (keyVal y)).pv P=some b∧(b=true↔eqKey x y):=by
 rcases key_both hx hy with ⟨q,z,z',hq,rfl,rfl⟩ | ⟨l,cs,ds,h1,h2,rfl,rfl,h3,h4⟩
 ·exact ⟨decide (z=z'),pv_int (d:=9999) hq,by simp [eqKey,numI]⟩
 ·have E:=eq_flat (P:=P) h1 (e:=10000) (by omega) (kind_lf h3).1 (kind_lf h4).1
  rw [aggT_val h2,aggT_val h2] at E
  exact ⟨_,E,kind_eq h3 h4⟩
theorem key_check {kt:TypeId} {x:SV} (hx:keyOK P kt x=true) (e:Bool):(Instr.checkKey e 10000 kt (keyVal x)).pv P=some ():=by
 rcases key_both hx hx with ⟨q,z,z',hq,rfl,_⟩ | ⟨l,cs,ds,h1,h2,rfl,_,h3,h4⟩
 ·show (Instr.checkKey e (9999+1) kt (.int .i64 z)).pv P=_
  unfold Instr.checkKey
  simp only [pv_bind,pv_underlying hq,Option.bind_some]
  rfl
 ·have E:=chk_flat (P:=P) (q:=e) h1 (e:=10000) (by omega) (kind_lf h3).1
  rw [aggT_val h2] at E
  exact E
theorem key_bits {kt:TypeId} {x y:SV} (hx:keyOK P kt x=true) (hy:keyOK P kt y=true) (h:eqKey x y):keyVal y=keyVal x∧Instr.sameBits 10000 (keyVal y) (keyVal x)=true:=by
 rcases key_both hx hy with ⟨q,z,z',hq,rfl,rfl⟩ | ⟨l,cs,ds,h1,h2,rfl,rfl,h3,h4⟩
 ·have:z=z':=h
  subst this
  exact ⟨rfl,by simp [keyVal,numI,Instr.sameBits]⟩
 ·have e:=(eqLf_eq (kind_lf h3).1 (kind_lf h4).1).1 ((kind_eq h3 h4).2 h)
  refine ⟨by simp only [keyVal,e],?_⟩
  simp only [keyVal,e]
  show Instr.sameBits (9999+1) (.agg _) (.agg _)=true
  simp only [Instr.sameBits,beq_self_eq_true,Bool.true_and,List.all_eq_true]
  rintro ⟨a,b⟩ hab
  have hab:a=b∧b ∈ ds.map leafV:=by
   simp only [List.zip] at hab
   rw [List.mem_iff_getElem] at hab
   obtain ⟨i,hi,he⟩:=hab
   simp only [List.getElem_zipWith,Prod.mk.injEq] at he
   exact ⟨by rw [← he.1,← he.2],by rw [← he.2]; exact List.getElem_mem _⟩
  obtain ⟨rfl,hb⟩:=hab
  exact bits_lf (kind_lf h4).1 a hb _
theorem findE_key {kt:TypeId} {x:SV} (hx:keyOK P kt x=true):∀ (ks:List SV) (i:Nat),(∀ y ∈ ks,keyOK P kt y=true) →
  (∃ j,j<ks.length∧eqKey x (ks.getD j .any)∧(∀ i',i'<j→¬ eqKey x (ks.getD i' .any))∧findE P kt (keyVal x) (ks.map keyVal) i=some (some (i+j))) ∨
  ((∀ j,j<ks.length→¬ eqKey x (ks.getD j .any))∧findE P kt (keyVal x) (ks.map keyVal) i=some none)
 | [],i,_=>.inr ⟨fun j hj=>by simp at hj,rfl⟩
 | y :: ks,i,h=>by
  obtain ⟨b,h1,h2⟩:=key_equal hx (h y (by simp))
  have ih:=findE_key hx ks (i+1) fun z hz=>h z (by simp [hz])
  cases b with
  | true =>
   refine .inl ⟨0,by simp,h2.1 rfl,fun i' hi=>by omega,?_⟩
   simp only [List.map_cons,findE,h1]; rfl
  | false =>
   have hn:¬ eqKey x y:=fun h=>by have:=h2.2 h; cases this
   rcases ih with ⟨j,j1,j2,j3,j4⟩ | ⟨j1,j2⟩
   ·refine .inl ⟨j+1,by simp; omega,by simpa using j2,fun i' hi=>?_,?_⟩
    ·cases i' with
     | zero=>exact hn
     | succ i'=>exact j3 i' (by omega)
    ·simp only [List.map_cons,findE,h1,j4]
     congr 2; omega
   ·refine .inr ⟨fun j hj=>?_,?_⟩
    ·cases j with
     | zero=>exact hn
     | succ j=>exact j1 j (by simpa using hj)
    ·simp only [List.map_cons,findE,h1,j2]
def keyOf:SV→SV
 | .tup (k :: _)=>k
 | _=>.any
def valOf:SV→SV
 | .tup (_ :: v :: _)=>v
 | _=>.any
def entOK (P:Program) (kt:TypeId):SV→Bool
 | .tup [k,_]=>keyOK P kt k
 | _=>false
theorem entOK_spec {kt:TypeId} {s:SV} (h:entOK P kt s=true):keyOK P kt (keyOf s)=true∧keyA s.den=keyVal (keyOf s)∧valA s.den=(valOf s).den:=by
 unfold entOK at h
 split at h
 ·rename_i k v
  refine ⟨h,?_,rfl⟩
  show (toV k.den).getD undef=_
  rw [keyVal_toV h]; rfl
 ·cases h
theorem ents_keys {kt:TypeId} {c:Nat} {g:Nat→SV} (h:∀ i,i<c→entOK P kt (g i)=true):(entsV c g).map (·.1)=((List.range c).map fun i=>keyOf (g i)).map keyVal:=by
 unfold entsV
 rw [List.map_map,List.map_map]
 exact List.map_congr_left fun i hi=>(entOK_spec (h i (List.mem_range.1 hi))).2.1
theorem ents_get {c:Nat} {g:Nat→SV} {j:Nat} (hj:j<c):(entsV c g)[j]?=some (keyA (g j).den,j,valA (g j).den):=by
 unfold entsV
 rw [List.getElem?_map,List.getElem?_range hj]; rfl
theorem find_ents {kt:TypeId} {c:Nat} {g:Nat→SV} {x:SV} (hx:keyOK P kt x=true) (h:∀ i,i<c→entOK P kt (g i)=true) :
  (∃ j,j<c∧eqKey x (keyOf (g j))∧(∀ i,i<j→¬ eqKey x (keyOf (g i)))∧findE P kt (keyVal x) ((entsV c g).map (·.1)) 0=some (some j)) ∨
  ((∀ j,j<c→¬ eqKey x (keyOf (g j)))∧findE P kt (keyVal x) ((entsV c g).map (·.1)) 0=some none):=by
 rw [ents_keys h]
 have gd:∀ j,j<c→((List.range c).map fun i=>keyOf (g i)).getD j .any=keyOf (g j):=fun j hj=>by simp [List.getD,hj]
 rcases findE_key hx ((List.range c).map fun i=>keyOf (g i)) 0 (fun y hy=>by
  obtain ⟨i,hi,rfl⟩:=List.mem_map.1 hy
  exact (entOK_spec (h i (List.mem_range.1 hi))).1) with ⟨j,j1,j2,j3,j4⟩ | ⟨j1,j2⟩
 ·have j1:j<c:=by simpa using j1
  rw [gd j j1] at j2
  exact .inl ⟨j,j1,j2,fun i hi=>by rw [← gd i (by omega)]; exact j3 i hi,by simpa using j4⟩
 ·exact .inr ⟨fun j hj=>by rw [← gd j hj]; exact j1 j (by simpa using hj),j2⟩
end Go.Lg

namespace Go.Lg
open Go.RowKit
variable {P:Program}

noncomputable def minS (K:IntKind) (l:List SV) (k:Int→Prop):Int→Prop :=
 List.rec (motive:=fun _=>Int→Prop) k (fun x _ ih m=>match x with
  | .int K' n=>ifP (kindEq K' K) (ih (min m n))
  | _=>False) l
theorem minS_spec {K:IntKind} {k:Int→Prop}:∀ {l:List SV} {m:Int},minS K l k m→∃ ns,asInts K (SV.denL l)=some ns∧k (ns.foldl min m)
 | [],m,h=>⟨[],rfl,h⟩
 | x :: l,m,h=>by
  cases x with
  | int K' n =>
   have h:ifP (kindEq K' K) (minS K l k (min m n)):=h
   obtain ⟨h1,h⟩:=ifP_spec h
   obtain ⟨ns,h2,h3⟩:=minS_spec h
   exact ⟨n :: ns,by simp [SV.denL,SV.den,asInts,kindEq_spec h1,h2],h3⟩
  | _=>exact False.elim h
noncomputable def maxS (K:IntKind) (l:List SV) (k:Int→Prop):Int→Prop :=
 List.rec (motive:=fun _=>Int→Prop) k (fun x _ ih m=>match x with
  | .int K' n=>ifP (kindEq K' K) (ih (max m n))
  | _=>False) l
theorem maxS_spec {K:IntKind} {k:Int→Prop}:∀ {l:List SV} {m:Int},maxS K l k m→∃ ns,asInts K (SV.denL l)=some ns∧k (ns.foldl max m)
 | [],m,h=>⟨[],rfl,h⟩
 | x :: l,m,h=>by
  cases x with
  | int K' n =>
   have h:ifP (kindEq K' K) (maxS K l k (max m n)):=h
   obtain ⟨h1,h⟩:=ifP_spec h
   obtain ⟨ns,h2,h3⟩:=maxS_spec h
   exact ⟨n :: ns,by simp [SV.denL,SV.den,asInts,kindEq_spec h1,h2],h3⟩
  | _=>exact False.elim h
def lenS (P:Program) (t:Option TypeId) (x:SV) (k:SV→Prop):Prop:=match t with
 | some t=>(match P.underlying t with
  | some (.slice _)=>(match x with
   | .lst _ n _=>k (.int .i64 n)
   | .sl _ _ n=>k (.int .i64 n)
   | .sub _ _ _ _ n=>k (.int .i64 n)
   | .val (.slice _ n _)=>k (.int .i64 n)
   | _=>False)
  | some .string=>(match x with
   | .val (.string s)=>k (.int .i64 s.size)
   | _=>False)
  | some (.array n _)=>k (.int .i64 n)
  | _=>False)
 | none=>False
theorem lenS_spec {ts:Array TypeId} {x:SV} {k:SV→Prop} (h:lenS P ts[0]? x k):∃ v:SV,aBuiltin P .len ts [x.den] v.den∧k v:=by
 unfold lenS at h
 unfold aBuiltin
 split at h
 ·rename_i t ht
  simp only [ht]
  split at h
  ·rename_i hu
   simp only [hu]
   split at h
   ·exact ⟨_,by simp [SV.den],h⟩
   ·exact ⟨_,by simp only [SV.den],h⟩
   ·exact ⟨_,by simp only [SV.den],h⟩
   ·exact ⟨_,by simp only [SV.den],h⟩
   ·exact h.elim
  ·rename_i hu
   simp only [hu]
   split at h
   ·exact ⟨_,by simp only [SV.den],h⟩
   ·exact h.elim
  ·rename_i n e hu
   simp only [hu]
   exact ⟨.int .i64 n,rfl,h⟩
  ·exact h.elim
 ·exact h.elim
noncomputable def pureBS (P:Program) (b:Builtin) (ts:Array TypeId) (args:List SV) (k:SV→Prop):Prop:=match b with
 | .len=>(match args with
  | [x]=>lenS P ts[0]? x k
  | _=>False)
 | .min=>(match args with
  | .int K m :: r=>minS K r (fun n=>k (.int K n)) m
  | _=>False)
 | .max=>(match args with
  | .int K m :: r=>maxS K r (fun n=>k (.int K n)) m
  | _=>False)
 | _=>False
theorem pureBS_spec {b ts args} {k:SV→Prop} (h:pureBS P b ts args k):∃ v:SV,aBuiltin P b ts (SV.denL args) v.den∧k v:=by
 unfold pureBS at h
 split at h
 ·split at h
  ·exact lenS_spec h
  ·exact h.elim
 ·split at h
  ·obtain ⟨ns,h1,h2⟩:=minS_spec h
   exact ⟨_,⟨ns,h1,rfl⟩,h2⟩
  ·exact h.elim
 ·split at h
  ·obtain ⟨ns,h1,h2⟩:=maxS_spec h
   exact ⟨_,⟨ns,h1,rfl⟩,h2⟩
  ·exact h.elim
 ·exact h.elim
noncomputable def fillS (place:Nat→Option (Nat × Nat)) (parts:List (Nat × SV)):List SV→(List SV→Prop)→Prop :=
 List.rec (motive:=fun _=>List SV→(List SV→Prop)→Prop) (fun cs k=>k cs)
  (fun p _ ih cs k=>match place p.1 with
   | some (off,size)=>ifP (Nat.beq p.2.cells.length size && Nat.ble (Nat.add off size) cs.length) (overS cs off p.2.cells fun l=>ih l k)
   | none=>False) parts
theorem fillS_spec {place:Nat→Option (Nat × Nat)} {k:List SV→Prop}:∀ {parts:List (Nat × SV)} {cs:List SV},fillS place parts cs k →
  ∃ out:List SV,fillA place (SV.denL cs) (parts.map fun p=>(p.1,p.2.den))=some (SV.denL out)∧k out
 | [],cs,h=>⟨cs,rfl,h⟩
 | (i,x) :: parts,cs,h=>by
  have h:(match place i with
   | some (off,size)=>ifP (Nat.beq x.cells.length size && Nat.ble (Nat.add off size) cs.length) (overS cs off x.cells fun l=>fillS place parts l k)
   | none=>False):=h
  split at h
  ·rename_i off size hp
   obtain ⟨h1,h⟩:=ifP_spec h
   simp only [Bool.and_eq_true,Nat.beq_eq,Nat.ble_eq] at h1
   have h2:off+size≤cs.length:=h1.2
   obtain ⟨out,h3,h4⟩:=fillS_spec (overS_spec h)
   refine ⟨out,?_,h4⟩
   simp only [List.map_cons,fillA,hp,den_cells,denL_length]
   rw [if_pos ⟨h1.1,h2⟩,← h3]
   simp only [denL_append,denL_take,denL_drop,h1.1]
  ·exact h.elim
noncomputable def buildS (P:Program) (t:TypeId) (parts:List (Nat × SV)) (k:SV→Prop):Prop:=match zeroS P t,placesOf P t with
 | some z,some pl=>ifP (z.ok && allSV (fun x=>x.ok) (parts.map (·.2))) (fillS pl parts z.cells fun l=>k (.agg l))
 | _,_=>False
theorem buildS_spec {t parts} {k:SV→Prop} (h:buildS P t parts k):∃ v:SV,aBuild P t (parts.map fun p=>(p.1,p.2.den)) v.den∧k v:=by
 unfold buildS at h
 split at h
 ·rename_i z pl hz hp
  obtain ⟨h1,h⟩:=ifP_spec h
  simp only [Bool.and_eq_true] at h1
  obtain ⟨out,h2,h3⟩:=fillS_spec h
  refine ⟨_,⟨z.den,pl,SV.denL out,zeroS_spec hz,ok_den h1.1,hp,?_,by rw [den_cells]; exact h2,rfl⟩,h3⟩
  simp only [List.all_map,List.all_eq_true]
  intro p hm
  exact ok_den (allSV_spec h1.2 _ (List.mem_map.2 ⟨p,hm,rfl⟩))
 ·exact h.elim
end Go.Lg

namespace Go.Lg
open Go.RowKit
variable {P:Program}

noncomputable def mapS {α:Type} (f:α→SV) (l:List α) (k:List SV→Prop):Prop :=
 List.rec (motive:=fun _=>(List SV→Prop)→Prop) (fun k=>k []) (fun x _ ih k=>ih fun r=>k (f x :: r)) l k
theorem mapS_eq {α:Type} (f:α→SV):∀ (l:List α) (k:List SV→Prop),mapS f l k=k (l.map f)
 | [],k=>rfl
 | x :: l,k=>by
  show mapS f l (fun r=>k (f x :: r))=_
  rw [mapS_eq f l]; rfl
def cstO:Option Operand→Bool
 | none=>true
 | some (.const _)=>true
 | _=>false
noncomputable def genO (P:Program) (ev:Operand→SV) (X:XS) (o:Op) (k:KS):Prop :=
 ∃ (v:SV) (X':XS),X'.n<512∧(∀ o':Oper,o'.op=o→aop P o' (fun x=>(ev x).den) X.den v.den X'.den)∧k v X'
def ifcS (P:Program) (t:TypeId) (x:SV) (k:SV→Prop):Prop:=match P.underlying t with
 | some (.interface _)=>False
 | some _=>k (.ifc t x)
 | none=>False
def mapTy (P:Program) (t:TypeId):Option (TypeId × TypeId):=match P.underlying t with
 | some (.map kt et)=>(match P.underlying kt with
  | some _=>some (kt,et)
  | none=>none)
 | _=>none
theorem mapTy_spec {t kt et:TypeId} (h:mapTy P t=some (kt,et)):P.underlying t=some (.map kt et)∧∃ d,P.underlying kt=some d:=by
 unfold mapTy at h
 split at h
 ·rename_i a b hu
  split at h
  ·rename_i d hd
   cases h
   exact ⟨hu,d,hd⟩
  ·cases h
 ·cases h
def mapR (c:Nat) (g:Nat→SV):SRow:=⟨0,0,fun _=>.lst 0 c g,true⟩
theorem mapR_den (c:Nat) (g:Nat→SV):(mapR c g).den=⟨0,[],some (.map (entsV c g) c)⟩:=rfl
noncomputable def mkMapS (P:Program) (t:TypeId) (r:Option SV) (X:XS) (k:KS):Prop:=match mapTy P t with
 | some _=>ifP (and (roomS X) (match r with
  | none=>true
  | some (.int _ _)=>true
  | _=>false)) (k (.mp X.n) (X.push (some (mapR 0 fun _=>.tup []))))
 | none=>False
theorem mkMapS_spec {t:TypeId} {r:Option SV} {X:XS} {k:KS} (h:mkMapS P t r X k):∃ (v:SV) (X':XS),aMakeMap P (r.map SV.den) X.den v.den X'.den t∧X'.n<512∧k v X':=by
 unfold mkMapS at h
 split at h
 ·rename_i p hp
  obtain ⟨kt,et⟩:=p
  obtain ⟨hu,_⟩:=mapTy_spec hp
  obtain ⟨hc,h⟩:=ifP_spec h
  have hc:=Bool.and_eq_true_iff.1 hc
  refine ⟨_,_,⟨?_,?_,?_⟩,XS.push_lt hc.1 _,h⟩
  ·have h2:=hc.2
   split at h2
   ·trivial
   ·exact ⟨_,_,hu⟩
   ·cases h2
  ·rw [XS.length]; rfl
  ·rw [XS.push_den (roomS_spec hc.1)]; rfl
 ·exact h.elim
def tupT (ok:Bool) (v:SV) (b:Bool):SV:=match ok with
 | true=>.tup [v,.bool b]
 | false=>v
noncomputable def lookS (P:Program) (t:TypeId) (x i:SV) (ok:Bool) (X:XS) (k:SV→Prop):Prop:=match x with
 | .mp r=>(match X.row r with
  | some R=>ifP (R.var && Nat.beq R.n 0) (match R.f 0 with
   | .lst _ c g=>(match mapTy P t with
    | some (kt,et)=>(match zeroS P et with
     | some z=>ifP (keyOK P kt i) ((∀ j,j<c→entOK P kt (g j)=true) ∧
       (∀ j,j<c→eqKey i (keyOf (g j))→(∀ j',j'<j→¬ eqKey i (keyOf (g j')))→forceS (valOf (g j)) fun v=>k (tupT ok v true)) ∧
       ((∀ j,j<c→¬ eqKey i (keyOf (g j)))→k (tupT ok z false)))
     | none=>False)
    | none=>False)
   | _=>False)
  | none=>False)
 | x=>∃ v:SV,aLookup P t x.den i.den ok X.den v.den∧k v
theorem mrow_obj {X:XS} {r c sz:Nat} {g:Nat→SV} {R:SRow} (h1:R.var=true) (h2:R.n=0) (hf:R.f 0=.lst sz c g):R.obj=some (.map (entsV c g) c):=by
 unfold SRow.obj
 rw [h1,h2]
 show mapOb (R.f 0)=_
 rw [hf]; rfl
theorem tupT_den (ok:Bool) (v:SV) (b:Bool):(tupT ok v b).den=if ok then .tup [v.den,.sc (.bool b)] else v.den:=by cases ok <;> rfl
theorem lookS_spec {t:TypeId} {x i:SV} {ok:Bool} {X:XS} {k:SV→Prop} (h:lookS P t x i ok X k):∃ v:SV,aLookup P t x.den i.den ok X.den v.den∧k v:=by
 unfold lookS at h
 split at h
 ·rename_i r
  split at h
  ·rename_i R hR
   obtain ⟨hc,h⟩:=ifP_spec h
   simp only [Bool.and_eq_true,Nat.beq_eq] at hc
   split at h
   ·rename_i sz c g hf
    split at h
    ·rename_i kt et hp
     obtain ⟨hu,d,hd⟩:=mapTy_spec hp
     split at h
     ·rename_i z hz
      obtain ⟨hk,h1,h2,h3⟩:=ifP_spec h
      have hob:=mrow_obj (X:=X) (r:=r) hc.1 hc.2 hf
      have he:entA X.den (SV.mp r).den=some (entsV c g):=by
       simp only [SV.den,entA,XS.row_get hR]
       show (match R.obj with
        | some (.map es _)=>some es
        | _=>none)=_
       rw [hob]
      rcases find_ents hk h1 with ⟨j,j1,j2,j3,j4⟩ | ⟨j1,j2⟩
      ·refine ⟨tupT ok (valOf (g j)) true,⟨kt,et,d,keyVal i,entsV c g,some j,(valOf (g j)).den,true,hu,hd,keyVal_toV hk,he,key_check hk _,j4,⟨_,ents_get j1,(entOK_spec (h1 j j1)).2.2.symm,rfl⟩,tupT_den _ _ _⟩,?_⟩
       have:=h2 j j1 j2 j3
       rwa [forceS_eq] at this
      ·exact ⟨tupT ok z false,⟨kt,et,d,keyVal i,entsV c g,none,z.den,false,hu,hd,keyVal_toV hk,he,key_check hk _,j2,⟨zeroS_spec hz,rfl⟩,tupT_den _ _ _⟩,h3 j1⟩
     ·exact h.elim
    ·exact h.elim
   ·exact h.elim
  ·exact h.elim
 ·exact h
noncomputable def ptM (g:Nat→SV) (j:Nat) (x:SV):Nat→SV:=fun q=>.tup [keyOf (g q),sel (q=j) (Nat.decEq q j) x (valOf (g q))]
noncomputable def apM (c:Nat) (g:Nat→SV) (i x:SV):Nat→SV:=fun q=>.tup [sel (q<c) (Nat.decLt q c) (keyOf (g q)) i,sel (q<c) (Nat.decLt q c) (valOf (g q)) x]
noncomputable def updS (P:Program) (t:TypeId) (m i x:SV) (X:XS) (k:KS):Prop:=match m with
 | .mp r=>(match X.row r with
  | some R=>ifP (R.var && Nat.beq R.n 0 && Nat.beq R.sz 0) (match R.f 0 with
   | .lst _ c g=>(match mapTy P t with
    | some (kt,_)=>ifP (keyOK P kt i) ((∀ j,j<c→entOK P kt (g j)=true) ∧
      (∀ j,j<c→eqKey i (keyOf (g j))→(∀ j',j'<j→¬ eqKey i (keyOf (g j')))→(∀ q,selOK x (valOf (g q))=true)∧k .any (X.set r (some (mapR c (ptM g j x))))) ∧
      ((∀ j,j<c→¬ eqKey i (keyOf (g j)))→(∀ q,selOK (keyOf (g q)) i=true)∧(∀ q,selOK (valOf (g q)) x=true)∧k .any (X.set r (some (mapR (Nat.succ c) (apM c g i x))))))
    | none=>False)
   | _=>False)
  | none=>False)
 | _=>False
theorem ptM_ents {kt:TypeId} {c j:Nat} {g:Nat→SV} {i x:SV} (hk:keyOK P kt i=true) (h:∀ i,i<c→entOK P kt (g i)=true) (hj:j<c) (he:eqKey i (keyOf (g j))) (hs:∀ q,selOK x (valOf (g q))=true) :
  entsV c (ptM g j x)=(entsV c g).set j (keyVal i,j,x.den):=by
 apply List.ext_getElem?
 intro q
 rw [List.getElem?_set]
 by_cases hq:q<c
 ·obtain ⟨e1,e2,e3⟩:=entOK_spec (h q hq)
  rw [ents_get hq]
  have kq:keyA (ptM g j x q).den=keyVal (keyOf (g q)):=by
   show (toV (keyOf (g q)).den).getD undef=_
   rw [keyVal_toV e1]; rfl
  have vq:valA (ptM g j x q).den=if q=j then x.den else (valOf (g q)).den:=sel_den _ _ _ _ (hs q)
  rw [kq,vq]
  by_cases e:j=q
  ·subst e
   rw [if_pos rfl,if_pos rfl,if_pos (by simpa [entsV] using hq),(key_bits hk e1 he).1]
  ·rw [if_neg e,if_neg (fun h=>e h.symm),ents_get hq,e2,e3]
 ·have hl:∀ g',(entsV c g').length=c:=fun g'=>by simp [entsV]
  rw [List.getElem?_eq_none (by rw [hl]; omega),if_neg (by omega),List.getElem?_eq_none (by rw [hl]; omega)]
theorem apM_ents {kt:TypeId} {c:Nat} {g:Nat→SV} {i x:SV} (hk:keyOK P kt i=true) (h:∀ i,i<c→entOK P kt (g i)=true) (h1:∀ q,selOK (keyOf (g q)) i=true) (h2:∀ q,selOK (valOf (g q)) x=true) :
  entsV (Nat.succ c) (apM c g i x)=entsV c g ++ [(keyVal i,c,x.den)]:=by
 have vq:∀ q,valA (apM c g i x q).den=if q<c then (valOf (g q)).den else x.den:=fun q=>sel_den _ _ _ _ (h2 q)
 have kq:∀ q,keyA (apM c g i x q).den=(toV (if q<c then (keyOf (g q)).den else i.den)).getD undef:=fun q=>by
  show (toV (sel _ _ _ _).den).getD undef=_
  rw [sel_den _ _ _ _ (h1 q)]
 unfold entsV
 rw [List.range_succ,List.map_append]
 congr 1
 ·exact List.map_congr_left fun q hq=>by
   have hq:=List.mem_range.1 hq
   obtain ⟨e1,e2,e3⟩:=entOK_spec (h q hq)
   rw [kq,vq,if_pos hq,if_pos hq,keyVal_toV e1,e2,e3]; rfl
 ·show [(keyA (apM c g i x c).den,c,valA (apM c g i x c).den)]=_
  rw [kq,vq,if_neg (Nat.lt_irrefl c),if_neg (Nat.lt_irrefl c),keyVal_toV hk]; rfl
theorem updS_spec {t:TypeId} {m i x:SV} {X:XS} {k:KS} (hX:X.n<512) (h:updS P t m i x X k):∃ (v:SV) (X':XS),aMapUpdate P t m.den i.den x.den X.den v.den X'.den∧X'.n<512∧k v X':=by
 unfold updS at h
 split at h
 ·rename_i r
  split at h
  ·rename_i R hR
   obtain ⟨hc,h⟩:=ifP_spec h
   simp only [Bool.and_eq_true,Nat.beq_eq] at hc
   obtain ⟨⟨c1,c2⟩,c3⟩:=hc
   split at h
   ·rename_i sz c g hf
    split at h
    ·rename_i kt et hp
     obtain ⟨hu,d,hd⟩:=mapTy_spec hp
     obtain ⟨hk,h1,h2,h3⟩:=ifP_spec h
     have hob:=mrow_obj (X:=X) (r:=r) c1 c2 hf
     have hr:=XS.row_lt hR
     rcases find_ents hk h1 with ⟨j,j1,j2,j3,j4⟩ | ⟨j1,j2⟩
     ·obtain ⟨s1,h4⟩:=h2 j j1 j2 j3
      refine ⟨.any,X.set r (some (mapR c (ptM g j x))),⟨r,R.den,entsV c g,c,kt,et,d,keyVal i,some j,rfl,XS.row_get hR,hob,hu,hd,keyVal_toV hk,key_check hk _,j4,?_,rfl,?_⟩,hX,h4⟩
      ·rintro j' ⟨rfl⟩
       refine ⟨_,ents_get j1,?_⟩
       rw [(entOK_spec (h1 _ j1)).2.1]
       exact (key_bits hk (entOK_spec (h1 _ j1)).1 j2).2
      ·rw [XS.set_den (by omega) hr]
       congr 1
       show some (mapR c (ptM g j x)).den=_
       rw [mapR_den,ptM_ents hk h1 j1 j2 s1]
       simp only [aPut,ents_get j1]
       congr 2
       exact c3.symm
     ·obtain ⟨s1,s2,h4⟩:=h3 j1
      refine ⟨.any,X.set r (some (mapR (Nat.succ c) (apM c g i x))),⟨r,R.den,entsV c g,c,kt,et,d,keyVal i,none,rfl,XS.row_get hR,hob,hu,hd,keyVal_toV hk,key_check hk _,j2,⟨fun j hj=>(nomatch hj),rfl,?_⟩⟩,hX,h4⟩
      rw [XS.set_den (by omega) hr]
      congr 1
      show some (mapR (Nat.succ c) (apM c g i x)).den=_
      rw [mapR_den,apM_ents hk h1 s1 s2]
      simp only [aPut]
      congr 2
      exact c3.symm
    ·exact h.elim
   ·exact h.elim
  ·exact h.elim
 ·exact h.elim
noncomputable def opS (P:Program) (ev:Operand→SV) (X:XS) (call:KS→Call→Prop) (o:Op) (k:KS):Prop :=
 Op.casesOn (motive:=fun _=>Prop) o
  (fun x=>k (ev x) X)
  (fun x=>k (ev x) X)
  (fun c a b=>pickS (ev c) (ev a) (ev b) X k)
  (fun t=>allocS P t X k)
  (fun t x=>boxS (P.cellsOf t) (ev x) X k)
  (fun t parts=>buildS P t (parts.toList.map fun p=>(p.1,ev p.2)) fun v=>k v X)
  (fun t len parts=>litS P (slElem P t) len (parts.toList.map (·.1)) (parts.toList.map fun p=>ev p.2) X k)
  (fun t m i x=>genO P ev X (.insert t m i x) k)
  (fun t x=>loadS (packN P t) (ev x) X fun v=>k v X)
  (fun t p x=>storeS (known P t) (P.cellsOf t) (ev p) (ev x) X k)
  (fun _=>False)
  (fun _=>False)
  (fun x=>nilS (ev x) X k)
  (fun op t x y _=>binS P op t x y (ev x) (ev y) fun v=>k v X)
  (fun op _ x=>unS P op (ev x) fun v=>k v X)
  (fun s d x=>convS P s d (ev x) fun v=>k v X)
  (fun _ _=>False)
  (fun t x=>ifcS P t (ev x) fun v=>k v X)
  (fun fn fs cs=>mapS ev fs.toList fun fs=>mapS ev cs.toList fun cs=>k (.clo fn fs cs) X)
  (fun t r=>mkMapS P t (r.map ev) X k)
  (fun _ _=>False)
  (fun t l c=>makeS P (slElem P t) (ev l) (ev c) X k)
  (fun t x lo hi mx=>match mx with
   | none=>sliceS P (slElem P t) (arElem P t) (cstO lo) (ev x) (lo.map ev) (hi.map ev) X fun v=>k v X
   | some m=>slice3S P (slElem P t) (cstO lo) (ev x) (lo.map ev) (hi.map ev) (ev m) X fun v=>k v X)
  (fun s x f=>fieldAddrS (fieldOff P s f) (ev x) fun v=>k v X)
  (fun s x f=>fieldS P s (ev x) f fun v=>k v X)
  (fun t x i=>indexS (slElem P t) (arElem P t) (ev x) i (ev i) X k)
  (fun t x i=>indexVS P t (ev x) i (ev i) fun v=>k v X)
  (fun t x i ok=>lookS P t (ev x) (ev i) ok X fun v=>k v X)
  (fun t m i x=>updS P t (ev m) (ev i) (ev x) X k)
  (fun _ _ _=>False)
  (fun _ _ _ _=>False)
  (fun _ _=>False)
  (fun _ _=>False)
  (fun _=>False)
  (fun x xt as ok=>genO P ev X (.typeAssert x xt as ok) k)
  (fun t i=>extractS (ev t) i fun v=>k v X)
  (fun c=>call k c)
  (fun _=>False)
  (fun _=>False)
  (fun _=>False)
  (fun _ _=>False)
  (fun _ _ _=>False)
  (fun _ _=>False)
def DidS (P:Program) (o:Oper) (ev:Operand→SV) (X:XS) (k:KS):Prop :=
 ∃ (v:SV) (X':XS),aop P o (fun x=>(ev x).den) X.den v.den X'.den∧X'.n<512∧k v X'
theorem denL_mapE {α:Type} (f:α→SV) (l:List α):SV.denL (l.map f)=l.map fun x=>(f x).den:=by
 rw [denL_eq,List.map_map]; rfl
theorem opS_spec {o:Oper} {ev:Operand→SV} {X:XS} {call:KS→Call→Prop} {k:KS} (hX:X.n<512) (h:opS P ev X call o.op k) :
  DidS P o ev X k∨∃ c,o.op=.call c∧call k c:=by
 obtain ⟨dst,op,type,pos,after,guard⟩:=o
 simp only at h
 have gen:∀ {p:Op},op=p→genO P ev X p k→DidS P ⟨dst,op,type,pos,after,guard⟩ ev X k:=by
  rintro p rfl ⟨v,X',h1,h2,h3⟩
  exact ⟨v,X',h2 _ rfl,h1,h3⟩
 unfold opS at h
 cases op <;> simp only at h
 case move x=>exact .inl ⟨ev x,X,⟨rfl,rfl⟩,hX,h⟩
 case assign x=>exact .inl ⟨ev x,X,⟨rfl,rfl⟩,hX,h⟩
 case pick c a b =>
  obtain ⟨v,h1,h2⟩:=pickS_spec h
  exact .inl ⟨v,X,⟨h1,rfl⟩,hX,h2⟩
 case alloc t =>
  obtain ⟨v,X',h1,h2,h3⟩:=allocS_spec h
  exact .inl ⟨v,X',h1,h2,h3⟩
 case box t x =>
  obtain ⟨v,X',h1,h2,h3⟩:=boxS_spec h
  exact .inl ⟨v,X',h1,h2,h3⟩
 case build t parts =>
  obtain ⟨v,h1,h2⟩:=buildS_spec h
  refine .inl ⟨v,X,⟨?_,rfl⟩,hX,h2⟩
  show aBuild P t _ _
  simpa [List.map_map,Function.comp_def] using h1
 case buildSlice t len parts =>
  obtain ⟨v,X',h1,h2,h3⟩:=litS_spec (P:=P) (t:=t) (parts:=parts.toList.map fun p=>(p.1,ev p.2)) hX (by simpa [List.map_map,Function.comp_def] using h)
  exact .inl ⟨v,X',by simpa [aop,List.map_map,Function.comp_def] using h1,h2,h3⟩
 case mapUpdate t m i x =>
  obtain ⟨v,X',h1,h2,h3⟩:=updS_spec hX h
  exact .inl ⟨v,X',h1,h2,h3⟩
 case load t x =>
  obtain ⟨v,h1,h2⟩:=loadS_spec h
  exact .inl ⟨v,X,⟨h1,rfl⟩,hX,h2⟩
 case store t p x =>
  obtain ⟨v,X',h1,h2,h3⟩:=storeS_spec hX h
  exact .inl ⟨v,X',h1,h2,h3⟩
 case binOp op t x y _ =>
  obtain ⟨v,h1,h2⟩:=binS_spec h
  exact .inl ⟨v,X,⟨h1,rfl⟩,hX,h2⟩
 case unOp op _ x =>
  obtain ⟨v,h1,h2⟩:=unS_spec h
  exact .inl ⟨v,X,⟨h1,rfl⟩,hX,h2⟩
 case convert s d x =>
  obtain ⟨v,h1,h2⟩:=convS_spec h
  exact .inl ⟨v,X,⟨h1,rfl⟩,hX,h2⟩
 case makeInterface t x =>
  unfold ifcS at h
  split at h
  ·exact h.elim
  ·rename_i d hd hne
   refine .inl ⟨.ifc t (ev x),X,⟨⟨?_,rfl⟩,rfl⟩,hX,h⟩
   rw [hne]
   cases d <;> first | trivial | exact (hd _ rfl).elim
  ·exact h.elim
 case makeFunc fn fs cs =>
  rw [mapS_eq,mapS_eq] at h
  refine .inl ⟨_,X,⟨?_,rfl⟩,hX,h⟩
  simp only [aPure,SV.den,denL_mapE]
 case makeMap t r =>
  obtain ⟨v,X',h1,h2,h3⟩:=mkMapS_spec h
  exact .inl ⟨v,X',by simpa [aop,Option.map_map,Function.comp_def] using h1,h2,h3⟩
 case makeSlice t l c =>
  obtain ⟨v,X',h1,h2,h3⟩:=makeS_spec h
  exact .inl ⟨v,X',h1,h2,h3⟩
 case slice t x lo hi mx =>
  split at h
  ·obtain ⟨v,h1,h2⟩:=sliceS_spec h
   refine .inl ⟨v,X,⟨⟨.inl rfl,h1.2,?_⟩,rfl⟩,hX,h2⟩
   simpa [Option.map_map,Function.comp_def] using h1.1
  ·obtain ⟨v,h3,h1,h2⟩:=slice3S_spec h
   refine .inl ⟨v,X,⟨⟨.inr ?_,h1.2,?_⟩,rfl⟩,hX,h2⟩
   ·simpa [Option.map_map,Function.comp_def] using h3
   ·simpa [Option.map_map,Function.comp_def] using h1.1
 case fieldAddr s x f =>
  obtain ⟨v,h1,h2⟩:=fieldAddrS_spec h
  exact .inl ⟨v,X,⟨h1,rfl⟩,hX,h2⟩
 case field s x f =>
  obtain ⟨v,h1,h2⟩:=fieldS_spec h
  exact .inl ⟨v,X,⟨h1,rfl⟩,hX,h2⟩
 case indexAddr t x i =>
  unfold indexS at h
  split at h
  ·rename_i K z hi
   split at h
   ·obtain ⟨v,h1,h2⟩:=indexCS_spec (K:=K) h
    exact .inl ⟨v,X,⟨by simp only [aPure,hi,SV.den]; exact h1,rfl⟩,hX,h2⟩
   ·obtain ⟨v,h1,h2⟩:=indexAddrS_spec (K:=K) h
    exact .inl ⟨v,X,⟨by simp only [aPure,hi,SV.den]; exact h1,rfl⟩,hX,h2⟩
  ·exact h.elim
 case index t x i =>
  obtain ⟨v,h1,h2⟩:=indexVS_spec h
  exact .inl ⟨v,X,⟨h1,rfl⟩,hX,h2⟩
 case lookup t x i ok =>
  obtain ⟨v,h1,h2⟩:=lookS_spec h
  exact .inl ⟨v,X,⟨h1,rfl⟩,hX,h2⟩
 case insert t m i x=>exact .inl (gen rfl h)
 case typeAssert x xt as ok=>exact .inl (gen rfl h)
 case call c=>exact .inr ⟨c,rfl,h⟩
 case nilCheck x =>
  unfold nilS at h
  split at h
  ·rename_i r i j hx
   exact .inl ⟨ev x,X,⟨by simp only [aPure,hx,SV.den],rfl⟩,hX,hx ▸ h⟩
  ·rename_i c hx
   exact .inl ⟨ev x,X,⟨by simp only [aPure,hx,SV.den],rfl⟩,hX,hx ▸ h⟩
  ·exact h.elim
 case extract t i =>
  unfold extractS at h
  split at h
  ·rename_i l hx
   obtain ⟨e,h1,h2⟩:=nthS_spec h
   refine .inl ⟨e,X,⟨?_,rfl⟩,hX,h2⟩
   simp only [aPure,hx,SV.den]
   exact denL_get h1
  ·exact h.elim
 all_goals exact h.elim
end Go.Lg
