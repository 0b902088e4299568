import Derived.Test.YtpdcajchppoocaaWaWbWc
set_option linter.unusedVariables false
set_option linter.unusedSimpArgs false
namespace Go.Lg
open Go.RowKit
variable {P:Program}
theorem pv_program:(program:Sem Program).pv P=some P:=rfl
theorem pv_int {d:Nat} {t:TypeId} {q k:IntKind} {m n:Int} (h:P.underlying t=some (.int q)):(Op.equalIn (d+1) t (.int k m) (.int k n)).pv P=some (decide (m=n)):=by
 unfold Op.equalIn
 rw [pv_bind,pv_underlying h]
 simp [pv_pure]
 rfl
theorem pv_part {t:TypeId} {q:IntKind} {xs:Array Value} {i:Nat} {v:Value} (h:P.underlying t=some (.int q)) (hx:xs[i]?=some v):(part t xs i).pv P=some v:=by
 unfold part isAgg
 simp only [pv_bind,pv_underlying h,Option.bind_some,pv_pure]
 simp [hx,pv_pure]
theorem pv_struct2 {d:Nat} {t:TypeId} {f g:Field} {q q' k k':IntKind} {m m' n n':Int} (h:P.underlying t=some (.struct #[f,g])) (hs:P.stoodInHeld t=false)
  (hf:P.underlying f.type=some (.int q)) (hg:P.underlying g.type=some (.int q')) (of:f.offset=0) (og:g.offset=1) (nf:f.name≠"_") (ng:g.name≠"_") :
  (Op.equalIn (d+2) t (.agg #[.int k m,.int k' m']) (.agg #[.int k n,.int k' n'])).pv P=some (decide (m=n∧m'=n')):=by
 have a0:(part f.type #[Value.int k m,Value.int k' m'] 0).pv P=some (.int k m):=pv_part hf rfl
 have a1:(part g.type #[Value.int k m,Value.int k' m'] 1).pv P=some (.int k' m'):=pv_part hg rfl
 have b0:(part f.type #[Value.int k n,Value.int k' n'] 0).pv P=some (.int k n):=pv_part hf rfl
 have b1:(part g.type #[Value.int k n,Value.int k' n'] 1).pv P=some (.int k' n'):=pv_part hg rfl
 unfold Op.equalIn
 simp only [pv_bind,pv_underlying h,Option.bind_some,pv_program,hs]
 simp [pv_bind,nf,ng,a0,b0,of,og,pv_int hf]
 by_cases h1:m=n
 ·subst h1
  by_cases h2:m'=n'
  ·subst h2
   simp [a1,pv_int hg,pv_pure,pv_bind]
  ·simp [a1,b1,pv_int hg,pv_pure,pv_bind,h2]
 ·simp [h1,pv_pure]
theorem pv_bool {d:Nat} {t:TypeId} {a b:Bool} (h:P.underlying t=some .bool):(Op.equalIn (d+1) t (.bool a) (.bool b)).pv P=some (a == b):=by
 unfold Op.equalIn
 rw [pv_bind,pv_underlying h]
 simp [pv_pure]
theorem bool_eql {t:TypeId} (h:P.underlying t=some .bool) (x y:Operand) (a b:Bool):aBin P .eql t x y (.sc (.bool a)) (.sc (.bool b)) (.sc (.bool (a == b))):=by
 refine ⟨.bool a,.bool b,.bool (a == b),rfl,rfl,?_,rfl⟩
 have e:(eqGuard .eql t x y (.bool a) (.bool b)).pv P=some ():=rfl
 rw [pv_bind,e]
 show (binOp .eql t (.bool a) (.bool b)).pv P=_
 unfold binOp
 simp only [pv_bind]
 have e2:(Op.equal t (.bool a) (.bool b)).pv P=some (a == b):=pv_bool (d:=9999) h
 rw [e2]; rfl
theorem bool_neq {t:TypeId} (h:P.underlying t=some .bool) (x y:Operand) (a b:Bool):aBin P .neq t x y (.sc (.bool a)) (.sc (.bool b)) (.sc (.bool (!(a == b)))):=by
 refine ⟨.bool a,.bool b,.bool (!(a == b)),rfl,rfl,?_,rfl⟩
 have e:(eqGuard .neq t x y (.bool a) (.bool b)).pv P=some ():=rfl
 rw [pv_bind,e]
 show (binOp .neq t (.bool a) (.bool b)).pv P=_
 unfold binOp
 simp only [pv_bind]
 have e2:(Op.equal t (.bool a) (.bool b)).pv P=some (a == b):=pv_bool (d:=9999) h
 rw [e2]; rfl
def pairTy (P:Program) (t:TypeId):Bool:=match P.underlying t with
 | some (.struct fs)=>(match fs with
  | ⟨[f,g]⟩=>(match P.underlying f.type with
   | some (.int _)=>(match P.underlying g.type with
    | some (.int _)=>Nat.beq f.offset 0 && (Nat.beq g.offset 1 && (f.name != "_" && (g.name != "_" && (!P.stoodInHeld t && !P.eqGuardType P.depth t))))
    | _=>false)
   | _=>false)
  | _=>false)
 | _=>false
theorem pairTy_spec {t:TypeId} (h:pairTy P t=true) (x y:Operand) (k k':IntKind) (m m' n n':Int) :
  aBin P .eql t x y (.agg [.sc (.int k m),.sc (.int k' m')]) (.agg [.sc (.int k n),.sc (.int k' n')]) (.sc (.bool (decide (m=n∧m'=n')))):=by
 unfold pairTy at h
 split at h
 ·rename_i fs hu
  split at h
  ·rename_i f g
   split at h
   ·rename_i q hf
    split at h
    ·rename_i q' hg
     simp only [Bool.and_eq_true,Nat.beq_eq,bne_iff_ne,ne_eq,Bool.not_eq_true'] at h
     obtain ⟨of,og,nf,ng,hs,he⟩:=h
     refine ⟨.agg #[.int k m,.int k' m'],.agg #[.int k n,.int k' n'],.bool (decide (m=n∧m'=n')),rfl,rfl,?_,rfl⟩
     have e:(eqGuard .eql t x y (.agg #[.int k m,.int k' m']) (.agg #[.int k n,.int k' n'])).pv P=some ():=by
      unfold eqGuard
      simp [pv_bind,pv_program,he]
     rw [pv_bind,e]
     show (binOp .eql t (.agg #[.int k m,.int k' m']) (.agg #[.int k n,.int k' n'])).pv P=_
     unfold binOp
     simp only [pv_bind]
     have:=pv_struct2 (P:=P) (d:=9998) (k:=k) (k':=k') (m:=m) (m':=m') (n:=n) (n':=n') hu hs hf hg of og nf ng
     have e2:(Op.equal t (.agg #[.int k m,.int k' m']) (.agg #[.int k n,.int k' n'])).pv P=some (decide (m=n∧m'=n')):=this
     rw [e2]; rfl
    ·cases h
   ·cases h
  ·cases h
 ·cases h
theorem pairTy_neq {t:TypeId} (h:pairTy P t=true) (x y:Operand) (k k':IntKind) (m m' n n':Int) :
  aBin P .neq t x y (.agg [.sc (.int k m),.sc (.int k' m')]) (.agg [.sc (.int k n),.sc (.int k' n')]) (.sc (.bool (decide (¬ (m=n∧m'=n'))))):=by
 unfold pairTy at h
 split at h
 ·rename_i fs hu
  split at h
  ·rename_i f g
   split at h
   ·rename_i q hf
    split at h
    ·rename_i q' hg
     simp only [Bool.and_eq_true,Nat.beq_eq,bne_iff_ne,ne_eq,Bool.not_eq_true'] at h
     obtain ⟨of,og,nf,ng,hs,he⟩:=h
     refine ⟨.agg #[.int k m,.int k' m'],.agg #[.int k n,.int k' n'],  .bool (decide (¬ (m=n∧m'=n'))),rfl,rfl,?_,rfl⟩
     have e:(eqGuard .neq t x y (.agg #[.int k m,.int k' m']) (.agg #[.int k n,.int k' n'])).pv P=some ():=by
      unfold eqGuard
      simp [pv_bind,pv_program,he]
     rw [pv_bind,e]
     show (binOp .neq t (.agg #[.int k m,.int k' m']) (.agg #[.int k n,.int k' n'])).pv P=_
     unfold binOp
     simp only [pv_bind]
     have:=pv_struct2 (P:=P) (d:=9998) (k:=k) (k':=k') (m:=m) (m':=m') (n:=n) (n':=n') hu hs hf hg of og nf ng
     have e2:(Op.equal t (.agg #[.int k m,.int k' m']) (.agg #[.int k n,.int k' n'])).pv P=some (decide (m=n∧m'=n')):=this
     rw [e2]; simp only [decide_not]; rfl
    ·cases h
   ·cases h
  ·cases h
 ·cases h
theorem pv_partB {t:TypeId} {xs:Array Value} {i:Nat} {v:Value} (h:P.underlying t=some .bool) (hx:xs[i]?=some v):(part t xs i).pv P=some v:=by
 unfold part isAgg
 simp only [pv_bind,pv_underlying h,Option.bind_some,pv_pure]
 simp [hx,pv_pure]
theorem pv_sizeOf {t:TypeId} {i:TypeInfo} (h:P.info? t=some i):(sizeOf t).pv P=some i.size:=by
 unfold sizeOf typeInfo
 simp [pv_bind,pv_program,h,pv_pure]
theorem pv_arrB {d n:Nat} {t e:TypeId} {i:TypeInfo} {a b:List Bool} (hu:P.underlying t=some (.array n e)) (he:P.underlying e=some .bool) (hi:P.info? e=some i) (h1:i.size=1) (ha:a.length=n) (hb:b.length=n) :
  (Op.equalIn (d+2) t (.agg (a.map Value.bool).toArray) (.agg (b.map Value.bool).toArray)).pv P=some (decide (a=b)):=by
 unfold Op.equalIn
 simp only [pv_bind,pv_underlying hu,Option.bind_some,pv_sizeOf hi,h1]
 simp only [Std.Legacy.Range.forIn_eq_forIn_range',Std.Legacy.Range.size,Nat.sub_zero,Nat.add_one_sub_one,Nat.div_one,Nat.mul_one]
 have H:decide (a=b)=decide (a.drop 0=b.drop 0):=by simp
 rw [H]
 have hm:0+n=a.length:=by omega
 have hab:b.length=a.length:=by omega
 clear H hu ha hb
 generalize 0=s at hm ⊢
 generalize n=m at hm ⊢
 induction m generalizing s with
 | zero =>
  have e1:a.drop s=[]:=List.drop_eq_nil_of_le (by omega)
  have e2:b.drop s=[]:=List.drop_eq_nil_of_le (by omega)
  simp [e1,e2,pv_pure]
 | succ m ih =>
  have ia:s<a.length:=by omega
  have ib:s<b.length:=by omega
  have pa:(part e (List.map Value.bool a).toArray s).pv P=some (.bool a[s]):=pv_partB he (by simp [ia])
  have pb:(part e (List.map Value.bool b).toArray s).pv P=some (.bool b[s]):=pv_partB he (by simp [ib])
  have ea:a.drop s=a[s] :: a.drop (s+1):=List.drop_eq_getElem_cons ia
  have eb:b.drop s=b[s] :: b.drop (s+1):=List.drop_eq_getElem_cons ib
  have ih:=ih (s:=s+1) (by omega)
  rw [List.range'_succ,List.forIn_cons]
  simp only [pv_bind,pa,pb,Option.bind_some,pv_bool he]
  by_cases hh:a[s]=b[s]
  ·simp only [hh,beq_self_eq_true,Bool.not_true,Bool.false_eq_true,if_false,pv_pure,Option.bind_some]
   have hd:(a.drop (s+1)=b.drop (s+1))↔(a.drop s=b.drop s):=by
    rw [ea,eb]
    exact ⟨fun h=>by rw [h,hh],fun h=>by injection h⟩
   rw [ih]
   exact congrArg some (decide_eq_decide.2 hd)
  ·have:(a[s] == b[s])=false:=by simpa using hh
   simp only [this,Bool.not_false,if_true,pv_pure,Option.bind_some]
   have hd:¬ a.drop s=b.drop s:=by
    rw [ea,eb]
    intro h
    injection h with h _
    exact hh h
   rw [decide_eq_false hd]
def okFs (P:Program):List Field→Nat→Bool
 | [],_=>true
 | f :: fs,i=>(match P.underlying f.type with
  | some (.int _)=>Nat.beq f.offset i && (f.name != "_" && okFs P fs (i+1))
  | _=>false)
theorem pv_structN {d:Nat} {t:TypeId} {fs:Array Field} {k:IntKind} {a b:List Int} (hu:P.underlying t=some (.struct fs)) (hs:P.stoodInHeld t=false) (hf:okFs P fs.toList 0=true) (la:a.length=fs.size) (lb:b.length=fs.size) :
  (Op.equalIn (d+2) t (.agg (a.map (Value.int k)).toArray) (.agg (b.map (Value.int k)).toArray)).pv P=some (decide (a=b)):=by
 unfold Op.equalIn
 simp only [pv_bind,pv_underlying hu,Option.bind_some,pv_program,hs]
 obtain ⟨L⟩:=fs
 simp only [List.size_toArray] at la lb hf
 have H:decide (a=b)=decide (a.drop 0=b.drop 0):=by simp
 rw [H]
 have hL:0+L.length=a.length:=by omega
 have hab:b.length=a.length:=by omega
 simp only [Bool.false_eq_true,if_false,List.forIn_toArray,pv_bind]
 clear H hu la lb
 generalize 0=s at hL hf ⊢
 induction L generalizing s with
 | nil =>
  have e1:a.drop s=[]:=List.drop_eq_nil_of_le (by simp at hL; omega)
  have e2:b.drop s=[]:=List.drop_eq_nil_of_le (by simp at hL; omega)
  simp [e1,e2,pv_pure]
 | cons f fs ih =>
  simp only [List.length_cons] at hL
  have ia:s<a.length:=by omega
  have ib:s<b.length:=by omega
  unfold okFs at hf
  split at hf
  ·rename_i q hq
   simp only [Bool.and_eq_true,Nat.beq_eq,bne_iff_ne,ne_eq] at hf
   obtain ⟨ho,hn,hf⟩:=hf
   have pa:(part f.type (List.map (Value.int k) a).toArray f.offset).pv P=some (.int k a[s]):=pv_part hq (by simp [ho,ia])
   have pb:(part f.type (List.map (Value.int k) b).toArray f.offset).pv P=some (.int k b[s]):=pv_part hq (by simp [ho,ib])
   have ea:a.drop s=a[s] :: a.drop (s+1):=List.drop_eq_getElem_cons ia
   have eb:b.drop s=b[s] :: b.drop (s+1):=List.drop_eq_getElem_cons ib
   have ih:=ih (s:=s+1) (by omega) hf
   rw [List.forIn_cons]
   simp only [pv_bind,hn,ne_eq,not_false_eq_true,if_true,pa,pb,Option.bind_some,pv_int hq]
   by_cases hh:a[s]=b[s]
   ·simp only [hh,decide_true,Bool.not_true,Bool.false_eq_true,if_false,pv_pure,Option.bind_some]
    have hd:(a.drop (s+1)=b.drop (s+1))↔(a.drop s=b.drop s):=by
     rw [ea,eb]
     exact ⟨fun h=>by rw [h,hh],fun h=>by injection h⟩
    rw [ih]
    exact congrArg some (decide_eq_decide.2 hd)
   ·have:decide (a[s]=b[s])=false:=by simpa using hh
    simp only [this,Bool.not_false,if_true,pv_pure,Option.bind_some]
    have hd:¬ a.drop s=b.drop s:=by
     rw [ea,eb]
     intro h
     injection h with h _
     exact hh h
    rw [decide_eq_false hd]
  ·cases hf
end Go.Lg

namespace Go.Lg
open Go.RowKit
variable {P:Program}
def flatFs (g:TypeId→Option (List Bool)):List Field→Nat→Option (List Bool)
 | [],_=>some []
 | f :: fs,o=>match g f.type with
  | some l=>(match Nat.beq f.offset o && f.name != "_" with
   | true=>(match flatFs g fs (o+l.length) with
    | some m=>some (l ++ m)
    | none=>none)
   | false=>none)
  | none=>none
def repL:Nat→List Bool→List Bool
 | 0,_=>[]
 | n+1,l=>l ++ repL n l
def sizeB (P:Program) (t:TypeId) (l:List Bool):Bool:=match P.info? t with
 | some i=>Nat.beq i.size l.length
 | none=>false
def flatT (P:Program):Nat→TypeId→Option (List Bool)
 | 0,_=>none
 | d+1,t=>match P.underlying t with
  | some .bool=>some [true]
  | some (.int _)=>some [false]
  | some (.struct fs)=>(match flatFs (flatT P d) fs.toList 0 with
   | some l=>(match sizeB P t l && !P.stoodInHeld t with
    | true=>some l
    | false=>none)
   | none=>none)
  | some (.array n e)=>(match flatT P d e with
   | some l=>(match sizeB P t (repL n l) && sizeB P e l with
    | true=>some (repL n l)
    | false=>none)
   | none=>none)
  | _=>none
def okLf:List Bool→List Value→Prop
 | [],[]=>True
 | false :: l,.int .i64 _ :: vs=>okLf l vs
 | true :: l,.bool _ :: vs=>okLf l vs
 | _,_=>False
def eqLf:List Value→List Value→Bool
 | .int _ m :: xs,.int _ n :: ys=>decide (m=n) && eqLf xs ys
 | .bool a :: xs,.bool b :: ys=>(a == b) && eqLf xs ys
 | _,_=>true
theorem okLf_f:∀ {l:List Bool} {vs:List Value},okLf (false :: l) vs→∃ z r,vs=.int .i64 z :: r∧okLf l r
 | l,.int .i64 z :: r,h=>⟨z,r,rfl,h⟩
theorem okLf_t:∀ {l:List Bool} {vs:List Value},okLf (true :: l) vs→∃ z r,vs=.bool z :: r∧okLf l r
 | l,.bool z :: r,h=>⟨z,r,rfl,h⟩
theorem okLf_n:∀ {vs:List Value},okLf [] vs→vs=[]
 | [],_=>rfl
theorem okLf_len:∀ {l:List Bool} {vs:List Value},okLf l vs→vs.length=l.length
 | [],vs,h=>by rw [okLf_n h]; rfl
 | false :: l,vs,h=>by
  obtain ⟨z,r,rfl,h2⟩:=okLf_f h
  simp [okLf_len h2]
 | true :: l,vs,h=>by
  obtain ⟨z,r,rfl,h2⟩:=okLf_t h
  simp [okLf_len h2]
theorem okLf_app:∀ {l m:List Bool} {vs:List Value},okLf (l ++ m) vs→okLf l (vs.take l.length)∧okLf m (vs.drop l.length)
 | [],m,vs,h=>by simpa [okLf] using h
 | false :: l,m,vs,h=>by
  obtain ⟨z,r,rfl,h2⟩:=okLf_f (l:=l ++ m) h
  exact okLf_app (l:=l) h2
 | true :: l,m,vs,h=>by
  obtain ⟨z,r,rfl,h2⟩:=okLf_t (l:=l ++ m) h
  exact okLf_app (l:=l) h2
theorem eqLf_app:∀ {l m:List Bool} {a b:List Value},okLf (l ++ m) a→okLf (l ++ m) b→eqLf a b=(eqLf (a.take l.length) (b.take l.length) && eqLf (a.drop l.length) (b.drop l.length))
 | [],m,a,b,_,_=>by simp [eqLf]
 | false :: l,m,a,b,h,k=>by
  obtain ⟨z,a,rfl,h2⟩:=okLf_f (l:=l ++ m) h
  obtain ⟨y,b,rfl,k2⟩:=okLf_f (l:=l ++ m) k
  simp only [eqLf,List.length_cons,List.take_succ_cons,List.drop_succ_cons,eqLf_app h2 k2,Bool.and_assoc]
 | true :: l,m,a,b,h,k=>by
  obtain ⟨z,a,rfl,h2⟩:=okLf_t (l:=l ++ m) h
  obtain ⟨y,b,rfl,k2⟩:=okLf_t (l:=l ++ m) k
  simp only [eqLf,List.length_cons,List.take_succ_cons,List.drop_succ_cons,eqLf_app h2 k2,Bool.and_assoc]
def valF (P:Program) (t:TypeId) (l:List Value):Value:=match P.underlying t with
 | some .bool=>l.headD undef
 | some (.int _)=>l.headD undef
 | _=>.agg l.toArray
theorem pv_isAgg {t:TypeId} {d:TypeDesc} (h:P.underlying t=some d) (b:Bool) (hb:(∀ {Q:Program},P=Q→(match d with
  | .struct _=>(pure true:Sem Bool)
  | .array _ _=>pure true
  | _=>pure false)=pure b)):(isAgg t).pv P=some b:=by
 have hb:=hb rfl
 unfold isAgg
 rw [pv_bind,pv_underlying h]
 show (match d with
  | .struct _=>(pure true:Sem Bool)
  | .array _ _=>pure true
  | _=>pure false).pv P=_
 rw [hb]; rfl
theorem flat_size {d:Nat} {t:TypeId} {l:List Bool} (h:flatT P (d+1) t=some l) :
  (P.underlying t=some .bool∧l=[true])∨(∃ q,P.underlying t=some (.int q)∧l=[false]) ∨
  (∃ fs,P.underlying t=some (.struct fs)∧flatFs (flatT P d) fs.toList 0=some l∧sizeB P t l=true∧P.stoodInHeld t=false) ∨
  (∃ n e m,P.underlying t=some (.array n e)∧flatT P d e=some m∧l=repL n m∧sizeB P t l=true∧sizeB P e m=true):=by
 unfold flatT at h
 split at h
 ·rename_i hu; cases h; exact .inl ⟨hu,rfl⟩
 ·rename_i q hu; cases h; exact .inr (.inl ⟨q,hu,rfl⟩)
 ·rename_i fs hu
  split at h
  ·rename_i l' hl
   split at h
   ·rename_i hc
    cases h
    simp only [Bool.and_eq_true,Bool.not_eq_true'] at hc
    exact .inr (.inr (.inl ⟨fs,hu,hl,hc.1,hc.2⟩))
   ·cases h
  ·cases h
 ·rename_i n e hu
  split at h
  ·rename_i m hm
   split at h
   ·rename_i hc
    cases h
    simp only [Bool.and_eq_true] at hc
    exact .inr (.inr (.inr ⟨n,e,m,hu,hm,rfl,hc.1,hc.2⟩))
   ·cases h
  ·cases h
 ·cases h
theorem sizeB_spec {t:TypeId} {l:List Bool} (h:sizeB P t l=true):(sizeOf t).pv P=some l.length:=by
 unfold sizeB at h
 split at h
 ·rename_i i hi
  rw [pv_sizeOf hi,Nat.eq_of_beq_eq_true h]
 ·cases h
theorem pv_partF {d:Nat} {t:TypeId} {l:List Bool} (h:flatT P d t=some l) {xs:List Value} {o:Nat} (hx:okLf l ((xs.drop o).take l.length)):(part t xs.toArray o).pv P=some (valF P t ((xs.drop o).take l.length)):=by
 cases d with
 | zero=>cases h
 | succ d =>
  have agg:(isAgg t).pv P=some true→sizeB P t l=true→(part t xs.toArray o).pv P=some (.agg ((xs.drop o).take l.length).toArray):=by
   intro ha hs
   unfold part
   simp only [pv_bind,ha,Option.bind_some,if_true,sizeB_spec hs,pv_pure]
   congr 2
   simp
  have one:(isAgg t).pv P=some false→l.length=1→(part t xs.toArray o).pv P=some (((xs.drop o).take l.length).headD undef):=by
   intro ha hl
   have hlen:=okLf_len hx
   rw [hl] at hlen ⊢
   have ho:o<xs.length:=by
    rw [List.length_take,List.length_drop] at hlen; omega
   have e:(xs.drop o).take 1=[xs[o]]:=by rw [List.drop_eq_getElem_cons ho]; rfl
   unfold part
   simp only [pv_bind,ha,Option.bind_some,e]
   simp [ho,pv_pure]
  rcases flat_size h with ⟨hu,rfl⟩ | ⟨q,hu,rfl⟩ | ⟨fs,hu,h1,h2,h3⟩ | ⟨n,e,m,hu,h1,h2,h3,h4⟩
  ·rw [one (pv_isAgg hu false fun _=>rfl) rfl]; simp only [valF,hu]
  ·rw [one (pv_isAgg hu false fun _=>rfl) rfl]; simp only [valF,hu]
  ·rw [agg (pv_isAgg hu true fun _=>rfl) h2]; simp only [valF,hu]
  ·rw [agg (pv_isAgg hu true fun _=>rfl) h3]; simp only [valF,hu]
theorem repL_drop {m:List Bool}:∀ {n:Nat} {xs:List Value},okLf (repL (n+1) m) xs→okLf m (xs.take m.length)∧okLf (repL n m) (xs.drop m.length):=fun h=>okLf_app h
theorem eq_flat:∀ {d:Nat} {t:TypeId} {l:List Bool},flatT P d t=some l→∀ {e:Nat},d≤e→∀ {a b:List Value},okLf l a→okLf l b→(Op.equalIn e t (valF P t a) (valF P t b)).pv P=some (eqLf a b)
 | 0,t,l,h,_,_,_,_,_,_=>by cases h
 | d+1,t,l,h,e,he,a,b,ha,hb=>by
  obtain ⟨e,rfl⟩:∃ e',e=e'+1:=⟨e - 1,by omega⟩
  rcases flat_size h with ⟨hu,rfl⟩ | ⟨q,hu,rfl⟩ | ⟨fs,hu,h1,h2,h3⟩ | ⟨n,el,m,hu,h1,h2,h3,h4⟩
  ·obtain ⟨x,r,rfl,h1⟩:=okLf_t ha
   obtain ⟨y,r',rfl,h2⟩:=okLf_t hb
   obtain rfl:=okLf_n h1
   obtain rfl:=okLf_n h2
   simp only [valF,hu,List.headD_cons]
   rw [pv_bool hu]; simp [eqLf]
  ·obtain ⟨x,r,rfl,h1⟩:=okLf_f ha
   obtain ⟨y,r',rfl,h2⟩:=okLf_f hb
   obtain rfl:=okLf_n h1
   obtain rfl:=okLf_n h2
   simp only [valF,hu,List.headD_cons]
   rw [pv_int hu]; simp [eqLf]
  ·simp only [valF,hu]
   unfold Op.equalIn
   simp only [pv_bind,pv_underlying hu,Option.bind_some,pv_program,h3]
   obtain ⟨L⟩:=fs
   simp only [Bool.false_eq_true,if_false,List.forIn_toArray,pv_bind]
   simp only at h1
   have H:eqLf a b=eqLf (a.drop 0) (b.drop 0):=rfl
   rw [H]
   replace ha:okLf l (a.drop 0):=ha
   replace hb:okLf l (b.drop 0):=hb
   clear H hu h h2 h3
   generalize 0=s at h1 ha hb ⊢
   induction L generalizing s l with
   | nil =>
    simp only [flatFs,Option.some.injEq] at h1
    subst h1
    have e1:a.drop s=[]:=List.length_eq_zero_iff.1 (okLf_len ha)
    have e2:b.drop s=[]:=List.length_eq_zero_iff.1 (okLf_len hb)
    rw [e1,e2]; simp [eqLf,pv_pure]
   | cons f fs ih =>
    unfold flatFs at h1
    split at h1
    ·rename_i lf hlf
     split at h1
     ·rename_i hc
      simp only [Bool.and_eq_true,Nat.beq_eq,bne_iff_ne,ne_eq] at hc
      split at h1
      ·rename_i m hm
       cases h1
       obtain ⟨a1,a2⟩:=okLf_app ha
       obtain ⟨b1,b2⟩:=okLf_app hb
       have pa:=pv_partF (P:=P) hlf (xs:=a) (o:=s) a1
       have pb:=pv_partF (P:=P) hlf (xs:=b) (o:=s) b1
       have q:=eq_flat hlf (e:=e) (by omega) a1 b1
       rw [List.drop_drop] at a2 b2
       have ih:=ih _ _ hm a2 b2
       rw [List.forIn_cons]
       simp only [pv_bind,hc.1,hc.2,ne_eq,not_false_eq_true,if_true,pa,pb,Option.bind_some,q]
       rw [eqLf_app ha hb]
       simp only [List.drop_drop]
       by_cases hh:eqLf ((a.drop s).take lf.length) ((b.drop s).take lf.length)=true
       ·simp only [hh,Bool.not_true,Bool.false_eq_true,if_false,pv_pure,Option.bind_some,Bool.true_and]
        exact ih
       ·simp only [Bool.not_eq_true] at hh
        simp only [hh,Bool.not_false,if_true,pv_pure,Option.bind_some,Bool.false_and]
      ·cases h1
     ·cases h1
    ·cases h1
  ·simp only [valF,hu]
   unfold Op.equalIn
   simp only [pv_bind,pv_underlying hu,Option.bind_some,sizeB_spec h4]
   simp only [Std.Legacy.Range.forIn_eq_forIn_range',Std.Legacy.Range.size,Nat.sub_zero,Nat.add_one_sub_one,Nat.div_one]
   subst h2
   have H:eqLf a b=eqLf (a.drop (0*m.length)) (b.drop (0*m.length)):=by simp
   rw [H]
   replace ha:okLf (repL n m) (a.drop (0*m.length)):=by simpa using ha
   replace hb:okLf (repL n m) (b.drop (0*m.length)):=by simpa using hb
   clear H hu h h3
   generalize 0=s at ha hb ⊢
   induction n generalizing s with
   | zero =>
    have e1:a.drop (s*m.length)=[]:=List.length_eq_zero_iff.1 (okLf_len ha)
    have e2:b.drop (s*m.length)=[]:=List.length_eq_zero_iff.1 (okLf_len hb)
    rw [e1,e2]; simp [eqLf,pv_pure]
   | succ n ih =>
    obtain ⟨a1,a2⟩:=repL_drop ha
    obtain ⟨b1,b2⟩:=repL_drop hb
    have pa:=pv_partF (P:=P) h1 (xs:=a) (o:=s*m.length) a1
    have pb:=pv_partF (P:=P) h1 (xs:=b) (o:=s*m.length) b1
    have q:=eq_flat h1 (e:=e) (by omega) a1 b1
    have es:(s+1)*m.length=s*m.length+m.length:=by rw [Nat.add_mul,Nat.one_mul]
    rw [List.drop_drop,← es] at a2 b2
    have ih:=ih _ a2 b2
    rw [List.range'_succ,List.forIn_cons]
    simp only [pv_bind,pa,pb,Option.bind_some,q]
    have ea:okLf (m ++ repL n m) (a.drop (s*m.length)):=ha
    have eb:okLf (m ++ repL n m) (b.drop (s*m.length)):=hb
    rw [eqLf_app ea eb]
    simp only [List.drop_drop,← es]
    by_cases hh:eqLf ((a.drop (s*m.length)).take m.length) ((b.drop (s*m.length)).take m.length)=true
    ·simp only [hh,Bool.not_true,Bool.false_eq_true,if_false,pv_pure,Option.bind_some,Bool.true_and]
     exact ih
    ·simp only [Bool.not_eq_true] at hh
     simp only [hh,Bool.not_false,if_true,pv_pure,Option.bind_some,Bool.false_and]
theorem eqLf_eq:∀ {l:List Bool} {a b:List Value},okLf l a→okLf l b→(eqLf a b=true↔a=b)
 | [],a,b,h,k=>by rw [okLf_n h,okLf_n k]; simp [eqLf]
 | false :: l,a,b,h,k=>by
  obtain ⟨z,a,rfl,h2⟩:=okLf_f h
  obtain ⟨y,b,rfl,k2⟩:=okLf_f k
  simp [eqLf,eqLf_eq h2 k2]
 | true :: l,a,b,h,k=>by
  obtain ⟨z,a,rfl,h2⟩:=okLf_t h
  obtain ⟨y,b,rfl,k2⟩:=okLf_t k
  simp [eqLf,eqLf_eq h2 k2]
def aggT (P:Program) (t:TypeId):Bool:=match P.underlying t with
 | some (.struct _)=>true
 | some (.array _ _)=>true
 | _=>false
theorem aggT_val {t:TypeId} (h:aggT P t=true) (l:List Value):valF P t l=.agg l.toArray:=by
 unfold aggT at h
 unfold valF
 split at h
 ·rename_i hu; rw [hu]
 ·rename_i hu; rw [hu]
 ·cases h
theorem chk_flat {q:Bool}:∀ {d:Nat} {t:TypeId} {l:List Bool},flatT P d t=some l→∀ {e:Nat},d≤e→∀ {a:List Value},okLf l a→(Instr.checkKey q e t (valF P t a)).pv P=some ()
 | 0,t,l,h,_,_,_,_=>by cases h
 | d+1,t,l,h,e,he,a,ha=>by
  obtain ⟨e,rfl⟩:∃ e',e=e'+1:=⟨e - 1,by omega⟩
  rcases flat_size h with ⟨hu,rfl⟩ | ⟨k,hu,rfl⟩ | ⟨fs,hu,h1,h2,h3⟩ | ⟨n,el,m,hu,h1,h2,h3,h4⟩
  ·obtain ⟨x,r,rfl,h1⟩:=okLf_t ha
   simp only [valF,hu,List.headD_cons]
   unfold Instr.checkKey
   simp only [pv_bind,pv_underlying hu,Option.bind_some]
   rfl
  ·obtain ⟨x,r,rfl,h1⟩:=okLf_f ha
   simp only [valF,hu,List.headD_cons]
   unfold Instr.checkKey
   simp only [pv_bind,pv_underlying hu,Option.bind_some]
   rfl
  ·simp only [valF,hu]
   unfold Instr.checkKey
   simp only [pv_bind,pv_underlying hu,Option.bind_some]
   obtain ⟨L⟩:=fs
   simp only [List.forIn_toArray]
   simp only at h1
   replace ha:okLf l (a.drop 0):=ha
   clear hu h h2 h3
   generalize 0=s at h1 ha ⊢
   induction L generalizing s l with
   | nil=>simp [pv_pure]
   | cons f fs ih =>
    unfold flatFs at h1
    split at h1
    ·rename_i lf hlf
     split at h1
     ·rename_i hc
      simp only [Bool.and_eq_true,Nat.beq_eq,bne_iff_ne,ne_eq] at hc
      split at h1
      ·rename_i m hm
       cases h1
       obtain ⟨a1,a2⟩:=okLf_app ha
       have pa:=pv_partF (P:=P) hlf (xs:=a) (o:=s) a1
       have pc:=chk_flat (q:=q) hlf (e:=e) (by omega) a1
       rw [List.drop_drop] at a2
       have ih:=ih _ _ hm a2
       rw [List.forIn_cons]
       simp only [pv_bind,hc.1,hc.2,ne_eq,not_false_eq_true,if_true,pa,Option.bind_some,pc,pv_pure]
       exact ih
      ·cases h1
     ·cases h1
    ·cases h1
  ·simp only [valF,hu]
   unfold Instr.checkKey
   simp only [pv_bind,pv_underlying hu,Option.bind_some]
   simp only [Std.Legacy.Range.forIn_eq_forIn_range',Std.Legacy.Range.size,Nat.sub_zero,Nat.add_one_sub_one,Nat.div_one]
   subst h2
   replace ha:okLf (repL n m) (a.drop (0*m.length)):=by simpa using ha
   clear hu h h3
   generalize 0=s at ha ⊢
   induction n generalizing s with
   | zero=>simp [pv_pure]
   | succ n ih =>
    obtain ⟨a1,a2⟩:=repL_drop ha
    have pa:=pv_partF (P:=P) h1 (xs:=a) (o:=s*m.length) a1
    have pc:=chk_flat (q:=q) h1 (e:=e) (by omega) a1
    have es:(s+1)*m.length=s*m.length+m.length:=by rw [Nat.add_mul,Nat.one_mul]
    rw [List.drop_drop,← es] at a2
    have ih:=ih _ a2
    rw [List.range'_succ,List.forIn_cons]
    simp only [pv_bind,sizeB_spec h4,pa,Option.bind_some,pc,pv_pure]
    exact ih
theorem bits_lf:∀ {l:List Bool} {a:List Value},okLf l a→∀ x ∈ a,∀ n,Instr.sameBits n x x=true
 | [],a,h,x,hx,n=>by rw [okLf_n h] at hx; cases hx
 | false :: l,a,h,x,hx,n=>by
  obtain ⟨z,a,rfl,h2⟩:=okLf_f h
  rcases List.mem_cons.1 hx with rfl | hx
  ·cases n <;> simp [Instr.sameBits]
  ·exact bits_lf h2 x hx n
 | true :: l,a,h,x,hx,n=>by
  obtain ⟨z,a,rfl,h2⟩:=okLf_t h
  rcases List.mem_cons.1 hx with rfl | hx
  ·cases n <;> simp [Instr.sameBits]
  ·exact bits_lf h2 x hx n
def leafV:SV→Value
 | .int _ z=>.int .i64 z
 | .dec p i=>.bool (@decide p i)
 | .bool b=>.bool b
 | _=>undef
def kindOK:List Bool→List SV→Bool
 | [],[]=>true
 | false :: l,.int .i64 _ :: cs=>kindOK l cs
 | true :: l,.dec _ _ :: cs=>kindOK l cs
 | true :: l,.bool _ :: cs=>kindOK l cs
 | _,_=>false
def intB:SV→Int
 | .int _ z=>z
 | _=>0
def prB:SV→Prop
 | .dec p _=>p
 | .bool b=>b=true
 | _=>False
def eqM:List SV→List SV→Prop
 | x :: xs,y :: ys=>(match x with
  | .int _ z=>z=intB y
  | x=>(prB x↔prB y))∧eqM xs ys
 | _,_=>True
theorem kind_f:∀ {l:List Bool} {cs:List SV},kindOK (false :: l) cs=true→∃ z r,cs=.int .i64 z :: r∧kindOK l r=true
 | l,.int .i64 z :: r,h=>⟨z,r,rfl,h⟩
theorem kind_t:∀ {l:List Bool} {cs:List SV},kindOK (true :: l) cs=true→∃ x r,cs=x :: r∧kindOK l r=true∧((∃ p i,x=.dec p i)∨∃ b,x=.bool b)
 | l,.dec p i :: r,h=>⟨_,r,rfl,h,.inl ⟨p,i,rfl⟩⟩
 | l,.bool b :: r,h=>⟨_,r,rfl,h,.inr ⟨b,rfl⟩⟩
theorem kind_n:∀ {cs:List SV},kindOK [] cs=true→cs=[]
 | [],_=>rfl
theorem kind_lf:∀ {l:List Bool} {cs:List SV},kindOK l cs=true→okLf l (cs.map leafV)∧scs (SV.denL cs)=some (cs.map leafV)
 | [],cs,h=>by rw [kind_n h]; exact ⟨trivial,rfl⟩
 | false :: l,cs,h=>by
  obtain ⟨z,r,rfl,h2⟩:=kind_f h
  obtain ⟨a,b⟩:=kind_lf h2
  exact ⟨a,by simp only [SV.denL,SV.den,scs,b]; rfl⟩
 | true :: l,cs,h=>by
  obtain ⟨x,r,rfl,h2,h3⟩:=kind_t h
  obtain ⟨a,b⟩:=kind_lf h2
  rcases h3 with ⟨p,i,rfl⟩ | ⟨c,rfl⟩
  ·exact ⟨a,by simp only [SV.denL,SV.den,scs,b]; rfl⟩
  ·exact ⟨a,by simp only [SV.denL,SV.den,scs,b]; rfl⟩
theorem kind_eq:∀ {l:List Bool} {cs ds:List SV},kindOK l cs=true→kindOK l ds=true→(eqLf (cs.map leafV) (ds.map leafV)=true↔eqM cs ds)
 | [],cs,ds,h,k=>by rw [kind_n h,kind_n k]; simp [eqLf,eqM]
 | false :: l,cs,ds,h,k=>by
  obtain ⟨z,r,rfl,h2⟩:=kind_f h
  obtain ⟨y,r',rfl,k2⟩:=kind_f k
  have ih:=kind_eq h2 k2
  simp only [List.map_cons,leafV,eqLf,eqM,intB,Bool.and_eq_true,decide_eq_true_eq,ih]
 | true :: l,cs,ds,h,k=>by
  obtain ⟨x,r,rfl,h2,h3⟩:=kind_t h
  obtain ⟨y,r',rfl,k2,k3⟩:=kind_t k
  have ih:=kind_eq h2 k2
  rcases h3 with ⟨p,i,rfl⟩ | ⟨c,rfl⟩ <;> rcases k3 with ⟨p',i',rfl⟩ | ⟨c',rfl⟩ <;>
   simp only [List.map_cons,leafV,eqLf,eqM,prB,Bool.and_eq_true,ih,beq_iff_eq] <;>
   refine and_congr_left fun _=>?_
  ·exact decide_eq_decide
  ·cases c' <;> simp
  ·cases c <;> simp
  ·exact Bool.eq_iff_iff
theorem toV_flat {l:List Bool} {cs:List SV} (h:kindOK l cs=true):toV (SV.agg cs).den=some (.agg (cs.map leafV).toArray):=by
 show (scs (SV.denL cs)).map _=_
 rw [(kind_lf h).2]; rfl
end Go.Lg

namespace Go.Lg
open Go.RowKit
variable {P:Program}

def shP (n:Int):Int:=2 ^ n.toNat
def bitA (K:IntKind) (m n:Int):Int:=K.wrap ((BitVec.ofInt K.bits m &&& BitVec.ofInt K.bits n).toNat:Nat)
def bitO (K:IntKind) (m n:Int):Int:=K.wrap ((BitVec.ofInt K.bits m ||| BitVec.ofInt K.bits n).toNat:Nat)
def bitX (K:IntKind) (m n:Int):Int:=K.wrap ((BitVec.ofInt K.bits m ^^^ BitVec.ofInt K.bits n).toNat:Nat)
def bitN (K:IntKind) (m n:Int):Int:=K.wrap ((BitVec.ofInt K.bits m &&& ~~~ BitVec.ofInt K.bits n).toNat:Nat)
def intS (op:BinOp) (K:IntKind) (m n:Int) (k:SV→Prop) (e:Prop):Prop:=match op with
 | .add=>rngP K (m+n)∧k (.int K (m+n))
 | .sub=>rngP K (m - n)∧k (.int K (m - n))
 | .mul=>rngP K (m*n)∧k (.int K (m*n))
 | .quo=>n≠0∧rngP K (m.tdiv n)∧k (.int K (m.tdiv n))
 | .rem=>n≠0∧k (.int K (m.tmod n))
 | .eql=>k (.dec (m=n) inferInstance)
 | .neq=>k (.dec (¬ m=n) inferInstance)
 | .lss=>k (.dec (m<n) inferInstance)
 | .leq=>k (.dec (m≤n) inferInstance)
 | .gtr=>k (.dec (n<m) inferInstance)
 | .geq=>k (.dec (n≤m) inferInstance)
 | .shl=>(0≤n∧n≤K.bits)∧rngP K (m*shP n)∧k (.int K (m*shP n))
 | .shr=>(0≤n∧n≤K.bits)∧k (.int K (m.fdiv (shP n)))
 | .and=>k (.int K (bitA K m n))
 | .or=>k (.int K (bitO K m n))
 | .xor=>k (.int K (bitX K m n))
 | .andNot=>k (.int K (bitN K m n))
def genS (P:Program) (op:BinOp) (t:TypeId) (x y:Operand) (a b:SV) (k:SV→Prop):Prop:=∃ v:SV,aBin P op t x y a.den b.den v.den∧k v
theorem shl_bin {P:Program} {t:TypeId} {x y:Operand} {K:IntKind} {m n:Int} (h1:0≤n∧n≤K.bits) (h2:inR K (m*shP n)):aBin P .shl t x y (SV.int K m).den (SV.int K n).den (SV.int K (m*shP n)).den:=by
 have hn:¬ n<0:=by omega
 have hm:min n.toNat K.bits=n.toNat:=by omega
 refine ⟨.int K m,.int K n,.int K (m*shP n),rfl,rfl,?_,rfl⟩
 show (do eqGuard .shl t x y (.int K m) (.int K n); Op.shift .shl K m K n:Sem Value).pv P=_
 have e:Op.shift .shl K m K n=pure (.int K (m*shP n)):=by
  simp only [Op.shift,hn,if_false,hm]
  unfold shP at h2 ⊢
  rw [wrap_inR h2]
 rw [e]; rfl
theorem shr_bin {P:Program} {t:TypeId} {x y:Operand} {K:IntKind} {m n:Int} (h1:0≤n∧n≤K.bits):aBin P .shr t x y (SV.int K m).den (SV.int K n).den (SV.int K (m.fdiv (shP n))).den:=by
 have hn:¬ n<0:=by omega
 have hm:min n.toNat K.bits=n.toNat:=by omega
 refine ⟨.int K m,.int K n,.int K (m.fdiv (shP n)),rfl,rfl,?_,rfl⟩
 show (do eqGuard .shr t x y (.int K m) (.int K n); Op.shift .shr K m K n:Sem Value).pv P=_
 have e:Op.shift .shr K m K n=pure (.int K (m.fdiv (shP n))):=by
  simp only [Op.shift,hn,if_false,hm]
  rfl
 rw [e]; rfl
theorem and_bin {P:Program} {t:TypeId} {x y:Operand} {K:IntKind} {m n:Int}:aBin P .and t x y (SV.int K m).den (SV.int K n).den (SV.int K (bitA K m n)).den:=by
 refine ⟨.int K m,.int K n,.int K (bitA K m n),rfl,rfl,?_,rfl⟩
 have e:binOp .and t (.int K m) (.int K n)=pure (.int K (bitA K m n)):=by simp [binOp,Op.intBits,bitA]
 rw [e]; rfl
theorem or_bin {P:Program} {t:TypeId} {x y:Operand} {K:IntKind} {m n:Int}:aBin P .or t x y (SV.int K m).den (SV.int K n).den (SV.int K (bitO K m n)).den:=by
 refine ⟨.int K m,.int K n,.int K (bitO K m n),rfl,rfl,?_,rfl⟩
 have e:binOp .or t (.int K m) (.int K n)=pure (.int K (bitO K m n)):=by simp [binOp,Op.intBits,bitO]
 rw [e]; rfl
theorem xor_bin {P:Program} {t:TypeId} {x y:Operand} {K:IntKind} {m n:Int}:aBin P .xor t x y (SV.int K m).den (SV.int K n).den (SV.int K (bitX K m n)).den:=by
 refine ⟨.int K m,.int K n,.int K (bitX K m n),rfl,rfl,?_,rfl⟩
 have e:binOp .xor t (.int K m) (.int K n)=pure (.int K (bitX K m n)):=by simp [binOp,Op.intBits,bitX]
 rw [e]; rfl
theorem andN_bin {P:Program} {t:TypeId} {x y:Operand} {K:IntKind} {m n:Int}:aBin P .andNot t x y (SV.int K m).den (SV.int K n).den (SV.int K (bitN K m n)).den:=by
 refine ⟨.int K m,.int K n,.int K (bitN K m n),rfl,rfl,?_,rfl⟩
 have e:binOp .andNot t (.int K m) (.int K n)=pure (.int K (bitN K m n)):=by simp [binOp,Op.intBits,bitN]
 rw [e]; rfl
def propOf:SV→Option ((p:Prop) × Decidable p)
 | .dec p i=>some ⟨p,i⟩
 | .bool b=>some ⟨b=true,inferInstance⟩
 | _=>none
def boolS (op:BinOp) (p q:Prop) (ip:Decidable p) (iq:Decidable q) (k:SV→Prop) (e:Prop):Prop:=match op with
 | .eql=>k (.dec (p↔q) inferInstance)
 | .neq=>k (.dec (¬ (p↔q)) inferInstance)
 | _=>e
def pairS (P:Program) (t:TypeId) (cs ds:List SV) (k:Int→Int→Int→Int→Prop) (e:Prop):Prop:=match cs with
 | [.int K m,.int K' m']=>(match ds with
  | [.int L n,.int L' n']=>ifP (kindEq L K) (ifP (kindEq L' K') (ifP (pairTy P t) (k m m' n n')))
  | _=>e)
 | _=>e
def isB:SV→Bool
 | .dec _ _=>true
 | .bool _=>true
 | _=>false
def decP:SV→Prop
 | .dec p _=>p
 | .bool b=>b=true
 | _=>False
noncomputable def allB (cs:List SV):Bool:=List.rec (motive:=fun _=>Bool) true (fun x _ ih=>and (isB x) ih) cs
theorem isB_den {x:SV} (h:isB x=true):x.den=.sc (.bool (@decide (decP x) (Classical.propDecidable _))):=by
 cases x with
 | dec p i=>simp only [SV.den,decP]; congr 2; by_cases hp:p <;> simp [hp]
 | bool b=>simp only [SV.den,decP]; congr 2; cases b <;> simp
 | _=>cases h
def eqB:List SV→List SV→Prop
 | x :: xs,y :: ys=>(decP x↔decP y)∧eqB xs ys
 | [],[]=>True
 | _,_=>False
noncomputable def boolsOf (cs:List SV):List Bool:=cs.map fun x=>@decide (decP x) (Classical.propDecidable _)
theorem denL_bools:∀ {cs:List SV},allB cs=true→SV.denL cs=(boolsOf cs).map fun q=>AV.sc (.bool q)
 | [],_=>rfl
 | x :: cs,h=>by
  have h:(isB x && allB cs)=true:=h
  simp only [Bool.and_eq_true] at h
  simp only [SV.denL,isB_den h.1,denL_bools h.2,boolsOf,List.map_cons]
theorem scs_bools:∀ a:List Bool,scs (a.map fun q=>AV.sc (.bool q))=some (a.map Value.bool)
 | []=>rfl
 | q :: a=>by simp [scs,scs_bools a]
theorem bools_eq:∀ {cs ds:List SV},boolsOf cs=boolsOf ds↔eqB cs ds
 | [],[]=>by simp [boolsOf,eqB]
 | [],y :: ds=>by simp [boolsOf,eqB]
 | x :: cs,[]=>by simp [boolsOf,eqB]
 | x :: cs,y :: ds=>by
  have ih:=bools_eq (cs:=cs) (ds:=ds)
  unfold boolsOf at ih
  simp only [boolsOf,List.map_cons,List.cons.injEq,eqB,ih,decide_eq_decide]
def arrTy (P:Program) (t:TypeId) (n:Nat):Bool:=match P.underlying t with
 | some (.array m e)=>(match P.underlying e with
  | some .bool=>(match P.info? e with
   | some i=>Nat.beq i.size 1 && Nat.beq m n && !P.eqGuardType P.depth t
   | none=>false)
  | _=>false)
 | _=>false
theorem arr_bin {t:TypeId} {n:Nat} (h:arrTy P t n=true) (x y:Operand) {cs ds:List SV} (hc:allB cs=true) (hd:allB ds=true) (lc:cs.length=n) (ld:ds.length=n) :
  aBin P .eql t x y (SV.agg cs).den (SV.agg ds).den (SV.dec (eqB cs ds) (Classical.propDecidable _)).den ∧
  aBin P .neq t x y (SV.agg cs).den (SV.agg ds).den (SV.dec (¬ eqB cs ds) (Classical.propDecidable _)).den:=by
 unfold arrTy at h
 split at h
 ·rename_i m e hu
  split at h
  ·rename_i he
   split at h
   ·rename_i i hi
    simp only [Bool.and_eq_true,Nat.beq_eq,Bool.not_eq_true'] at h
    obtain ⟨⟨h1,rfl⟩,hg⟩:=h
    have la:(boolsOf cs).length=m:=by simp [boolsOf,lc]
    have lb:(boolsOf ds).length=m:=by simp [boolsOf,ld]
    have E:=pv_arrB (d:=9998) hu he hi h1 la lb
    have E:(Op.equal t (.agg ((boolsOf cs).map Value.bool).toArray) (.agg ((boolsOf ds).map Value.bool).toArray)).pv P=some (decide (boolsOf cs=boolsOf ds)):=E
    have tv:∀ {l:List SV},allB l=true→toV (SV.agg l).den=some (.agg ((boolsOf l).map Value.bool).toArray):=fun {l} hl=>by
     show (scs (SV.denL l)).map _=_
     rw [denL_bools hl,scs_bools]; rfl
    constructor
    ·refine ⟨_,_,.bool (decide (boolsOf cs=boolsOf ds)),tv hc,tv hd,?_,?_⟩
     ·have g:(eqGuard .eql t x y (.agg ((boolsOf cs).map Value.bool).toArray) (.agg ((boolsOf ds).map Value.bool).toArray)).pv P=some ():=by
       unfold eqGuard
       simp [pv_bind,pv_program,hg]
      rw [pv_bind,g]
      show (binOp .eql t (.agg _) (.agg _)).pv P=_
      unfold binOp
      simp only [pv_bind]
      rw [E]; rfl
     ·simp only [SV.den,ofV]
      congr 2
      exact decide_eq_decide.2 bools_eq.symm
    ·refine ⟨_,_,.bool (!decide (boolsOf cs=boolsOf ds)),tv hc,tv hd,?_,?_⟩
     ·have g:(eqGuard .neq t x y (.agg ((boolsOf cs).map Value.bool).toArray) (.agg ((boolsOf ds).map Value.bool).toArray)).pv P=some ():=by
       unfold eqGuard
       simp [pv_bind,pv_program,hg]
      rw [pv_bind,g]
      show (binOp .neq t (.agg _) (.agg _)).pv P=_
      unfold binOp
      simp only [pv_bind]
      rw [E]; rfl
     ·simp only [SV.den,ofV]
      congr 2
      rw [← decide_not]
      exact decide_eq_decide.2 (not_congr bools_eq.symm)
   ·cases h
  ·cases h
 ·cases h
noncomputable def arrS (P:Program) (t:TypeId) (cs ds:List SV) (k:Prop→Prop) (e:Prop):Prop:=match and (allB cs) (and (allB ds) (and (Nat.beq cs.length ds.length) (arrTy P t cs.length))) with
 | true=>k (eqB cs ds)
 | false=>e
theorem arrS_spec {t cs ds} {k:Prop→Prop} {e:Prop} (h:arrS P t cs ds k e):e∨(allB cs=true∧allB ds=true∧ds.length=cs.length∧arrTy P t cs.length=true∧k (eqB cs ds)):=by
 unfold arrS at h
 split at h
 ·rename_i hc
  have hc:(allB cs && (allB ds && (Nat.beq cs.length ds.length && arrTy P t cs.length)))=true:=hc
  simp only [Bool.and_eq_true,Nat.beq_eq] at hc
  exact .inr ⟨hc.1,hc.2.1,hc.2.2.1.symm,hc.2.2.2,h⟩
 ·exact .inl h
def isI:SV→Bool
 | .int .i64 _=>true
 | _=>false
def numI:SV→Int
 | .int _ z=>z
 | _=>0
def allI:List SV→Bool
 | []=>true
 | x :: xs=>isI x && allI xs
def eqZ:List SV→List SV→Prop
 | x :: xs,y :: ys=>numI x=numI y∧eqZ xs ys
 | _,_=>True
theorem isI_den {x:SV} (h:isI x=true):x.den=.sc (.int .i64 (numI x)):=by
 unfold isI at h
 split at h
 ·rfl
 ·cases h
theorem denL_ints:∀ {cs:List SV},allI cs=true→SV.denL cs=(cs.map numI).map fun z=>AV.sc (.int .i64 z)
 | [],_=>rfl
 | x :: cs,h=>by
  have h:(isI x && allI cs)=true:=h
  simp only [Bool.and_eq_true] at h
  simp only [SV.denL,isI_den h.1,denL_ints h.2,List.map_cons]
theorem scs_ints:∀ a:List Int,scs (a.map fun z=>AV.sc (.int .i64 z))=some (a.map (Value.int .i64))
 | []=>rfl
 | q :: a=>by simp [scs,scs_ints a]
theorem ints_eq:∀ {cs ds:List SV},ds.length=cs.length→(cs.map numI=ds.map numI↔eqZ cs ds)
 | [],[],_=>by simp [eqZ]
 | x :: cs,y :: ds,h=>by
  have ih:=ints_eq (cs:=cs) (ds:=ds) (by simpa using h)
  simp only [List.map_cons,List.cons.injEq,eqZ,ih]
def strTy (P:Program) (t:TypeId) (n:Nat):Bool:=match P.underlying t with
 | some (.struct fs)=>Nat.beq fs.size n && (okFs P fs.toList 0 && (!P.stoodInHeld t && !P.eqGuardType P.depth t))
 | _=>false
theorem str_bin {t:TypeId} {n:Nat} (h:strTy P t n=true) (x y:Operand) {cs ds:List SV} (hc:allI cs=true) (hd:allI ds=true) (lc:cs.length=n) (ld:ds.length=n) :
  aBin P .eql t x y (SV.agg cs).den (SV.agg ds).den (SV.dec (eqZ cs ds) (Classical.propDecidable _)).den ∧
  aBin P .neq t x y (SV.agg cs).den (SV.agg ds).den (SV.dec (¬ eqZ cs ds) (Classical.propDecidable _)).den:=by
 unfold strTy at h
 split at h
 ·rename_i fs hu
  simp only [Bool.and_eq_true,Nat.beq_eq,Bool.not_eq_true'] at h
  obtain ⟨h1,hf,hs,hg⟩:=h
  have E:=pv_structN (P:=P) (d:=9998) (k:=.i64) (a:=cs.map numI) (b:=ds.map numI) hu hs hf (by simp [lc,h1]) (by simp [ld,h1])
  have E:(Op.equal t (.agg ((cs.map numI).map (Value.int .i64)).toArray) (.agg ((ds.map numI).map (Value.int .i64)).toArray)).pv P=some (decide (cs.map numI=ds.map numI)):=E
  have tv:∀ {l:List SV},allI l=true→toV (SV.agg l).den=some (.agg ((l.map numI).map (Value.int .i64)).toArray):=fun {l} hl=>by
   show (scs (SV.denL l)).map _=_
   rw [denL_ints hl,scs_ints]; rfl
  have ie:=ints_eq (cs:=cs) (ds:=ds) (by omega)
  constructor
  ·refine ⟨_,_,.bool (decide (cs.map numI=ds.map numI)),tv hc,tv hd,?_,?_⟩
   ·have g:(eqGuard .eql t x y (.agg ((cs.map numI).map (Value.int .i64)).toArray) (.agg ((ds.map numI).map (Value.int .i64)).toArray)).pv P=some ():=by
     unfold eqGuard
     simp [pv_bind,pv_program,hg]
    rw [pv_bind,g]
    show (binOp .eql t (.agg _) (.agg _)).pv P=_
    unfold binOp
    simp only [pv_bind]
    rw [E]; rfl
   ·simp only [SV.den,ofV]
    congr 2
    exact decide_eq_decide.2 ie.symm
  ·refine ⟨_,_,.bool (!decide (cs.map numI=ds.map numI)),tv hc,tv hd,?_,?_⟩
   ·have g:(eqGuard .neq t x y (.agg ((cs.map numI).map (Value.int .i64)).toArray) (.agg ((ds.map numI).map (Value.int .i64)).toArray)).pv P=some ():=by
     unfold eqGuard
     simp [pv_bind,pv_program,hg]
    rw [pv_bind,g]
    show (binOp .neq t (.agg _) (.agg _)).pv P=_
    unfold binOp
    simp only [pv_bind]
    rw [E]; rfl
   ·simp only [SV.den,ofV]
    congr 2
    rw [← decide_not]
    exact decide_eq_decide.2 (not_congr ie.symm)
 ·cases h
noncomputable def strS (P:Program) (t:TypeId) (cs ds:List SV) (k:Prop→Prop) (e:Prop):Prop:=match and (allI cs) (and (allI ds) (and (Nat.beq cs.length ds.length) (strTy P t cs.length))) with
 | true=>k (eqZ cs ds)
 | false=>e
theorem strS_spec {t cs ds} {k:Prop→Prop} {e:Prop} (h:strS P t cs ds k e):e∨(allI cs=true∧allI ds=true∧ds.length=cs.length∧strTy P t cs.length=true∧k (eqZ cs ds)):=by
 unfold strS at h
 split at h
 ·rename_i hc
  have hc:(allI cs && (allI ds && (Nat.beq cs.length ds.length && strTy P t cs.length)))=true:=hc
  simp only [Bool.and_eq_true,Nat.beq_eq] at hc
  exact .inr ⟨hc.1,hc.2.1,hc.2.2.1.symm,hc.2.2.2,h⟩
 ·exact .inl h
noncomputable def mixS (P:Program) (t:TypeId) (cs ds:List SV) (k:Prop→Prop) (e:Prop):Prop:=match flatT P 6 t with
 | some l=>(match and (kindOK l cs) (and (kindOK l ds) (and (aggT P t) (not (P.eqGuardType P.depth t)))) with
  | true=>k (eqM cs ds)
  | false=>e)
 | none=>e
theorem mixS_spec {t cs ds} {k:Prop→Prop} {e:Prop} (h:mixS P t cs ds k e):e∨∃ l,flatT P 6 t=some l∧kindOK l cs=true∧kindOK l ds=true∧aggT P t=true∧P.eqGuardType P.depth t=false∧k (eqM cs ds):=by
 unfold mixS at h
 split at h
 ·rename_i l hl
  split at h
  ·rename_i hc
   have hc:(kindOK l cs && (kindOK l ds && (aggT P t && !(P.eqGuardType P.depth t))))=true:=hc
   simp only [Bool.and_eq_true,Bool.not_eq_true'] at hc
   exact .inr ⟨l,hl,hc.1,hc.2.1,hc.2.2.1,hc.2.2.2,h⟩
  ·exact .inl h
 ·exact .inl h
theorem mix_bin {t:TypeId} {l:List Bool} (h:flatT P 6 t=some l) (ha:aggT P t=true) (hg:P.eqGuardType P.depth t=false) (x y:Operand) {cs ds:List SV} (hc:kindOK l cs=true) (hd:kindOK l ds=true) :
  aBin P .eql t x y (SV.agg cs).den (SV.agg ds).den (SV.dec (eqM cs ds) (Classical.propDecidable _)).den ∧
  aBin P .neq t x y (SV.agg cs).den (SV.agg ds).den (SV.dec (¬ eqM cs ds) (Classical.propDecidable _)).den:=by
 have E:=eq_flat (P:=P) h (e:=10000) (by omega) (kind_lf hc).1 (kind_lf hd).1
 rw [aggT_val ha,aggT_val ha] at E
 have E:(Op.equal t (.agg (cs.map leafV).toArray) (.agg (ds.map leafV).toArray)).pv P=some (eqLf (cs.map leafV) (ds.map leafV)):=E
 have ie:=kind_eq hc hd
 constructor
 ·refine ⟨_,_,.bool (eqLf (cs.map leafV) (ds.map leafV)),toV_flat hc,toV_flat hd,?_,?_⟩
  ·have g:(eqGuard .eql t x y (.agg (cs.map leafV).toArray) (.agg (ds.map leafV).toArray)).pv P=some ():=by
    unfold eqGuard
    simp [pv_bind,pv_program,hg]
   rw [pv_bind,g]
   show (binOp .eql t (.agg _) (.agg _)).pv P=_
   unfold binOp
   simp only [pv_bind]
   rw [E]; rfl
  ·simp only [SV.den,ofV]
   congr 2
   rw [Bool.eq_iff_iff]; exact Iff.trans (@decide_eq_true_iff _ (Classical.propDecidable _)) ie.symm
 ·refine ⟨_,_,.bool (!eqLf (cs.map leafV) (ds.map leafV)),toV_flat hc,toV_flat hd,?_,?_⟩
  ·have g:(eqGuard .neq t x y (.agg (cs.map leafV).toArray) (.agg (ds.map leafV).toArray)).pv P=some ():=by
    unfold eqGuard
    simp [pv_bind,pv_program,hg]
   rw [pv_bind,g]
   show (binOp .neq t (.agg _) (.agg _)).pv P=_
   unfold binOp
   simp only [pv_bind]
   rw [E]; rfl
  ·simp only [SV.den,ofV]
   congr 2
   rw [Bool.eq_iff_iff]; refine Iff.trans (@decide_eq_true_iff _ (Classical.propDecidable _)) ?_
   rw [← ie]; simp
noncomputable def aggS (P:Program) (op:BinOp) (t:TypeId) (x y:Operand) (cs:List SV) (b:SV) (k:SV→Prop):Prop:=match b with
 | .agg ds=>(match op with
  | .eql=>pairS P t cs ds (fun m m' n n'=>k (.dec (m=n∧m'=n') inferInstance)) (arrS P t cs ds (fun p=>k (.dec p (Classical.propDecidable _))) (strS P t cs ds (fun p=>k (.dec p (Classical.propDecidable _))) (mixS P t cs ds (fun p=>k (.dec p (Classical.propDecidable _))) (genS P op t x y (.agg cs) (.agg ds) k))))
  | .neq=>pairS P t cs ds (fun m m' n n'=>k (.dec (¬ (m=n∧m'=n')) inferInstance)) (arrS P t cs ds (fun p=>k (.dec (¬ p) (Classical.propDecidable _))) (strS P t cs ds (fun p=>k (.dec (¬ p) (Classical.propDecidable _))) (mixS P t cs ds (fun p=>k (.dec (¬ p) (Classical.propDecidable _))) (genS P op t x y (.agg cs) (.agg ds) k))))
  | op=>genS P op t x y (.agg cs) (.agg ds) k)
 | b=>genS P op t x y (.agg cs) b k
theorem pairS_spec {t cs ds} {k:Int→Int→Int→Int→Prop} {e:Prop} (h:pairS P t cs ds k e) :
  e∨∃ K K' m m' n n',cs=[.int K m,.int K' m']∧ds=[.int K n,.int K' n']∧pairTy P t=true∧k m m' n n':=by
 unfold pairS at h
 split at h
 ·rename_i K m K' m'
  split at h
  ·rename_i L n L' n'
   obtain ⟨h1,g1⟩:=ifP_spec h
   obtain ⟨h2,g2⟩:=ifP_spec g1
   obtain ⟨h3,g3⟩:=ifP_spec g2
   cases kindEq_spec h1
   cases kindEq_spec h2
   exact .inr ⟨_,_,_,_,_,_,rfl,rfl,h3,g3⟩
  ·exact .inl h
 ·exact .inl h
theorem aggS_spec {op t x y cs b} {k:SV→Prop} (h:aggS P op t x y cs b k):∃ v:SV,aBin P op t x y (SV.agg cs).den b.den v.den∧k v:=by
 unfold aggS at h
 split at h
 ·split at h
  ·rcases pairS_spec h with h | ⟨K,K',m,m',n,n',rfl,rfl,h3,g⟩
   ·rcases arrS_spec h with h | ⟨a1,a2,a3,a4,g⟩
    ·rcases strS_spec h with h | ⟨a1,a2,a3,a4,g⟩
     ·rcases mixS_spec h with h | ⟨l,b1,b2,b3,b4,b5,g⟩
      ·exact h
      ·exact ⟨_,(mix_bin b1 b4 b5 x y b2 b3).1,g⟩
     ·exact ⟨_,(str_bin a4 x y a1 a2 rfl a3).1,g⟩
    ·exact ⟨_,(arr_bin a4 x y a1 a2 rfl a3).1,g⟩
   ·exact ⟨.dec (m=n∧m'=n') inferInstance,pairTy_spec h3 x y K K' m m' n n',g⟩
  ·rcases pairS_spec h with h | ⟨K,K',m,m',n,n',rfl,rfl,h3,g⟩
   ·rcases arrS_spec h with h | ⟨a1,a2,a3,a4,g⟩
    ·rcases strS_spec h with h | ⟨a1,a2,a3,a4,g⟩
     ·rcases mixS_spec h with h | ⟨l,b1,b2,b3,b4,b5,g⟩
      ·exact h
      ·exact ⟨_,(mix_bin b1 b4 b5 x y b2 b3).2,g⟩
     ·exact ⟨_,(str_bin a4 x y a1 a2 rfl a3).2,g⟩
    ·exact ⟨_,(arr_bin a4 x y a1 a2 rfl a3).2,g⟩
   ·exact ⟨.dec (¬ (m=n∧m'=n')) inferInstance,pairTy_neq h3 x y K K' m m' n n',g⟩
  ·exact h
 ·exact h
def logS (P:Program) (op:BinOp) (t:TypeId) (x y:Operand) (a b:SV) (k:SV→Prop):Prop:=match P.underlying t with
 | some .bool=>(match propOf a with
  | some ⟨p,ip⟩=>(match propOf b with
   | some ⟨q,iq⟩=>boolS op p q ip iq k (genS P op t x y a b k)
   | none=>genS P op t x y a b k)
  | none=>genS P op t x y a b k)
 | _=>genS P op t x y a b k
theorem propOf_spec {a:SV} {p:Prop} {i:Decidable p} (h:propOf a=some ⟨p,i⟩):a.den=.sc (.bool (@decide p i)):=by
 unfold propOf at h
 split at h
 ·cases h; rfl
 ·rename_i b; cases h; simp [SV.den]
 ·cases h
theorem dec_iff (p q:Prop) [ip:Decidable p] [iq:Decidable q]:(decide p == decide q)=decide (p↔q):=by
 by_cases hp:p <;> by_cases hq:q <;> simp [hp,hq]
theorem logS_spec {op t x y a b} {k:SV→Prop} (h:logS P op t x y a b k):∃ v:SV,aBin P op t x y a.den b.den v.den∧k v:=by
 unfold logS at h
 split at h
 ·rename_i hu
  split at h
  ·rename_i p ip ha
   split at h
   ·rename_i q iq hb
    unfold boolS at h
    split at h
    ·refine ⟨.dec (p↔q) inferInstance,?_,h⟩
     rw [propOf_spec ha,propOf_spec hb]
     have:=bool_eql hu x y (decide p) (decide q)
     rw [dec_iff] at this
     exact this
    ·refine ⟨.dec (¬ (p↔q)) inferInstance,?_,h⟩
     rw [propOf_spec ha,propOf_spec hb]
     have:=bool_neq hu x y (decide p) (decide q)
     rw [dec_iff] at this
     simpa [SV.den] using this
    ·exact h
   ·exact h
  ·exact h
 ·exact h
def binS (P:Program) (op:BinOp) (t:TypeId) (x y:Operand) (a b:SV) (k:SV→Prop):Prop:=match a with
 | .int K m=>(match b with
  | .int K' n=>ifP (kindEq K' K) (intS op K m n k (genS P op t x y (.int K m) (.int K' n) k))
  | b=>genS P op t x y (.int K m) b k)
 | .agg cs=>aggS P op t x y cs b k
 | .dec p i=>logS P op t x y (.dec p i) b k
 | .bool c=>logS P op t x y (.bool c) b k
 | a=>genS P op t x y a b k
theorem binS_spec {op t x y a b} {k:SV→Prop} (h:binS P op t x y a b k):∃ v:SV,aBin P op t x y a.den b.den v.den∧k v:=by
 unfold binS at h
 split at h
 ·rename_i K m
  split at h
  ·rename_i K' n
   obtain ⟨hk,h⟩:=ifP_spec h
   have hk:=kindEq_spec hk
   subst hk
   have ab:∀ v,aBin P op t x y (SV.int K' m).den (SV.int K' n).den v=aBinInt P op t x y K' m K' n v:=fun v=>rfl
   unfold intS at h
   cases op <;> simp only at h
   case add=>exact ⟨_,by rw [ab]; exact ⟨rfl,by rw [wrap_inR (rngP_spec h.1)]; rfl⟩,h.2⟩
   case sub=>exact ⟨_,by rw [ab]; exact ⟨rfl,by rw [wrap_inR (rngP_spec h.1)]; rfl⟩,h.2⟩
   case mul=>exact ⟨_,by rw [ab]; exact ⟨rfl,by rw [wrap_inR (rngP_spec h.1)]; rfl⟩,h.2⟩
   case quo=>exact ⟨_,by rw [ab]; exact ⟨rfl,h.1,rngP_spec h.2.1,rfl⟩,h.2.2⟩
   case rem=>exact ⟨_,by rw [ab]; exact ⟨rfl,h.1,rfl⟩,h.2⟩
   case eql=>exact ⟨_,by rw [ab]; exact ⟨rfl,rfl⟩,h⟩
   case neq=>exact ⟨_,by rw [ab]; exact ⟨rfl,by simp [SV.den]⟩,h⟩
   case lss=>exact ⟨_,by rw [ab]; exact ⟨rfl,rfl⟩,h⟩
   case leq=>exact ⟨_,by rw [ab]; exact ⟨rfl,rfl⟩,h⟩
   case gtr=>exact ⟨_,by rw [ab]; exact ⟨rfl,rfl⟩,h⟩
   case geq=>exact ⟨_,by rw [ab]; exact ⟨rfl,rfl⟩,h⟩
   case shl=>exact ⟨_,shl_bin h.1 (rngP_spec h.2.1),h.2.2⟩
   case shr=>exact ⟨_,shr_bin h.1,h.2⟩
   case and=>exact ⟨_,and_bin,h⟩
   case or=>exact ⟨_,or_bin,h⟩
   case xor=>exact ⟨_,xor_bin,h⟩
   case andNot=>exact ⟨_,andN_bin,h⟩
   all_goals exact h
  ·exact h
 ·exact aggS_spec h
 ·exact logS_spec h
 ·exact logS_spec h
 ·exact h
def unS (P:Program) (op:UnOp) (x:SV) (k:SV→Prop):Prop:=match op,x with
 | .not,.bool b=>k (.bool (!b))
 | .not,.dec p i=>k (.dec (¬ p) inferInstance)
 | .neg,.int K n=>rngP K (0 - n)∧k (.int K (0 - n))
 | op,x=>∃ v:SV,aUn P op x.den v.den∧k v
theorem unS_spec {op x} {k:SV→Prop} (h:unS P op x k):∃ v:SV,aUn P op x.den v.den∧k v:=by
 unfold unS at h
 split at h
 ·rename_i b; exact ⟨.bool (!b),by simp [SV.den,aUn],h⟩
 ·rename_i p i; exact ⟨.dec (¬ p) inferInstance,by simp [SV.den,aUn],h⟩
 ·exact ⟨_,⟨rngP_spec h.1,rfl⟩,h.2⟩
 ·exact h
def convS (P:Program) (s d:TypeId) (x:SV) (k:SV→Prop):Prop:=match P.underlying d,x with
 | some (.int K),.int K' n=>ifP (known P s) (rngP K n∧k (.int K n))
 | _,x=>∃ v:SV,aConv P s d x.den v.den∧k v
theorem convS_spec {s d x} {k:SV→Prop} (h:convS P s d x k):∃ v:SV,aConv P s d x.den v.den∧k v:=by
 unfold convS at h
 split at h
 ·rename_i K K' n hd
  obtain ⟨hk,h1,h2⟩:=ifP_spec h
  exact ⟨_,by simp only [aConv,SV.den,hd]; exact ⟨hk,by rw [wrap_inR (rngP_spec h1)]⟩,h2⟩
 ·exact h
noncomputable def packS (q:Option (Option Nat)) (cs:List SV) (j:Nat) (k:SV→Prop):Prop:=match q with
 | some (some n)=>takeS n (dropS cs j) fun c=>k (.agg c)
 | some none=>nthS cs j k
 | none=>False
theorem packS_spec {t cs j} {k:SV→Prop} (h:packS (packN P t) cs j k):∃ v:SV,pack P t ((SV.denL cs).drop j)=some v.den∧k v:=by
 unfold packS at h
 rw [← packC_eq]
 unfold packC
 split at h
 ·rename_i n hq
  obtain ⟨h1,h2⟩:=takeS_spec h
  rw [dropS_eq] at h1 h2
  refine ⟨_,?_,h2⟩
  rw [hq]
  have e:n≤((SV.denL cs).drop j).length:=by rw [← denL_drop,denL_length]; exact h1
  show (if _ then _ else _)=_
  rw [if_pos e,← denL_drop,← denL_take]; rfl
 ·rename_i hq
  obtain ⟨e,h1,h2⟩:=nthS_spec h
  refine ⟨e,?_,h2⟩
  rw [hq]
  show ((SV.denL cs).drop j).head?=_
  rw [List.head?_drop]; exact denL_get h1
 ·exact h.elim
noncomputable def allInt (K:IntKind) (cs:List SV):Bool:=List.rec (motive:=fun _=>Bool) true (fun x _ ih=>match x with
 | .int K' _=>and (kindEq K' K) ih
 | _=>false) cs
def kindOf:List SV→Option IntKind
 | .int K _ :: _=>some K
 | _=>none
def numZ:SV→Int
 | .int _ z=>z
 | _=>0
def cellZ:List SV→Nat→Int
 | [],_=>0
 | x :: _,0=>numZ x
 | _ :: cs,j+1=>cellZ cs j
theorem allInt_get {K:IntKind}:∀ {cs:List SV},allInt K cs=true→∀ j,j<cs.length→cs[j]?=some (.int K (cellZ cs j))
 | [],_,j,hj=>by simp at hj
 | x :: cs,h,j,hj=>by
  cases x with
  | int K' z =>
   have h:(kindEq K' K && allInt K cs)=true:=h
   simp only [Bool.and_eq_true] at h
   have hk:=kindEq_spec h.1
   cases j with
   | zero=>rw [hk]; rfl
   | succ j =>
    have:=allInt_get h.2 j (by simpa using hj)
    simpa [cellZ] using this
  | _=>cases h
def cellD:List SV→Nat→Prop
 | [],_=>False
 | x :: _,0=>decP x
 | _ :: cs,j+1=>cellD cs j
theorem allB_get:∀ {cs:List SV},allB cs=true→∀ j,j<cs.length→(SV.denL cs)[j]?=some (.sc (.bool (@decide (cellD cs j) (Classical.propDecidable _))))
 | [],_,j,hj=>by simp at hj
 | x :: cs,h,j,hj=>by
  have h:(isB x && allB cs)=true:=h
  simp only [Bool.and_eq_true] at h
  cases j with
  | zero=>simp only [SV.denL,cellD,isB_den h.1]; rfl
  | succ j =>
   have:=allB_get h.2 j (by simpa using hj)
   rw [SV.denL,List.getElem?_cons_succ]
   exact this
noncomputable def splitJ (j m:Nat) (k:Nat→Prop):Prop:=Nat.rec (motive:=fun _=>Prop) True (fun i ih=>ih∧(j=i→k i)) m
theorem splitJ_spec {j:Nat} {k:Nat→Prop}:∀ {m:Nat},splitJ j m k→j<m→k j
 | 0,_,h=>by omega
 | m+1,h,hj=>by
  have h:splitJ j m k∧(j=m→k m):=h
  rcases Nat.lt_succ_iff_lt_or_eq.1 hj with h' | h'
  ·exact splitJ_spec h.1 h'
  ·have:=h.2 h'; rw [h']; exact this
noncomputable def dynP (q:Option (Option Nat)) (cs:List SV) (j:Nat) (k:SV→Prop):Prop:=match q with
 | some none=>(match kindOf cs with
  | some K=>(match allInt K cs with
   | true=>j<cs.length∧k (.int K (cellZ cs j))
   | false=>j<cs.length∧splitJ j cs.length fun i=>packS q cs i k)
  | none=>(match allB cs with
   | true=>j<cs.length∧k (.dec (cellD cs j) (Classical.propDecidable _))
   | false=>j<cs.length∧splitJ j cs.length fun i=>packS q cs i k))
 | some (some 2)=>(match kindOf cs with
  | some K=>(match allInt K cs with
   | true=>j+1<cs.length∧k (.agg [.int K (cellZ cs j),.int K (cellZ cs (j+1))])
   | false=>j<cs.length∧splitJ j cs.length fun i=>packS q cs i k)
  | none=>j<cs.length∧splitJ j cs.length fun i=>packS q cs i k)
 | q=>j<cs.length∧splitJ j cs.length fun i=>packS q cs i k
theorem take_two {α:Type} {l:List α} {j:Nat} {a b:α} (h1:l[j]?=some a) (h2:l[j+1]?=some b):(l.drop j).take 2=[a,b]:=by
 obtain ⟨p1,e1⟩:=List.getElem?_eq_some_iff.1 h1
 obtain ⟨p2,e2⟩:=List.getElem?_eq_some_iff.1 h2
 rw [List.drop_eq_getElem_cons p1,List.drop_eq_getElem_cons p2,e1,e2]
 rfl
theorem dynP_spec {t cs j} {k:SV→Prop} (h:dynP (packN P t) cs j k):∃ v:SV,pack P t ((SV.denL cs).drop j)=some v.den∧k v:=by
 have sp:∀ q,q=packN P t→(j<cs.length∧splitJ j cs.length fun i=>packS q cs i k)→∃ v:SV,pack P t ((SV.denL cs).drop j)=some v.den∧k v:=by
  rintro q rfl ⟨h1,h2⟩
  exact packS_spec (splitJ_spec h2 h1)
 unfold dynP at h
 split at h
 ·rename_i hq
  split at h
  ·rename_i K hK
   split at h
   ·rename_i ha
    refine ⟨_,?_,h.2⟩
    rw [← packC_eq]
    unfold packC
    rw [hq]
    show ((SV.denL cs).drop j).head?=_
    rw [List.head?_drop]; exact denL_get (allInt_get ha j h.1)
   ·exact sp _ rfl h
  ·split at h
   ·rename_i ha
    refine ⟨_,?_,h.2⟩
    rw [← packC_eq]
    unfold packC
    rw [hq]
    show ((SV.denL cs).drop j).head?=_
    rw [List.head?_drop,allB_get ha j h.1]; rfl
   ·exact sp _ rfl h
 ·rename_i hq
  split at h
  ·rename_i K hK
   split at h
   ·rename_i ha
    refine ⟨_,?_,h.2⟩
    rw [← packC_eq]
    unfold packC
    rw [hq]
    have h1:=h.1
    show (if _ then _ else _)=_
    rw [if_pos (by rw [List.length_drop,denL_length]; omega),take_two (denL_get (allInt_get ha j (by omega))) (denL_get (allInt_get ha (j+1) h1))]
    rfl
   ·exact sp _ rfl h
  ·exact sp _ rfl h
 ·exact sp _ rfl h
theorem els_get {R:SRow} {i:Nat} (h:i<R.n):R.els.getD i .any=(R.f i).den:=by simp [SRow.els,List.getD,h]
theorem els_length (R:SRow):R.els.length=R.n:=by simp [SRow.els]
noncomputable def loadS (q:Option (Option Nat)) (x:SV) (X:XS) (k:SV→Prop):Prop:=match x with
 | .ptr r i j=>(match X.row r with
  | some R=>i<R.n∧packS q (R.f i).cells j k
  | none=>False)
 | .ipt cs=>packS q cs 0 k
 | .ptd r i j=>(match X.row r with
  | some R=>i<R.n∧dynP q (R.f i).cells j k
  | none=>False)
 | .ipd cs j=>dynP q cs j k
 | _=>False
theorem loadS_spec {t x X} {k:SV→Prop} (h:loadS (packN P t) x X k):∃ v:SV,aLoad P t x.den X.den v.den∧k v:=by
 unfold loadS at h
 split at h
 ·rename_i r i j
  split at h
  ·rename_i R hR
   obtain ⟨hi,h⟩:=h
   obtain ⟨v,h1,h2⟩:=packS_spec h
   refine ⟨v,⟨R.den,X.row_get hR,by show i<R.els.length; rw [els_length]; exact hi,?_⟩,h2⟩
   show pack P t ((R.els.getD i .any).cells.drop j)=_
   rw [els_get hi,den_cells]; exact h1
  ·exact h.elim
 ·obtain ⟨v,h1,h2⟩:=packS_spec h
  exact ⟨v,by simpa [aLoad,SV.den] using h1,h2⟩
 ·rename_i r i j
  split at h
  ·rename_i R hR
   obtain ⟨hi,h⟩:=h
   obtain ⟨v,h1,h2⟩:=dynP_spec h
   refine ⟨v,⟨R.den,X.row_get hR,by show i<R.els.length; rw [els_length]; exact hi,?_⟩,h2⟩
   show pack P t ((R.els.getD i .any).cells.drop j)=_
   rw [els_get hi,den_cells]; exact h1
  ·exact h.elim
 ·obtain ⟨v,h1,h2⟩:=dynP_spec h
  exact ⟨v,by simpa [aLoad,SV.den] using h1,h2⟩
 ·exact h.elim
def fieldAddrS (fo:Option (Nat × Option (Option Nat))) (x:SV) (k:SV→Prop):Prop:=match fo with
 | some (off,_)=>(match x with
  | .ptr r i j=>forceNat (Nat.add j off) fun m=>k (.ptr r i m)
  | .ipt cs=>forceNat off fun o=>k (.ipt (dropS cs o))
  | .ptd r i j=>forceNat off fun o=>k (.ptd r i (j+o))
  | .ipd cs j=>forceNat off fun o=>k (.ipd cs (j+o))
  | _=>False)
 | none=>False
theorem fieldAddrS_spec {s f x} {k:SV→Prop} (h:fieldAddrS (fieldOff P s f) x k):∃ v:SV,aFieldAddr P s x.den f v.den∧k v:=by
 unfold fieldAddrS at h
 split at h
 ·rename_i off q hfo
  unfold fieldOff at hfo
  split at hfo
  ·rename_i fs hu
   split at hfo
   ·rename_i fd hfd
    split at hfo
    ·rename_i hc
     cases hfo
     split at h
     ·rw [forceNat_eq] at h
      exact ⟨_,by simp only [aFieldAddr,hu,hfd,SV.den]; exact ⟨hc.1,hc.2,by first | trivial | rfl⟩,h⟩
     ·rw [forceNat_eq] at h
      refine ⟨_,?_,h⟩
      simp only [aFieldAddr,hu,hfd,SV.den,dropS_eq,denL_drop]
      exact ⟨hc.1,hc.2,by first | trivial | rfl⟩
     ·rw [forceNat_eq] at h
      exact ⟨_,by simp only [aFieldAddr,hu,hfd,SV.den]; exact ⟨hc.1,hc.2,by first | trivial | rfl⟩,h⟩
     ·rw [forceNat_eq] at h
      refine ⟨_,?_,h⟩
      simp only [aFieldAddr,hu,hfd,SV.den]
      exact ⟨hc.1,hc.2,by simp [List.drop_drop]⟩
     ·exact h.elim
    ·cases hfo
   ·cases hfo
  ·cases hfo
 ·exact h.elim
noncomputable def fieldS (P:Program) (s:TypeId) (x:SV) (f:Nat) (k:SV→Prop):Prop:=match P.underlying s with
 | some (.struct fs)=>(match fs[f]? with
  | some fd=>(match x with
   | .agg cs=>packS (packN P fd.type) cs fd.offset k
   | _=>False)
  | none=>False)
 | _=>False
theorem fieldS_spec {s x f} {k:SV→Prop} (h:fieldS P s x f k):∃ v:SV,aField P s x.den f v.den∧k v:=by
 unfold fieldS at h
 split at h
 ·rename_i fs hu
  split at h
  ·rename_i fd hf
   split at h
   ·obtain ⟨v,h1,h2⟩:=packS_spec h
    exact ⟨v,by simp only [aField,hu,hf,SV.den]; exact h1,h2⟩
   ·exact h.elim
  ·exact h.elim
 ·exact h.elim
noncomputable def indexAddrS (se:Option (TypeId × Nat)) (ae:Option (Nat × TypeId × Nat)) (x:SV) (z:Int) (X:XS) (k:SV→Prop):Prop:=match se with
 | some (_,S)=>(match x with
  | .lst sz n f=>ifP (Nat.beq S sz) (0≤z∧z<n∧k (.ipt (f z.toNat).cells))
  | .sl r o n=>(match X.row r with
   | some R=>ifP (Nat.beq R.sz S) (0≤z∧z<n∧k (.ptr r (o+z.toNat) 0))
   | none=>False)
  | .sub r i j sz n=>ifP (Nat.beq S sz) (0≤z∧z<n∧k (.ptd r i (j+z.toNat*sz)))
  | _=>False)
 | none=>(match ae with
  | some (len,_,S)=>0≤z∧z<len∧(match x with
   | .ptr r i j=>forceNat S fun S=>k (.ptd r i (j+z.toNat*S))
   | .ipt cs=>forceNat S fun S=>k (.ipd cs (z.toNat*S))
   | _=>False)
  | none=>False)
theorem indexAddrS_spec {t x z X K} {k:SV→Prop} (h:indexAddrS (slElem P t) (arElem P t) x z X k):∃ v:SV,aIndexAddr P t x.den (.sc (.int K z)) X.den v.den∧k v:=by
 unfold indexAddrS at h
 unfold aIndexAddr
 split at h
 ·rename_i e S hse
  obtain ⟨hu,hk,hS⟩:=slElem_spec hse
  simp only at hu hk hS
  simp only [hu]
  split at h
  ·rename_i sz n f
   obtain ⟨h1,h2,h3,h4⟩:=ifP_spec h
   simp at h1
   refine ⟨_,⟨hk,by rw [← hS]; exact h1,h2,by simpa [SV.den] using h3,?_⟩,h4⟩
   have hz:z.toNat<n:=by omega
   simp only [SV.den]
   rw [show ((List.range n).map fun i=>(f i).den).getD z.toNat .any=(f z.toNat).den by simp [List.getD,hz],den_cells]
  ·rename_i r o n
   split at h
   ·rename_i R hR
    obtain ⟨h1,h2,h3,h4⟩:=ifP_spec h
    simp at h1
    exact ⟨_,⟨hk,R.den,X.row_get hR,by rw [← hS]; exact h1,h2,h3,rfl⟩,h4⟩
   ·exact h.elim
  ·obtain ⟨h1,h2,h3,h4⟩:=ifP_spec h
   simp at h1
   exact ⟨_,⟨hk,by rw [← hS]; exact h1,h2,h3,rfl⟩,h4⟩
  ·exact h.elim
 ·split at h
  ·rename_i len e S hae
   obtain ⟨hu,hk,hS⟩:=arElem_spec hae
   simp only at hu hk hS
   simp only [hu]
   obtain ⟨h2,h3,h⟩:=h
   split at h
   ·rw [forceNat_eq] at h
    exact ⟨_,⟨hk,h2,h3,by rw [← hS]; rfl⟩,h⟩
   ·rw [forceNat_eq] at h
    refine ⟨_,⟨hk,h2,h3,?_⟩,h⟩
    rw [← hS]; rfl
   ·exact h.elim
  ·exact h.elim
noncomputable def indexCS (se:Option (TypeId × Nat)) (ae:Option (Nat × TypeId × Nat)) (x:SV) (z:Int) (X:XS) (k:SV→Prop):Prop:=match se with
 | some (_,S)=>(match x with
  | .sub r i j sz n=>ifP (Nat.beq S sz) (0≤z∧z<n∧forceNat (Nat.add j (Nat.mul z.toNat sz)) fun m=>k (.ptr r i m))
  | x=>indexAddrS se ae x z X k)
 | none=>(match ae with
  | some (len,_,S)=>ifP (decide (0≤z) && decide (z<len)) (match x with
   | .ptr r i j=>forceNat (Nat.add j (Nat.mul z.toNat S)) fun m=>k (.ptr r i m)
   | .ptd r i j=>forceNat (Nat.mul z.toNat S) fun m=>k (.ptd r i (j+m))
   | .ipt cs=>forceNat (Nat.mul z.toNat S) fun m=>k (.ipt (dropS cs m))
   | _=>False)
  | none=>False)
theorem indexCS_spec {t x z X K} {k:SV→Prop} (h:indexCS (slElem P t) (arElem P t) x z X k):∃ v:SV,aIndexAddr P t x.den (.sc (.int K z)) X.den v.den∧k v:=by
 unfold indexCS at h
 split at h
 ·rename_i e S hse
  split at h
  ·rename_i r i j sz n
   obtain ⟨h1,h2,h3,h⟩:=ifP_spec h
   simp at h1
   rw [forceNat_eq] at h
   obtain ⟨hu,hk,hS⟩:=slElem_spec hse
   simp only at hu hk hS
   unfold aIndexAddr
   simp only [hu]
   exact ⟨_,⟨hk,by rw [← hS]; exact h1,h2,h3,rfl⟩,h⟩
  ·exact indexAddrS_spec h
 ·split at h
  ·rename_i len e S hae
   obtain ⟨hu,hk,hS⟩:=arElem_spec hae
   simp only at hu hk hS
   obtain ⟨hc,h⟩:=ifP_spec h
   simp only [Bool.and_eq_true,decide_eq_true_eq] at hc
   obtain ⟨h2,h3⟩:=hc
   unfold aIndexAddr
   simp only [hu]
   split at h
   ·rw [forceNat_eq] at h
    exact ⟨_,⟨hk,h2,h3,by rw [← hS]; rfl⟩,h⟩
   ·rw [forceNat_eq] at h
    exact ⟨_,⟨hk,h2,h3,by rw [← hS]; rfl⟩,h⟩
   ·rw [forceNat_eq] at h
    refine ⟨_,⟨hk,h2,h3,?_⟩,h⟩
    rw [← hS]
    simp only [SV.den,dropS_eq,denL_drop]
    rfl
   ·exact h.elim
  ·exact h.elim
noncomputable def indexS (se:Option (TypeId × Nat)) (ae:Option (Nat × TypeId × Nat)) (x:SV) (o:Operand) (i:SV) (X:XS) (k:KS):Prop:=match i with
 | .int _ z=>(match o with
  | .const _=>indexCS se ae x z X fun v=>k v X
  | _=>indexAddrS se ae x z X fun v=>k v X)
 | _=>False
noncomputable def indexVS (P:Program) (t:TypeId) (x:SV) (o:Operand) (i:SV) (k:SV→Prop):Prop:=match arElem P t with
 | some (len,e,S)=>(match x with
  | .agg cs=>(match i with
   | .int _ z=>(match o with
    | .const _=>ifP (decide (0≤z) && decide (z<len)) (packS (packN P e) cs (Nat.mul z.toNat S) k)
    | _=>0≤z∧z<len∧forceNat S fun S=>dynP (packN P e) cs (z.toNat*S) k)
   | _=>False)
  | _=>False)
 | none=>∃ v:SV,aIndex P t x.den i.den v.den∧k v
theorem indexVS_spec {t x o i} {k:SV→Prop} (h:indexVS P t x o i k):∃ v:SV,aIndex P t x.den i.den v.den∧k v:=by
 unfold indexVS at h
 split at h
 ·rename_i len e S hae
  obtain ⟨hu,hk,hS⟩:=arElem_spec hae
  simp only at hu hk hS
  split at h
  ·rename_i cs
   split at h
   ·rename_i K z
    split at h
    ·obtain ⟨hc,h⟩:=ifP_spec h
     simp only [Bool.and_eq_true,decide_eq_true_eq] at hc
     obtain ⟨v,h4,h5⟩:=packS_spec h
     refine ⟨v,?_,h5⟩
     unfold aIndex
     simp only [SV.den,hu]
     exact ⟨hk,hc.1,hc.2,by rw [← hS]; exact h4⟩
    ·obtain ⟨h1,h2,h3⟩:=h
     rw [forceNat_eq] at h3
     obtain ⟨v,h4,h5⟩:=dynP_spec h3
     refine ⟨v,?_,h5⟩
     unfold aIndex
     simp only [SV.den,hu]
     exact ⟨hk,h1,h2,by rw [← hS]; exact h4⟩
   ·exact h.elim
  ·exact h.elim
 ·exact h
def pickS (c a b:SV) (X:XS) (k:KS):Prop:=match c with
 | .bool b'=>(match b' with
  | true=>k a X
  | false=>k b X)
 | .dec p _=>(p→k a X)∧(¬ p→k b X)
 | _=>False
theorem pickS_spec {c a b X} {k:KS} (h:pickS c a b X k):∃ v:SV,(match c.den with
  | .sc (.bool t)=>v.den=if t then a.den else b.den
  | _=>False)∧k v X:=by
 unfold pickS at h
 split at h
 ·split at h
  ·exact ⟨a,by simp [SV.den],h⟩
  ·exact ⟨b,by simp [SV.den],h⟩
 ·rename_i p i
  by_cases hp:p
  ·exact ⟨a,by simp [SV.den,hp],h.1 hp⟩
  ·exact ⟨b,by simp [SV.den,hp],h.2 hp⟩
 ·exact h.elim
noncomputable def extractS (x:SV) (i:Nat) (k:SV→Prop):Prop:=match x with
 | .tup l=>nthS l i k
 | _=>False
def nilS (x:SV) (X:XS) (k:KS):Prop:=match x with
 | .ptr ..=>k x X
 | .ipt _=>k x X
 | _=>False
def boundS (b:Option SV) (dflt:Int) (k:Int→Prop):Prop:=match b with
 | none=>k dflt
 | some (.int _ n)=>k n
 | _=>False
theorem boundS_spec {b:Option SV} {d:Int} {k:Int→Prop} (h:boundS b d k):∃ n,boundOf (b.map SV.den) d=some n∧k n:=by
 unfold boundS at h
 split at h
 ·exact ⟨d,rfl,h⟩
 ·rename_i K n; exact ⟨n,rfl,h⟩
 ·exact h.elim
noncomputable def subK (kn:Bool) (j d:Nat) (k:Nat→Prop):Prop:=match kn with
 | true=>forceNat (Nat.add j d) k
 | false=>k (j+d)
theorem subK_eq (kn:Bool) (j d:Nat) (k:Nat→Prop):subK kn j d k=k (j+d):=by
 cases kn
 ·rfl
 ·show forceNat (Nat.add j d) k=_
  rw [forceNat_eq]; rfl
noncomputable def sliceS (P:Program) (se:Option (TypeId × Nat)) (ae:Option (Nat × TypeId × Nat)) (kn:Bool) (x:SV) (lo hi:Option SV) (X:XS) (k:SV→Prop):Prop:=match se with
 | some (_,S)=>(match x with
  | .lst sz n f=>ifP (Nat.beq S sz) (boundS lo 0 fun l=>boundS hi n fun h=>0≤l∧l≤h∧h≤n∧k (.lst sz (h - l).toNat fun i=>f (l.toNat+i)))
  | .sl r o n=>(match X.row r with
   | some R=>ifP (Nat.beq R.sz S) (boundS lo 0 fun l=>boundS hi n fun h=>0≤l∧l≤h∧h≤n∧k (.sl r (o+l.toNat) (h - l).toNat))
   | none=>False)
  | .sub r i j sz n=>ifP (Nat.beq S sz) (boundS lo 0 fun l=>boundS hi n fun h=>0≤l∧l≤h∧h≤n∧subK kn j (l.toNat*sz) fun j'=>k (.sub r i j' sz (h - l).toNat))
  | _=>False)
 | none=>(match ae with
  | some (len,_,S)=>(match x with
   | .ptr r i j=>boundS lo 0 fun l=>boundS hi len fun h=>0≤l∧l≤h∧h≤len∧forceNat S fun S=>subK kn j (l.toNat*S) fun j'=>k (.sub r i j' S (h - l).toNat)
   | .ipt cs=>(match kindOf cs with
    | some K=>ifP (allInt K cs && (Nat.beq S 1 && Nat.ble len cs.length)) (boundS lo 0 fun l=>boundS hi len fun h=>0≤l∧l≤h∧h≤len∧k (.lst 1 (h - l).toNat fun i=>.agg [.int K (cellZ cs (l.toNat+i))]))
    | none=>False)
   | _=>False)
  | none=>False)
theorem sliceS_spec {t kn x lo hi X} {k:SV→Prop} (h:sliceS P (slElem P t) (arElem P t) kn x lo hi X k):∃ v:SV,(aSlice P t x.den (lo.map SV.den) (hi.map SV.den) v.den∧∀ r o n,x.den=.sl r o n→∃ R,X.den[r]?=some (some R)∧∀ e,P.underlying t=some (.slice e)→R.sz=P.cellsOf e)∧k v:=by
 unfold sliceS at h
 unfold aSlice
 split at h
 ·rename_i e S hse
  obtain ⟨hu,hk,hS⟩:=slElem_spec hse
  simp only at hu hk hS
  simp only [hu]
  split at h
  ·rename_i sz n f
   obtain ⟨h1,h⟩:=ifP_spec h
   simp at h1
   obtain ⟨l,hl,h⟩:=boundS_spec h
   obtain ⟨hh,hhi,h2,h3,h4,h⟩:=boundS_spec h
   refine ⟨_,⟨⟨hk,by rw [← hS]; exact h1,l,hh,hl,by simpa [SV.den] using hhi,h2,h3,by simpa [SV.den] using h4,?_⟩,fun r o n h=>by cases h⟩,h⟩
   simp only [SV.den]
   congr 1
   apply List.ext_getElem
   ·simp; omega
   ·intro i a b
    simp at a b
    simp
  ·rename_i r o n
   split at h
   ·rename_i R hR
    obtain ⟨h1,h⟩:=ifP_spec h
    simp at h1
    obtain ⟨l,hl,h⟩:=boundS_spec h
    obtain ⟨hh,hhi,h2,h3,h4,h⟩:=boundS_spec h
    exact ⟨_,⟨⟨hk,l,hh,hl,hhi,h2,h3,h4,rfl⟩,fun r' o' n' e=>by cases e; exact ⟨R.den,X.row_get hR,fun e' he=>by cases he; rw [← hS]; exact h1⟩⟩,h⟩
   ·exact h.elim
  ·rename_i r i j sz n
   obtain ⟨h1,h⟩:=ifP_spec h
   simp at h1
   obtain ⟨l,hl,h⟩:=boundS_spec h
   obtain ⟨hh,hhi,h2,h3,h4,h⟩:=boundS_spec h
   rw [subK_eq] at h
   exact ⟨_,⟨⟨hk,by rw [← hS]; exact h1,l,hh,hl,hhi,h2,h3,h4,rfl⟩,fun r o n e=>by cases e⟩,h⟩
  ·exact h.elim
 ·split at h
  ·rename_i len e S hae
   obtain ⟨hu,hk,hS⟩:=arElem_spec hae
   simp only at hu hk hS
   simp only [hu]
   split at h
   ·rename_i r i j
    obtain ⟨l,hl,h⟩:=boundS_spec h
    obtain ⟨hh,hhi,h2,h3,h4,h⟩:=boundS_spec h
    rw [forceNat_eq,subK_eq] at h
    refine ⟨_,⟨⟨hk,l,hh,hl,hhi,h2,h3,h4,?_⟩,fun r o n e=>by cases e⟩,h⟩
    simp only [SV.den]
    rw [← hS]
   ·rename_i cs
    split at h
    ·rename_i K hK
     obtain ⟨hc,h⟩:=ifP_spec h
     simp only [Bool.and_eq_true,Nat.beq_eq,Nat.ble_eq] at hc
     obtain ⟨ha,h1,hle⟩:=hc
     obtain ⟨l,hl,h⟩:=boundS_spec h
     obtain ⟨hh,hhi,h2,h3,h4,h⟩:=boundS_spec h
     have hS1:P.cellsOf e=1:=by rw [← hS,h1]
     refine ⟨_,⟨⟨hk,l,hh,hl,hhi,h2,h3,h4,?_,?_⟩,fun r o n e=>by cases e⟩,h⟩
     ·rw [hS1,denL_length]; omega
     ·simp only [SV.den,hS1]
      congr 1
      refine List.map_congr_left fun i hi=>?_
      have hi:i<(hh - l).toNat:=by simpa using hi
      have hlt:l.toNat+i<cs.length:=by omega
      have hg:(SV.denL cs)[(l.toNat+i)*1]?=some (.sc (.int K (cellZ cs (l.toNat+i)))):=by
       rw [Nat.mul_one,denL_eq,List.getElem?_map,allInt_get ha _ hlt]; rfl
      obtain ⟨g1,g2⟩:=List.getElem?_eq_some_iff.1 hg
      rw [List.drop_eq_getElem_cons g1,g2]
      simp [SV.denL,SV.den]
    ·exact h.elim
   ·exact h.elim
  ·exact h.elim
noncomputable def slice3S (P:Program) (se:Option (TypeId × Nat)) (kn:Bool) (x:SV) (lo hi:Option SV) (mx:SV) (X:XS) (k:SV→Prop):Prop:=match se with
 | some e=>(match hi with
  | some (.int K z)=>(match mx with
   | .int _ m=>m=z∧sliceS P (some e) none kn x lo (some (.int K z)) X k
   | _=>False)
  | _=>False)
 | none=>False
theorem slice3S_spec {t kn x lo hi mx X} {k:SV→Prop} (h:slice3S P (slElem P t) kn x lo hi mx X k):∃ v:SV,sl3 P t (hi.map SV.den) (some mx.den)∧(aSlice P t x.den (lo.map SV.den) (hi.map SV.den) v.den∧∀ r o n,x.den=.sl r o n→∃ R,X.den[r]?=some (some R)∧∀ e,P.underlying t=some (.slice e)→R.sz=P.cellsOf e)∧k v:=by
 unfold slice3S at h
 split at h
 ·rename_i e hse
  split at h
  ·rename_i K z
   split at h
   ·rename_i K' m
    obtain ⟨hm,h⟩:=h
    have h:sliceS P (slElem P t) (arElem P t) kn x lo (some (.int K z)) X k:=by
     rw [hse]
     exact h
    obtain ⟨v,h1,h2⟩:=sliceS_spec h
    obtain ⟨hu,-,-⟩:=slElem_spec hse
    exact ⟨v,⟨⟨_,hu⟩,K,K',z,rfl,by simp [SV.den,hm]⟩,h1,h2⟩
   ·exact h.elim
  ·exact h.elim
 ·exact h.elim

end Go.Lg
