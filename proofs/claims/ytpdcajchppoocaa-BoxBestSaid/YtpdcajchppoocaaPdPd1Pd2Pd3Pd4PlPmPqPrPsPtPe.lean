import Derived.Test.YtpdcajchppoocaaPaPbPcPc1
import Derived.Test.YtpdcajchppoocaaWjWkWlWm
import Derived.Test.YtpdcajchppoocaaLt5Lt6Mt2
set_option linter.unusedVariables false
set_option linter.unusedSimpArgs false
namespace Go.Lg
open Go.RowKit
variable {P:Program}

def opH (P:Program) (Γ:Ghost) (o:Oper) (K:AV→Γ.S→Store→Prop) (s:Γ.S) (A:List AV) (ρ:Store):Prop :=
 (∃ v ρ',aop P o (aev A) ρ v ρ'∧K v s ρ') ∨
 (∃ c f g args,o.op=.call c∧c.callee=.value f∧fnOf (aev A f) (c.args.toList.map (aev A))=some (g,args)∧callable P g=true∧DoesH P Γ g args s ρ K) ∨
 (∃ c f l,o.op=.call c∧c.callee=.value f∧Γ.y=some l∧aev A f=.yld 0∧PlainL (c.args.toList.map (aev A))∧YieldOK P Γ l s (c.args.toList.map (aev A)) fun b s'=>K (.sc (.bool b)) s' ρ) ∨
 (∃ t len parts v ρ',o.op=.buildSlice t len parts∧aLitR P t len (parts.toList.map fun p=>(p.1,aev A p.2)) ρ v ρ'∧K v s ρ')
def runHA (P:Program) (Γ:Ghost) (ops:Array Oper):List Oper→(Γ.S→List AV→Store→Prop)→Γ.S→List AV→Store→Prop
 | [],K,s,A,ρ=>K s A ρ
 | o :: r,K,s,A,ρ=>match o.guard with
  | none=>opH P Γ o (fun v s' ρ'=>runHA P Γ ops r K s' (putA A o.dst v) ρ') s A ρ
  | some (j,want)=>match gvalS ops A j want with
   | some b=>(b=true→opH P Γ o (fun v s' ρ'=>runHA P Γ ops r K s' (putA A o.dst v) ρ') s A ρ)∧(b=false→runHA P Γ ops r K s (putA A o.dst uA) ρ)
   | none=>False
section
variable {H:HC} {Γ:Ghost} {Q:Exit→Γ.S→List AV→Store→Prop} {s:Γ.S} {A:List AV} {ρ:Store}
theorem opH_wp {o:Oper} {K':AV→Γ.S→Store→Prop} {a w} (hs:SRelH H Γ s a w A ρ) (h:opH P Γ o K' s A ρ) {K:Act→World→Prop} {Q:Exit→Act→World→Prop}
  (hK:∀ v s' ρ' a' w',K' v s' ρ'→SRelH H Γ s' a' w' (putA A o.dst v) ρ'→K a' w') (n:Nat):o.wpIn (fz H.C.rd) n P a w K Q:=by
 rcases h with ⟨v,ρ',h1,h2⟩ | ⟨c,f,g,args,ho,hc,hf,hcb,hd⟩ | ⟨c,f,l,ho,hc,hl,hf,hx,hy⟩ | ⟨t,len,parts,v,ρ',ho,h1,h2⟩
 ·exact aop_srelH hs h1 (fun a' w' hs'=>hK _ _ _ a' w' h2 hs') n
 ·exact hcall_srelH hs ho hc hf hcb hd hK n
 ·exact yield_srelH hs ho hc hl hf hx hy (fun b s' a' w' hR hs'=>hK _ _ _ a' w' hR hs') n
 ·exact aLitR_srelH ho hs h1 (fun a' w' hs'=>hK _ _ _ a' w' h2 hs') n
theorem SRelH.skipU {a w} (hs:SRelH H Γ s a w A ρ) (dst:Option Tmp):SRelH H Γ s (a.put dst undef) w (putA A dst uA) ρ:=by
 obtain ⟨C',hC,h1,h2⟩:=hs.open
 exact h2 _ _ _ _ (h1.skipU dst)
theorem gvalS_specH {ops:Array Oper} {a w j want b} (h:gvalS ops A j want=some b) (hs:SRelH H Γ s a w A ρ):(yielded ops a.tmps j == some want)=b:=by
 obtain ⟨C',hC,h1,h2⟩:=hs.open
 exact gvalS_spec h h1
theorem runHA_sound {ops:Array Oper} {Q':Exit→Act→World→Prop} {K:Γ.S→List AV→Store→Prop} (hQ:∀ a w s A ρ,SRelH H Γ s a w A ρ→K s A ρ→Q' .normal a w) :
  ∀ (l:List Oper) (s:Γ.S) (A:List AV) (ρ:Store) (a:Act) (w:World),SRelH H Γ s a w A ρ→runHA P Γ ops l K s A ρ→∀ n,wpListIn (fz H.C.rd) n P ops Q' l a w
 | [],s,A,ρ,a,w,hs,h=>fun _=>hQ a w s A ρ hs h
 | o :: r,s,A,ρ,a,w,hs,h=>fun n=>by
  have run:opH P Γ o (fun v s' ρ'=>runHA P Γ ops r K s' (putA A o.dst v) ρ') s A ρ→o.wpIn (fz H.C.rd) n P a w (wpListIn (fz H.C.rd) n P ops Q' r) Q' :=
   fun h1=>opH_wp hs h1 (fun v s' ρ' a' w' hk hs'=>runHA_sound hQ r _ _ _ a' w' hs' hk n) n
  unfold wpListIn
  unfold runHA at h
  split at h
  ·rename_i hg
   rw [if_pos (by simp [Region.wanted,hg])]
   exact run h
  ·rename_i j want hg
   split at h
   ·rename_i b hb
    have hy:=gvalS_specH hb hs
    cases b with
    | true =>
     rw [if_pos (by simp only [Region.wanted,hg]; exact hy)]
     exact run (h.1 rfl)
    | false =>
     rw [if_neg (by simp only [Region.wanted,hg]; rw [hy]; simp)]
     exact ⟨fun _ _=>trivial,runHA_sound hQ r _ _ _ _ w (hs.skipU o.dst) (h.2 rfl) n⟩
   ·exact h.elim
theorem wpH_region {id:Nat} {l:List Oper} (h:runHA P Γ l.toArray l (Q .normal) s A ρ):wpH P H Γ (.region id l.toArray false) Q s A ρ :=
 fun a w hs n=>wpIn_region_lit (runHA_sound (K:=Q .normal) (fun a w s A ρ hs hq=>⟨s,A,ρ,hs,hq⟩) l s A ρ a w hs h n)
theorem wpH_weaken {c:Code} {A':List AV} {ρ':Store} (hw:∀ a w,SRelH H Γ s a w A ρ→SRelH H Γ s a w A' ρ') (h:wpH P H Γ c Q s A' ρ'):wpH P H Γ c Q s A ρ:=fun a w hs n=>h a w (hw a w hs) n
end

abbrev GS:=Option Nat
abbrev KVH:=SV→XS→GS→Prop
abbrev KG:=FS→XS→GS→Prop
abbrev KH:=Exit→FS→XS→GS→Prop
abbrev CX:=FuncId→Option (List SV→XS→GS→KVH→Prop)
abbrev YS:=Option (Nat × (Nat→List SV))
abbrev IC:=FuncId→List SV→List SV→(Nat→Nat→(Nat→List SV)→Prop)→Prop
def SoundXH (P:Program) (Γ:Ghost) (γ:GS→Γ.S) (cx:CX):Prop:=∀ g h,cx g=some h→∀ args X q k,X.n<512→h args X q k→callable P g=true ∧
 DoesH P Γ g (SV.denL args) (γ q) X.den fun v s ρ'=>∃ (v':SV) (X':XS) (q':GS),v=v'.den∧s=γ q'∧ρ'=X'.den∧X'.n<512∧k v' X' q'
def SoundYH (P:Program) (Γ:Ghost) (γ:GS→Γ.S) (ys:YS):Prop:=match ys with
 | none=>True
 | some (n,f)=>∃ l,Γ.y=some l∧∀ j,j<n→YieldOK P Γ l (γ (some j)) (SV.denL (f j)) fun b s=>s=γ (bif b then some (j+1) else none)
def SoundIH (P:Program) (ic:IC):Prop:=∀ gf fs us k,ic gf fs us k→callable P gf=true∧∃ n m f,IterOK P gf (SV.denL fs) (SV.denL us) n (fun j=>SV.denL (f j))∧(∀ j,j<n→(f j).length=m)∧k n m f

def PlainA (x:AV):Prop:=∀ (c:Nat→Nat→Option Value) (I:Nat→Prop) (N:Nat) (β:Nat→Option Loc) (c':Nat→Nat→Option Value) (I':Nat→Prop) (N':Nat) (β':Nat→Option Loc) (v:Value),Rel c I N β x v→Rel c' I' N' β' x v
theorem plain_sc (v:Value):PlainA (.sc v):=fun c I N β c' I' N' β' u h=>by cases h; exact .sc _
mutual
theorem eqS_spec:∀ (v' v:SV) {k:Prop},eqS v' v k→v.den=v'.den∧PlainA v.den∧k
 | .int K' z',v,k,h=>by
  cases v <;> simp only [eqS] at h
  case int K z =>
   obtain ⟨h1,rfl,hk⟩:=ifP_spec h
   have:=kindEq_spec h1
   subst this
   exact ⟨rfl,plain_sc _,hk⟩
 | .dec p' i',v,k,h=>by
  cases v <;> simp only [eqS] at h
  case dec p i=>exact ⟨by simp only [SV.den]; congr 2; simp [h.1],plain_sc _,h.2⟩
  case bool b=>exact ⟨by simp only [SV.den]; congr 2; have:=h.1; cases b <;> simp_all,plain_sc _,h.2⟩
 | .bool b',v,k,h=>by
  cases v <;> simp only [eqS] at h
  case dec p i=>exact ⟨by simp only [SV.den]; congr 2; have:=h.1; cases b' <;> simp_all,plain_sc _,h.2⟩
  case bool b =>
   obtain ⟨rfl,hk⟩:=h
   exact ⟨rfl,plain_sc _,hk⟩
 | .val u',v,k,h=>by
  cases v <;> simp only [eqS] at h
  case val u =>
   obtain ⟨rfl,hk⟩:=h
   exact ⟨rfl,plain_sc _,hk⟩
 | .agg c',v,k,h=>by
  cases v <;> simp only [eqS] at h
  case agg c =>
   obtain ⟨h1,h2,hk⟩:=eqSL_spec c' c h
   refine ⟨by simp only [SV.den,h1],fun c0 I N β c1 I' N' β' v hv=>?_,hk⟩
   cases hv with
   | agg _ vs hn hv=>exact .agg _ _ hn fun j hj=>h2 j hj _ _ _ _ _ _ _ _ _ (hv j hj)
 | .any,v,k,h=>by simp [eqS] at h
 | .ptr ..,v,k,h=>by simp [eqS] at h
 | .ptd ..,v,k,h=>by simp [eqS] at h
 | .ipd ..,v,k,h=>by simp [eqS] at h
 | .sl ..,v,k,h=>by simp [eqS] at h
 | .sub ..,v,k,h=>by simp [eqS] at h
 | .lst ..,v,k,h=>by simp [eqS] at h
 | .ipt _,v,k,h=>by simp [eqS] at h
 | .tup c',v,k,h=>by
  cases v <;> simp only [eqS] at h
  case tup c =>
   obtain ⟨h1,h2,hk⟩:=eqSL_spec c' c h
   refine ⟨by simp only [SV.den,h1],fun c0 I N β c1 I' N' β' v hv=>?_,hk⟩
   cases hv with
   | tup _ vs hn hv=>exact .tup _ _ hn fun j hj=>h2 j hj _ _ _ _ _ _ _ _ _ (hv j hj)
 | .clo ..,v,k,h=>by simp [eqS] at h
 | .yld _,v,k,h=>by simp [eqS] at h
 | .mp _,v,k,h=>by simp [eqS] at h
 | .ifc ..,v,k,h=>by simp [eqS] at h
theorem eqSL_spec:∀ (c' c:List SV) {k:Prop},eqSL c' c k→SV.denL c=SV.denL c'∧PlainL (SV.denL c)∧k
 | [],c,k,h=>by
  cases c with
  | nil=>exact ⟨rfl,fun j hj=>by simp [SV.denL] at hj,by simpa [eqSL] using h⟩
  | cons x c=>simp [eqSL] at h
 | x' :: xs',c,k,h=>by
  cases c with
  | nil=>simp [eqSL] at h
  | cons x xs =>
   simp only [eqSL] at h
   obtain ⟨h1,h2,h⟩:=eqS_spec x' x h
   obtain ⟨h3,h4,h⟩:=eqSL_spec xs' xs h
   refine ⟨by simp only [SV.denL,h1,h3],fun j hj=>?_,h⟩
   cases j with
   | zero=>exact h2
   | succ j=>exact h4 j (by simpa [SV.denL] using hj)
end
noncomputable def yieldH (ys:YS) (args:List SV) (q:GS) (K:Bool→GS→Prop):Prop:=match q with
 | some j=>(match ys with
  | some (n,f)=>j<n∧eqSL (f j) args (K true (some (Nat.succ j))∧K false none)
  | none=>False)
 | none=>False
noncomputable def callF (cs:CSpec) (cx:CX) (g:FuncId) (args:List SV) (X:XS) (q:GS) (K:KVH):Prop:=match cx g with
 | some h=>h args X q K
 | none=>cs g args X fun v=>K v X q
noncomputable def callH (P:Program) (cs:CSpec) (cx:CX) (ys:YS) (ev:Operand→SV) (X:XS) (q:GS) (K:KVH) (c:Call):Prop:=match c.callee with
 | .builtin b=>builtinS P b c ev X fun v X'=>K v X' q
 | .value f=>mapS ev c.args.toList fun args=>(match ev f with
  | .val (.func (.func g) fs us)=>(match fs.toList,us.toList with
   | [],[]=>callF cs cx g args X q K
   | _,_=>False)
  | .clo (.func g) fs us=>callF cs cx g (fs ++ args ++ us) X q K
  | .yld r=>ifP (Nat.beq r 0) (yieldH ys args q fun b q'=>K (.bool b) X q')
  | _=>False)
 | .invoke r name=>(match ev r with
  | .ifc t y=>(match methodOf P t name with
   | some g=>mapS ev c.args.toList fun args=>cs g (y :: args) X fun v=>K v X q
   | none=>False)
  | _=>False)
def litX (cx:CX):CX:=fun g=>match Nat.beq g 4294967296 with
 | true=>some fun _ _ _ _=>False
 | false=>cx g
noncomputable def litRS (P:Program) (se:Option (TypeId × Nat)) (len:Nat) (is:List Nat) (xs:List SV) (X:XS) (k:KS):Prop:=match se with
 | some (e,S)=>(match zeroS P e with
  | some _=>ifP (Nat.ble (Nat.mul len S) 16777216 && decide (is=List.range len) && allSV SV.ok xs && allSV (fun x=>Nat.beq x.cells.length S) xs && Nat.beq xs.length len && Nat.blt 0 S && roomS X)
   (forceNat S fun S=>chainK xs fun f=>k (.sl X.n 0 len) (X.push (some ⟨S,len,f,false⟩)))
  | none=>False)
 | none=>False
theorem litRS_spec {t len X} {parts:List (Nat × SV)} {k:KS} (hX:X.n<512) (h:litRS P (slElem P t) len (parts.map (·.1)) (parts.map (·.2)) X k):∃ (v:SV) (X':XS),aLitR P t len (parts.map fun p=>(p.1,p.2.den)) X.den v.den X'.den∧X'.n<512∧k v X':=by
 unfold litRS at h
 split at h
 ·rename_i e S hse
  obtain ⟨hu,hk,hS⟩:=slElem_spec hse
  simp only at hu hk hS
  split at h
  ·rename_i z hz
   obtain ⟨hc,h⟩:=ifP_spec h
   simp only [Bool.and_eq_true,Nat.beq_eq,Nat.ble_eq,decide_eq_true_eq,Nat.blt_eq] at hc
   obtain ⟨⟨⟨⟨⟨⟨c1,c2⟩,c3⟩,c4⟩,c5⟩,c7⟩,c6⟩:=hc
   have c1:len*S≤16777216:=c1
   have a1:((parts.map fun p=>(p.1,p.2.den)).map (·.1))=List.range len:=by rw [← c2]; simp
   have a2:((parts.map fun p=>(p.1,p.2.den)).all fun p=>p.2.ok)=true:=by
    simp only [List.all_map,List.all_eq_true]
    intro p hp
    exact ok_den (allSV_spec c3 _ (List.mem_map.2 ⟨p,hp,rfl⟩))
   have a3:((parts.map fun p=>(p.1,p.2.den)).all fun p=>p.2.cells.length == P.cellsOf e)=true:=by
    simp only [List.all_map,List.all_eq_true]
    intro p hp
    have:=allSV_spec c4 _ (List.mem_map.2 ⟨p,hp,rfl⟩)
    simp only [Nat.beq_eq] at this
    simp [den_cells,denL_length,this,hS]
   rw [forceNat_eq] at h
   obtain ⟨f,hf,h⟩:=chainK_spec h
   refine ⟨_,_,⟨e,z.den,hu,hk,zeroS_spec hz,by rw [← hS]; exact c1,a1,a2,a3,by rw [← hS]; exact c7,?_,?_⟩,XS.push_lt c6 _,h⟩
   ·rw [XS.length]; rfl
   ·rw [XS.push_den (roomS_spec c6)]
    simp only [denR,Option.map_some,SRow.den,SRow.els]
    rw [← c5,hf,hS]; simp
  ·exact h.elim
 ·exact h.elim
noncomputable def stepHO (P:Program) (cs:CSpec) (cx:CX) (ys:YS) (n:Nat) (o:Oper) (t:FS) (X:XS) (q:GS) (ih:KG):Prop :=
 opS P (sev n t) X (fun _ c=>callH P cs cx ys (sev n t) X q (fun v X' q'=>forceW2 v fun v=>sputK n t o.dst v fun t=>forceX X' fun X'=>ih t X' q') c) o.op
  fun v X'=>forceW2 v fun v=>sputK n t o.dst v fun t=>forceX X' fun X'=>ih t X' q
def numX (cx:CX):CX:=fun g=>match Nat.beq g 4294967297 with
 | true=>some fun _ _ _ _=>False
 | false=>cx g
theorem numX_sound {Γ:Ghost} {γ:GS→Γ.S} {cx:CX} (h:SoundXH P Γ γ cx):SoundXH P Γ γ (numX cx):=by
 intro g hh hg args X q k hX hk
 unfold numX at hg
 split at hg
 ·cases hg; exact hk.elim
 ·exact h g hh hg args X q k hX hk
def lssK (op:BinOp) (a b:SV) (k:SV→Prop) (e:Prop):Prop:=match op with
 | .lss=>(match a with
  | .int K m=>(match b with
   | .int K' n=>ifP (kindEq K' K) (match decide (m<n) with
    | true=>k (.bool true)
    | false=>k (.bool false))
   | _=>e)
  | _=>e)
 | _=>e
noncomputable def copyKn (P:Program) (c:Call) (ev:Operand→SV) (X:XS) (k:KS) (e:Prop):Prop:=match c.callee with
 | .builtin .copy=>(match c.args.toList,c.argTypes.toList with
  | [d,s],[t,_]=>(match slElem P t with
   | some u=>copyN u.2 X (ev d) (ev s) k
   | none=>False)
  | _,_=>e)
 | _=>e
def numK (v:SV) (k:SV→Prop) (e:Prop):Prop:=match v with
 | .int K z=>(match z with
  | .ofNat m=>forceNat m fun m=>k (.int K (.ofNat m))
  | .negSucc _=>e)
 | _=>e
theorem numK_spec {v:SV} {k:SV→Prop} {e:Prop} (h:numK v k e):e∨k v:=by
 unfold numK at h
 split at h
 ·split at h
  ·rw [forceNat_eq] at h; exact .inr h
  ·exact .inl h
 ·exact .inl h
noncomputable def stepKn (P:Program) (cs:CSpec) (cx:CX) (ys:YS) (n:Nat) (o:Oper) (t:FS) (X:XS) (q:GS) (ih:KG):Prop:=match o.op with
 | .binOp op _ x y _=>lssK op (sev n t x) (sev n t y) (fun v=>sputK n t o.dst v fun t=>ih t X q) (stepHO P cs cx ys n o t X q ih)
 | .store ty p x=>(match sev n t p with
  | .ptd r i j=>forceNat j fun j=>storeS (known P ty) (P.cellsOf ty) (.ptr r i j) (sev n t x) X fun v X'=>forceS v fun v=>sputK n t o.dst v fun t=>forceX X' fun X'=>ih t X' q
  | _=>stepHO P cs cx ys n o t X q ih)
 | .call c=>copyKn P c (sev n t) X (fun v X'=>forceS v fun v=>sputK n t o.dst v fun t=>forceX X' fun X'=>ih t X' q) (stepHO P cs cx ys n o t X q ih)
 | .indexAddr ty x i=>numK (sev n t i) (fun i=>indexS (slElem P ty) (arElem P ty) (sev n t x) (.const (.bool true)) i X fun v X'=>forceW2 v fun v=>sputK n t o.dst v fun t=>forceX X' fun X'=>ih t X' q) (stepHO P cs cx ys n o t X q ih)
 | .index ty x i=>numK (sev n t i) (fun i=>indexVS P ty (sev n t x) (.const (.bool true)) i fun v=>forceW2 v fun v=>sputK n t o.dst v fun t=>ih t X q) (stepHO P cs cx ys n o t X q ih)
 | _=>stepHO P cs cx ys n o t X q ih
def wrI (K:IntKind) (z:Int):Int:=K.wrap z
def wrK (op:BinOp) (a b:SV) (k:SV→Prop) (e:Prop):Prop:=match a with
 | .int K m=>(match b with
  | .int K' n=>(match op with
   | .add=>ifP (kindEq K' K) (k (.int K (wrI K (m+n))))
   | .sub=>ifP (kindEq K' K) (k (.int K (wrI K (m - n))))
   | .mul=>ifP (kindEq K' K) (k (.int K (wrI K (m*n))))
   | _=>e)
  | _=>e)
 | _=>e
theorem wrK_spec {op t x y a b} {k:SV→Prop} {e:Prop} (h:wrK op a b k e):e∨∃ v:SV,aBin P op t x y a.den b.den v.den∧k v:=by
 unfold wrK at h
 split at h
 ·split at h
  ·rename_i K m _ K' n
   split at h
   ·obtain ⟨hk,h⟩:=ifP_spec h
    have hk:=kindEq_spec hk
    subst hk
    exact .inr ⟨.int K' (wrI K' (m+n)),⟨rfl,rfl⟩,h⟩
   ·obtain ⟨hk,h⟩:=ifP_spec h
    have hk:=kindEq_spec hk
    subst hk
    exact .inr ⟨.int K' (wrI K' (m - n)),⟨rfl,rfl⟩,h⟩
   ·obtain ⟨hk,h⟩:=ifP_spec h
    have hk:=kindEq_spec hk
    subst hk
    exact .inr ⟨.int K' (wrI K' (m*n)),⟨rfl,rfl⟩,h⟩
   ·exact .inl h
  ·exact .inl h
 ·exact .inl h
noncomputable def stepWr (P:Program) (cs:CSpec) (cx:CX) (ys:YS) (n:Nat) (o:Oper) (t:FS) (X:XS) (q:GS) (ih:KG):Prop:=match o.op with
 | .binOp op _ x y _=>wrK op (sev n t x) (sev n t y) (fun v=>forceW2 v fun v=>sputK n t o.dst v fun t=>ih t X q) (stepHO P cs cx ys n o t X q ih)
 | _=>stepHO P cs cx ys n o t X q ih
noncomputable def stepH (P:Program) (cs:CSpec) (cx:CX) (ys:YS) (n:Nat) (o:Oper) (t:FS) (X:XS) (q:GS) (ih:KG):Prop:=match cx 4294967296 with
 | none=>(match cx 4294967297 with
  | none=>(match cx 4294967298 with
   | none=>stepHO P cs cx ys n o t X q ih
   | some _=>stepWr P cs cx ys n o t X q ih)
  | some _=>stepKn P cs cx ys n o t X q ih)
 | some _=>(match o.op with
  | .buildSlice ty len parts=>(match len with
   | 0=>stepHO P cs cx ys n o t X q ih
   | _=>forceC (parts.toList.map fun p=>sev n t p.2) fun xs=>litRS P (slElem P ty) len (parts.toList.map (·.1)) xs X fun v X'=>forceS v fun v=>sputK n t o.dst v fun t=>forceX X' fun X'=>ih t X' q)
  | _=>stepHO P cs cx ys n o t X q ih)
noncomputable def runHS (P:Program) (cs:CSpec) (cx:CX) (ys:YS) (n:Nat) (ops:Array Oper) (K:KG) (l:List Oper):KG :=
 List.rec (motive:=fun _=>KG) (fun t X q=>K t X q)
  (fun o _ ih t X q=>match o.guard with
   | none=>stepH P cs cx ys n o t X q ih
   | some (j,want)=>gvS ops n t j want (fun t=>stepH P cs cx ys n o t X q ih) (fun t=>sputK n t o.dst uS fun t=>ih t X q)) l
section
variable {Γ:Ghost} {γ:GS→Γ.S} {cs:CSpec} {cx:CX} {ys:YS}
theorem callF_spec (hcs:SoundS P cs) (hcx:SoundXH P Γ γ cx) {g:FuncId} {args:List SV} {X:XS} {q:GS} {K:KVH} (hX:X.n<512) (h:callF cs cx g args X q K) :
  (callable P g=true∧∃ v:SV,aDoesB P g (SV.denL args) X.den v.den∧K v X q)∨(callable P g=true∧DoesH P Γ g (SV.denL args) (γ q) X.den fun v s ρ'=>∃ (v':SV) (X':XS) (q':GS),v=v'.den∧s=γ q'∧ρ'=X'.den∧X'.n<512∧K v' X' q'):=by
 unfold callF at h
 split at h
 ·rename_i hh hg
  exact .inr (hcx g hh hg _ _ _ _ hX h)
 ·obtain ⟨h1,v,h2,h3⟩:=hcs _ _ _ _ h
  have:=h2 []
  rw [List.append_nil] at this
  exact .inl ⟨h1,v,this,h3⟩
theorem stepHO_spec (hcs:SoundS P cs) (hcx:SoundXH P Γ γ cx) (hys:SoundYH P Γ γ ys) {n:Nat} {o:Oper} {t:FS} {X:XS} {q:GS} {ih:KG} (hX:X.n<512) (h:stepHO P cs cx ys n o t X q ih) :
  opH P Γ o (fun v s ρ=>∃ (v':SV) (X':XS) (q':GS),v=v'.den∧s=γ q'∧ρ=X'.den∧X'.n<512∧ih (sput n t o.dst v') X' q') (γ q) (frD n t) X.den:=by
 unfold stepHO at h
 simp only [forceS_eq,forceW2_eq,forceC_eq,sputK_eq,forceX_eq] at h
 rcases opS_spec hX h with ⟨v,X',h1,h2,h3⟩ | ⟨c,ho,h⟩
 ·refine .inl ⟨v.den,X'.den,?_,v,X',q,rfl,rfl,rfl,h2,h3⟩
  rw [sev_aev]; exact h1
 ·have hav:∀ f,aev (frD n t) f=(sev n t f).den:=fun f=>sev_den n t f
  have hargs:c.args.toList.map (aev (frD n t))=SV.denL (c.args.toList.map (sev n t)):=by
   rw [denL_mapE]; exact List.map_congr_left fun x _=>hav x
  unfold callH at h
  split at h
  ·rename_i b hc
   have h':callS P cs (sev n t) X (fun v X'=>ih (sput n t o.dst v) X' q) c:=by
    unfold callS; rw [hc]; exact h
   rcases callS_spec hcs hX ho h' with ⟨_,v,X',h1,h2,h3⟩ | ⟨hf,_⟩
   ·refine .inl ⟨v.den,X'.den,?_,v,X',q,rfl,rfl,rfl,h2,h3⟩
    rw [sev_aev]; exact h1
   ·simp [isFn,ho,hc] at hf
  ·rename_i f hc
   rw [mapS_eq] at h
   have fin:∀ g args,fnOf (aev (frD n t) f) (c.args.toList.map (aev (frD n t)))=some (g,SV.denL args) →
     (∀ v,callable P g=true→aDoesB P g (SV.denL args) X.den v→aop P o (aev (frD n t)) X.den v X.den) →
     callF cs cx g args X q (fun v X' q'=>ih (sput n t o.dst v) X' q') →
     opH P Γ o (fun v s ρ=>∃ (v':SV) (X':XS) (q':GS),v=v'.den∧s=γ q'∧ρ=X'.den∧X'.n<512∧ih (sput n t o.dst v') X' q') (γ q) (frD n t) X.den:=by
    intro g args hfn hop h
    rcases callF_spec hcs hcx hX h with ⟨h1,v,h2,h3⟩ | ⟨h1,h2⟩
    ·exact .inl ⟨v.den,X.den,hop _ h1 h2,v,X,q,rfl,rfl,rfl,hX,h3⟩
    ·exact .inr (.inl ⟨c,f,g,_,ho,hc,hfn,h1,h2⟩)
   split at h
   ·rename_i g fs us hf
    split at h
    ·rename_i e1 e2
     have e1:fs=#[]:=by simpa using e1
     have e2:us=#[]:=by simpa using e2
     subst e1 e2
     refine fin g _ ?_ (fun v h1 h2=>?_) h
     ·rw [hav,hf,hargs]; rfl
     ·simp only [aop,ho,aCall,hc,hav,hf,SV.den]
      refine ⟨trivial,trivial,⟨h1,?_⟩,trivial⟩
      rw [denL_mapE] at h2; rw [sev_aev]; simpa using h2
    ·exact h.elim
   ·rename_i g fs us hf
    refine fin g _ ?_ (fun v h1 h2=>?_) h
    ·rw [hav,hf,hargs,denL_append,denL_append]; rfl
    ·simp only [aop,ho,aCall,hc,hav,hf,SV.den]
     refine ⟨⟨h1,?_⟩,trivial⟩
     rw [denL_append,denL_append,denL_mapE] at h2
     rw [sev_aev]
     simpa using h2
   ·rename_i r hf
    obtain ⟨h0,h⟩:=ifP_spec h
    have h0:r=0:=by simpa using h0
    subst h0
    cases q with
    | none=>exact h.elim
    | some j =>
     cases ys with
     | none=>exact h.elim
     | some p =>
      obtain ⟨N,f'⟩:=p
      obtain ⟨hj,h⟩:=h
      obtain ⟨h1,h2,h3,h4⟩:=eqSL_spec _ _ h
      obtain ⟨l,hl,hy⟩:=hys
      refine .inr (.inr (.inl ⟨c,f,l,ho,hc,hl,by rw [hav,hf]; rfl,by rw [hargs]; exact h2,?_⟩))
      have hy:=hy j hj
      rw [← h1,← hargs] at hy
      refine hy.mono ?_
      rintro b s rfl
      cases b with
      | true=>exact ⟨.bool true,X,some (j+1),rfl,rfl,rfl,hX,h3⟩
      | false=>exact ⟨.bool false,X,none,rfl,rfl,rfl,hX,h4⟩
   ·exact h.elim
  ·rename_i r name hc
   split at h
   ·rename_i ty y hr
    split at h
    ·rename_i g hm
     rw [mapS_eq] at h
     obtain ⟨h1,v,h2,h3⟩:=hcs _ _ _ _ h
     have h2:=h2 []
     rw [List.append_nil] at h2
     refine .inl ⟨v.den,X.den,?_,v,X,q,rfl,rfl,rfl,hX,h3⟩
     simp only [aop,ho,aCall,hc,hav,hr,SV.den]
     refine ⟨g,hm,⟨h1,?_⟩,trivial⟩
     simp only [SV.denL] at h2
     rw [denL_mapE] at h2
     rw [sev_aev]; simpa using h2
    ·exact h.elim
   ·exact h.elim
theorem opH_mono {o:Oper} {K K':AV→Γ.S→Store→Prop} {s A ρ} (h:opH P Γ o K s A ρ) (hK:∀ v s ρ,K v s ρ→K' v s ρ):opH P Γ o K' s A ρ:=by
 rcases h with ⟨v,ρ',h1,h2⟩ | ⟨c,f,g,args,ho,hc,hf,hcb,hd⟩ | ⟨c,f,l,ho,hc,hl,hf,hx,hy⟩ | ⟨t,len,parts,v,ρ',ho,h1,h2⟩
 ·exact .inl ⟨v,ρ',h1,hK _ _ _ h2⟩
 ·exact .inr (.inl ⟨c,f,g,args,ho,hc,hf,hcb,hd.mono hK⟩)
 ·exact .inr (.inr (.inl ⟨c,f,l,ho,hc,hl,hf,hx,hy.mono fun b s h=>hK _ _ _ h⟩))
 ·exact .inr (.inr (.inr ⟨t,len,parts,v,ρ',ho,h1,hK _ _ _ h2⟩))
theorem stepKn_spec (hcs:SoundS P cs) (hcx:SoundXH P Γ γ cx) (hys:SoundYH P Γ γ ys) {n:Nat} {o:Oper} {t:FS} {X:XS} {q:GS} {ih:KG} (hX:X.n<512) (h:stepKn P cs cx ys n o t X q ih) :
  opH P Γ o (fun v s ρ=>∃ (v':SV) (X':XS) (q':GS),v=v'.den∧s=γ q'∧ρ=X'.den∧X'.n<512∧ih (sput n t o.dst v') X' q') (γ q) (frD n t) X.den:=by
 have hav:∀ f,aev (frD n t) f=(sev n t f).den:=fun f=>sev_den n t f
 unfold stepKn at h
 split at h
 ·rename_i op ty x y _ ho
  unfold lssK at h
  split at h
  ·split at h
   ·rename_i K m hx
    split at h
    ·rename_i K' m' hy
     obtain ⟨hk,h⟩:=ifP_spec h
     have hb:binS P .lss ty x y (sev n t x) (sev n t y) (fun v=>v=.dec (m<m') inferInstance):=by
      rw [hx,hy]
      show ifP (kindEq K' K) _
      rw [hk]; rfl
     obtain ⟨v,hv,rfl⟩:=binS_spec hb
     have fin:∀ b:Bool,decide (m<m')=b→ih (sput n t o.dst (.bool b)) X q→opH P Γ o (fun v s ρ=>∃ (v':SV) (X':XS) (q':GS),v=v'.den∧s=γ q'∧ρ=X'.den∧X'.n<512∧ih (sput n t o.dst v') X' q') (γ q) (frD n t) X.den:=fun b hb hi=>by
      refine .inl ⟨(SV.bool b).den,X.den,?_,.bool b,X,q,rfl,rfl,rfl,hX,hi⟩
      have hv:aBin P .lss ty x y (aev (frD n t) x) (aev (frD n t) y) (SV.dec (m<m') inferInstance).den:=by rw [hav,hav]; exact hv
      have e:(SV.dec (m<m') inferInstance).den=(SV.bool b).den:=by simp only [SV.den,hb]
      rw [e] at hv
      unfold aop
      simp only [ho]
      unfold aPure
      simp only [ho]
      exact ⟨hv,trivial⟩
     split at h
     ·rename_i hd
      rw [sputK_eq] at h
      exact fin _ hd h
     ·rename_i hd
      rw [sputK_eq] at h
      exact fin _ hd h
    ·exact stepHO_spec hcs hcx hys hX h
   ·exact stepHO_spec hcs hcx hys hX h
  ·exact stepHO_spec hcs hcx hys hX h
 ·rename_i ty p x ho
  split at h
  ·rename_i r i j hp
   rw [forceNat_eq] at h
   simp only [forceS_eq,sputK_eq,forceX_eq] at h
   obtain ⟨v,X',h1,h2,h3⟩:=storeS_spec hX h
   refine .inl ⟨v.den,X'.den,?_,v,X',q,rfl,rfl,rfl,h2,h3⟩
   simp only [aop,ho,hav,hp]
   exact h1
  ·exact stepHO_spec hcs hcx hys hX h
 ·rename_i c ho
  unfold copyKn at h
  split at h
  ·rename_i hc
   split at h
   ·rename_i d s ty ty' h1 h2
    split at h
    ·rename_i u hu
     obtain ⟨hu1,hu2,hu3⟩:=slElem_spec hu
     simp only [forceS_eq,sputK_eq,forceX_eq] at h
     have hd:∃ r i j sz m,sev n t d=.sub r i j sz m:=by
      unfold copyN at h
      split at h
      ·exact ⟨_,_,_,_,_,by assumption⟩
      ·exact h.elim
     obtain ⟨r,i,j,sz,m,hd⟩:=hd
     rw [hd] at h
     obtain ⟨v,X',a1,a2,a3⟩:=copyN_spec (P:=P) hX hu1 hu2 hu3.symm h
     refine .inl ⟨v.den,X'.den,?_,v,X',q,rfl,rfl,rfl,a2,a3⟩
     simp only [aop,ho,aCall,hc,h1,h2,hav,hd]
     exact a1
    ·exact h.elim
   ·exact stepHO_spec hcs hcx hys hX h
  ·exact stepHO_spec hcs hcx hys hX h
 ·rename_i ty x i ho
  rcases numK_spec h with h | h
  ·exact stepHO_spec hcs hcx hys hX h
  ·simp only [forceW2_eq,sputK_eq,forceX_eq] at h
   unfold indexS at h
   split at h
   ·rename_i K z hi
    simp only at h
    obtain ⟨v,h1,h2⟩:=indexCS_spec (K:=K) h
    refine .inl ⟨v.den,X.den,?_,v,X,q,rfl,rfl,rfl,hX,h2⟩
    simp only [aop,aPure,ho,hav,hi,SV.den]
    exact ⟨h1,trivial⟩
   ·exact h.elim
 ·rename_i ty x i ho
  rcases numK_spec h with h | h
  ·exact stepHO_spec hcs hcx hys hX h
  ·simp only [forceW2_eq,sputK_eq,forceX_eq] at h
   obtain ⟨v,h1,h2⟩:=indexVS_spec h
   refine .inl ⟨v.den,X.den,?_,v,X,q,rfl,rfl,rfl,hX,h2⟩
   simp only [aop,aPure,ho,hav]
   exact ⟨h1,trivial⟩
 ·exact stepHO_spec hcs hcx hys hX h
theorem stepWr_spec (hcs:SoundS P cs) (hcx:SoundXH P Γ γ cx) (hys:SoundYH P Γ γ ys) {n:Nat} {o:Oper} {t:FS} {X:XS} {q:GS} {ih:KG} (hX:X.n<512) (h:stepWr P cs cx ys n o t X q ih) :
  opH P Γ o (fun v s ρ=>∃ (v':SV) (X':XS) (q':GS),v=v'.den∧s=γ q'∧ρ=X'.den∧X'.n<512∧ih (sput n t o.dst v') X' q') (γ q) (frD n t) X.den:=by
 have hav:∀ f,aev (frD n t) f=(sev n t f).den:=fun f=>sev_den n t f
 unfold stepWr at h
 split at h
 ·rename_i op ty x y _ ho
  rcases wrK_spec (P:=P) (t:=ty) (x:=x) (y:=y) h with h | ⟨v,hv,h⟩
  ·exact stepHO_spec hcs hcx hys hX h
  ·simp only [forceW2_eq,sputK_eq] at h
   refine .inl ⟨v.den,X.den,?_,v,X,q,rfl,rfl,rfl,hX,h⟩
   have hv:aBin P op ty x y (aev (frD n t) x) (aev (frD n t) y) v.den:=by rw [hav,hav]; exact hv
   unfold aop
   simp only [ho]
   unfold aPure
   simp only [ho]
   exact ⟨hv,trivial⟩
 ·exact stepHO_spec hcs hcx hys hX h
theorem stepH_spec (hcs:SoundS P cs) (hcx:SoundXH P Γ γ cx) (hys:SoundYH P Γ γ ys) {n:Nat} {o:Oper} {t:FS} {X:XS} {q:GS} {ih:KG} (hX:X.n<512) (h:stepH P cs cx ys n o t X q ih) :
  opH P Γ o (fun v s ρ=>∃ (v':SV) (X':XS) (q':GS),v=v'.den∧s=γ q'∧ρ=X'.den∧X'.n<512∧ih (sput n t o.dst v') X' q') (γ q) (frD n t) X.den:=by
 unfold stepH at h
 split at h
 ·split at h
  ·split at h
   ·exact stepHO_spec hcs hcx hys hX h
   ·exact stepWr_spec hcs hcx hys hX h
  ·exact stepKn_spec hcs hcx hys hX h
 ·split at h
  ·rename_i ty len parts ho
   split at h
   ·exact stepHO_spec hcs hcx hys hX h
   ·simp only [forceS_eq,forceW2_eq,forceC_eq,sputK_eq,forceX_eq] at h
    have h':litRS P (slElem P ty) len ((parts.toList.map fun p=>(p.1,sev n t p.2)).map (·.1)) ((parts.toList.map fun p=>(p.1,sev n t p.2)).map (·.2)) X (fun v X'=>ih (sput n t o.dst v) X' q):=by
     simpa [List.map_map,Function.comp_def] using h
    obtain ⟨v,X',h1,h2,h3⟩:=litRS_spec hX h'
    refine .inr (.inr (.inr ⟨ty,len,parts,v.den,X'.den,ho,?_,v,X',q,rfl,rfl,rfl,h2,h3⟩))
    have e:((parts.toList.map fun p=>(p.1,sev n t p.2)).map fun p=>(p.1,p.2.den))=parts.toList.map fun p=>(p.1,aev (frD n t) p.2):=by
     rw [List.map_map]
     exact List.map_congr_left fun p _=>by simp only [Function.comp]; rw [sev_den]
    rw [← e]; exact h1
  ·exact stepHO_spec hcs hcx hys hX h
theorem runHS_sound (hcs:SoundS P cs) (hcx:SoundXH P Γ γ cx) (hys:SoundYH P Γ γ ys) {n:Nat} (hn:n≤512) {ops:Array Oper} {K:KG} {K':Γ.S→List AV→Store→Prop}
  (hK:∀ t X q,X.n<512→K t X q→K' (γ q) (frD n t) X.den):∀ {l:List Oper} {t:FS} {X:XS} {q:GS},X.n<512→runHS P cs cx ys n ops K l t X q→runHA P Γ ops l K' (γ q) (frD n t) X.den
 | [],t,X,q,hX,h=>hK t X q hX h
 | o :: l,t,X,q,hX,h=>by
  have step:∀ t,stepH P cs cx ys n o t X q (runHS P cs cx ys n ops K l)→opH P Γ o (fun v s' ρ'=>runHA P Γ ops l K' s' (putA (frD n t) o.dst v) ρ') (γ q) (frD n t) X.den:=by
   intro t h
   refine opH_mono (stepH_spec hcs hcx hys hX h) ?_
   rintro v s ρ ⟨v',X',q',rfl,rfl,rfl,h2,h3⟩
   rw [sput_den hn]
   exact runHS_sound hcs hcx hys hn hK h2 h3
  have h:(match o.guard with
   | none=>stepH P cs cx ys n o t X q (runHS P cs cx ys n ops K l)
   | some (j,want)=>gvS ops n t j want (fun t=>stepH P cs cx ys n o t X q (runHS P cs cx ys n ops K l)) (fun t=>sputK n t o.dst uS fun t=>runHS P cs cx ys n ops K l t X q)):=h
  unfold runHA
  split at h
  ·rename_i hg
   exact step t h
  ·rename_i j want hg
   obtain ⟨b,t',e,hb,h⟩:=gvS_spec hn h
   simp only [hb]
   rcases h with ⟨rfl,h⟩ | ⟨rfl,h⟩
   ·refine ⟨fun _=>?_,fun h=>by cases h⟩
    rw [← e]; exact step t' h
   ·refine ⟨fun h=>(by cases h),fun _=>?_⟩
    rw [← e]
    have:=sput_den hn t' o.dst uS
    rw [show uA=(uS:SV).den from rfl,this]
    rw [sputK_eq] at h
    exact runHS_sound hcs hcx hys hn hK hX h
end
end Go.Lg

namespace Go.Lg
open Go.RowKit
variable {P:Program}
end Go.Lg

namespace Go.Lg
open Go.RowKit
variable {P:Program}
theorem append_apart {t:TypeId} {r sz:Nat} {s:AV} {L:List AV} {ρ:Store} {v:AV} {ρ':Store} {b:Nat} {y:Option Root} (h:aAppend P t s (.isl sz L) ρ v ρ') (hs:(∃ o n,s=.sl r o n)∨s=.sc (.slice none 0 0)) (hb:b<ρ.length) (hne:b≠r) :
  aAppend P t s (.isl sz L) (ρ.set b y) v (ρ'.set b y)∧ρ'[b]?=ρ[b]?∧b<ρ'.length:=by
 obtain ⟨e,z,els,ρ1,M,h1,h2,h3,h4,h5,h6,h7,h8,h9,h10,rfl,rfl⟩:=h
 rcases hs with ⟨o,n,rfl⟩ | rfl
 case inr =>
  simp only [baseOf,Option.some.injEq,Prod.mk.injEq] at h6
  obtain ⟨rfl,rfl⟩:=h6
  refine ⟨⟨e,z,[],ρ.set b y,M,h1,h2,h3,h4,h5,rfl,h7,h8,h9,h10,by simp,?_⟩,?_,?_⟩
  ·rw [List.set_append_left _ _ (by simpa using hb)]
  ·rw [List.getElem?_append_left (by simpa using hb)]
  ·simp; omega
 have hbr:r≠b:=fun e=>hne e.symm
 simp only [baseOf] at h6
 split at h6
 ·rename_i R hR
  split at h6
  ·rename_i hc
   simp only [Option.some.injEq,Prod.mk.injEq] at h6
   obtain ⟨rfl,rfl⟩:=h6
   refine ⟨⟨e,z,_,(ρ.set b y).set r none,M,h1,h2,h3,h4,h5,?_,h7,h8,h9,h10,by simp,?_⟩,?_,?_⟩
   ·simp only [baseOf]
    rw [List.getElem?_set_ne hne,hR]
    simp only [hc,and_self,if_true]
   ·rw [List.set_append_left _ _ (by simpa using hb),List.set_comm _ _ hbr]
   ·rw [List.getElem?_append_left (by simpa using hb),List.getElem?_set_ne hbr]
   ·simp; omega
  ·cases h6
 ·cases h6
def appOp (o:Oper):Option (TypeId × TypeId × Operand × Operand):=match o.guard,o.op with
 | none,.call c=>(match c.callee,c.args.toList,c.argTypes.toList with
  | .builtin .append,[s,x],[t,t']=>some (t,t',s,x)
  | _,_,_=>none)
 | _,_=>none
theorem app_step {W:WS} {ops:Array Oper} {o:Oper} {t t':TypeId} {s x:Operand} {A ρ v ρ'} (h:appOp o=some (t,t',s,x)) :
  stepV P W ops o A ρ v ρ'↔(∃ e',P.underlying t'=some (.slice e'))∧aAppend P t (aev A s) (aev A x) ρ v ρ':=by
 unfold appOp at h
 split at h
 ·rename_i c hg ho
  split at h
  ·rename_i hc ha ht
   cases h
   have hn:isW W o=none:=by unfold isW fnCall litDst; rw [ho]; simp [hc]
   unfold stepV
   simp only [hg]
   unfold bop
   simp only [hn,true_and,reduceCtorEq,false_and,or_false]
   unfold aop
   simp only [ho]
   unfold aCall
   simp only [hc,ha,ht]
  ·cases h
 ·cases h
theorem app_rds {ops:Array Oper} {o:Oper} {t t':TypeId} {s x:Operand} (h:appOp o=some (t,t',s,x)):∀ p,(p=s∨p=x)→∀ q,p=.tmp q→q ∈ rds ops o:=by
 unfold appOp at h
 split at h
 ·rename_i c hg ho
  split at h
  ·rename_i hc ha ht
   cases h
   intro p hp q hq
   refine List.mem_append_left _ (List.mem_filterMap.2 ⟨p,?_,by rw [hq]; rfl⟩)
   have hm:p ∈ c.args.toList:=by rw [ha]; rcases hp with rfl | rfl <;> simp
   rw [ho]
   have:p ∈ c.operands:=by
    unfold Call.operands
    rw [hc]
    simpa using hm
   simpa [Op.operands] using this
  ·cases h
 ·cases h
def appOK (D E:DS) (ops:Array Oper) (i:Nat) (A:List AV) (ρ:Store):Prop:=match E.lookup i with
 | none=>True
 | some _=>∃ r,(∀ p ∈ D,p.2<ρ.length∧p.2≠r)∧∃ t t' s x sz L,appOp (opAt ops i)=some (t,t',s,x)∧((∃ o n,aev A s=.sl r o n)∨aev A s=.sc (.slice none 0 0))∧aev A x=.isl sz L
def stepJ (P:Program) (W:WS) (ops:Array Oper) (D E:DS) (i:Nat) (A:List AV) (ρ:Store) (v:AV) (ρ':Store):Prop:=stepI P W ops D i A ρ v ρ'∧appOK D E ops i A ρ
def apartE (D E:DS) (j i:Nat):Bool:=match D.lookup j,E.lookup i with
 | some _,some _=>true
 | _,_=>false
def conflictE (W:WS) (ops:Array Oper) (D E:DS) (j i:Nat):Bool:=conflictS ops (opAt ops j) (opAt ops i) || (conflictM W (opAt ops j) (opAt ops i) && !apartD D j i && !apartE D E j i && !apartE D E i j)
theorem lookup_mem {D:DS} {i b:Nat} (h:D.lookup i=some b):(i,b) ∈ D:=by
 induction D with
 | nil=>cases h
 | cons p D ih =>
  obtain ⟨k,x⟩:=p
  simp only [List.lookup_cons] at h
  split at h
  ·rename_i hk
   cases h
   have:i=k:=by simpa using hk
   subst this; simp
  ·exact List.mem_cons_of_mem _ (ih h)
theorem appOK_put {D E:DS} {ops:Array Oper} {i:Nat} {A:List AV} {ρ ρ1:Store} {d:Option Tmp} {v:AV} (h:∀ t,d=some t→t ∉ rds ops (opAt ops i)) (hl:ρ1.length=ρ.length):appOK D E ops i (putA A d v) ρ1↔appOK D E ops i A ρ:=by
 unfold appOK
 split
 ·exact Iff.rfl
 ·rename_i r _
  have key:∀ t t' s x,appOp (opAt ops i)=some (t,t',s,x)→aev (putA A d v) s=aev A s∧aev (putA A d v) x=aev A x:=by
   intro t t' s x ha
   have one:∀ p,(p=s∨p=x)→aev (putA A d v) p=aev A p:=by
    intro p hp
    cases p with
    | tmp q=>exact putA_get (fun e=>h q e (app_rds ha _ hp q rfl))
    | _=>rfl
   exact ⟨one s (.inl rfl),one x (.inr rfl)⟩
  rw [hl]
  constructor
  ·rintro ⟨r,h1,t,t',s,x,sz,L,h2,h3,h4⟩
   exact ⟨r,h1,t,t',s,x,sz,L,h2,by rw [← (key _ _ _ _ h2).1]; exact h3,by rw [← (key _ _ _ _ h2).2]; exact h4⟩
  ·rintro ⟨r,h1,t,t',s,x,sz,L,h2,h3,h4⟩
   exact ⟨r,h1,t,t',s,x,sz,L,h2,by rw [(key _ _ _ _ h2).1]; exact h3,by rw [(key _ _ _ _ h2).2]; exact h4⟩
theorem mem_app {o:Oper} {p:Operand} {q} (h:memOp o=some p) (h':appOp o=some q):False:=by
 unfold memOp at h
 unfold appOp at h'
 split at h
 ·rename_i hg
  split at h' <;> (try cases h')
  rename_i c hg' ho
  rw [ho] at h
  cases h
 ·cases h
theorem app_kind {W:WS} {o:Oper} {q} (h:appOp o=some q):mkindW W o=.w:=by
 unfold appOp at h
 split at h
 ·rename_i c hg ho
  split at h
  ·rename_i hc ha ht
   have hn:isW W o=none:=by unfold isW fnCall litDst; rw [ho]; simp [hc]
   unfold mkindW mkind
   simp only [hn,ho,hc]
  ·cases h
 ·cases h
theorem clash_wl {k:MK} (h:clash .w k=false):k=.n:=by cases k <;> simp_all [clash,MK.keeps]
theorem clash_wr {k:MK} (h:clash k .w=false):k=.n:=by cases k <;> simp_all [clash,MK.keeps]
theorem stepV_n {W:WS} {ops:Array Oper} {o:Oper} {A ρ v ρ'} (hk:mkindW W o=.n) (h:stepV P W ops o A ρ v ρ'):ρ'=ρ:=by
 have key:bop P W o (aev A) ρ v ρ'→ρ'=ρ:=fun h=>bop_keeps (by rw [hk]; rfl) h
 unfold stepV at h
 split at h
 ·exact key h
 ·obtain ⟨b,_,h⟩:=h
  rcases h with ⟨_,h⟩ | ⟨_,_,h⟩
  ·exact key h
  ·exact h
theorem row_mem {D:DS} {ops:Array Oper} {i r:Nat} {A:List AV} (h:rowOK D ops i A) (hd:D.lookup i=some r):∃ p,memOp (opAt ops i)=some p∧ptrRow (aev A p)=some r:=by
 unfold rowOK at h
 simp only [hd] at h
 exact h
theorem app_of {D E:DS} {ops:Array Oper} {i r:Nat} {A:List AV} {ρ:Store} (h:appOK D E ops i A ρ) (he:E.lookup i=some r) :
  ∃ r,(∀ p ∈ D,p.2<ρ.length∧p.2≠r)∧∃ t t' s x sz L,appOp (opAt ops i)=some (t,t',s,x)∧((∃ o n,aev A s=.sl r o n)∨aev A s=.sc (.slice none 0 0))∧aev A x=.isl sz L:=by
 unfold appOK at h
 simp only [he] at h
 exact h
theorem app_none {D E:DS} {ops:Array Oper} {i:Nat} {A:List AV} {ρ:Store} (he:E.lookup i=none):appOK D E ops i A ρ:=by
 unfold appOK
 simp only [he]
theorem app_not {D E:DS} {ops:Array Oper} {i:Nat} {A A':List AV} {ρ ρ':Store} {p:Operand} (hm:memOp (opAt ops i)=some p) (h:appOK D E ops i A ρ):appOK D E ops i A' ρ':=by
 cases he:E.lookup i with
 | none=>exact app_none he
 | some r =>
  obtain ⟨_,_,t,t',s,x,sz,L,h2,_⟩:=app_of h he
  exact (mem_app hm h2).elim
theorem swapJ {W:WS} {ops:Array Oper} {D E:DS} {x y:Nat} (hc:conflictE W ops D E x y=false) {A:List AV} {ρ ρ1 ρ2:Store} {vx vy:AV} (hx:stepJ P W ops D E x A ρ vx ρ1) (hy:stepJ P W ops D E y (putA A (opAt ops x).dst vx) ρ1 vy ρ2) :
  ∃ ρ1',stepJ P W ops D E y A ρ vy ρ1'∧stepJ P W ops D E x (putA A (opAt ops y).dst vy) ρ1' vx ρ2∧putA (putA A (opAt ops x).dst vx) (opAt ops y).dst vy=putA (putA A (opAt ops y).dst vy) (opAt ops x).dst vx:=by
 unfold conflictE at hc
 simp only [Bool.or_eq_false_iff] at hc
 obtain ⟨hS,hM⟩:=hc
 obtain ⟨s1,s2,s3⟩:=conflictS_slots hS
 have hyA:stepV P W ops (opAt ops y) A ρ1 vy ρ2:=stepV_congr (fun t ht=>putA_get (fun e=>s1 t e ht)) hy.1.1
 have toX:∀ {σ σ':Store},stepV P W ops (opAt ops x) A σ vx σ'→stepV P W ops (opAt ops x) (putA A (opAt ops y).dst vy) σ vx σ':=fun h=>stepV_congr (fun t ht=>(putA_get (fun e=>s2 t e ht)).symm) h
 have ryA:rowOK D ops y A:=(rowOK_put s1).1 hy.1.2
 have rxA:rowOK D ops x (putA A (opAt ops y).dst vy):=(rowOK_put s2).2 hx.1.2
 by_cases hm:conflictM W (opAt ops x) (opAt ops y)=false
 ·obtain ⟨ρ1',h1,h2,h3⟩:=swapI (P:=P) (D:=D) (x:=x) (y:=y) (by unfold conflictI; rw [hS,hm]; rfl) hx.1 hy.1
  refine ⟨ρ1',⟨h1,?_⟩,⟨h2,?_⟩,h3⟩
  ·cases he:E.lookup y with
   | none=>exact app_none he
   | some r =>
    obtain ⟨_,_,t,t',s,z,sz,L,ha,_⟩:=app_of hy.2 he
    have hk:=clash_wr (k:=mkindW W (opAt ops x)) (by unfold conflictM at hm; rw [app_kind ha] at hm; exact hm)
    have hρ:=stepV_n hk hx.1.1
    subst hρ
    exact (appOK_put s1 rfl).1 hy.2
  ·cases he:E.lookup x with
   | none=>exact app_none he
   | some r =>
    obtain ⟨_,_,t,t',s,z,sz,L,ha,_⟩:=app_of hx.2 he
    have hk:=clash_wl (k:=mkindW W (opAt ops y)) (by unfold conflictM at hm; rw [app_kind ha] at hm; exact hm)
    have hρ:=stepV_n hk h1.1
    subst hρ
    exact (appOK_put s2 rfl).2 hx.2
 ·have hm:conflictM W (opAt ops x) (opAt ops y)=true:=by simpa using hm
  rw [hm] at hM
  simp only [Bool.true_and] at hM
  cases hd:apartD D x y with
  | true =>
   obtain ⟨ρ1',h1,h2,h3⟩:=swapI (P:=P) (W:=W) (D:=D) (x:=x) (y:=y) (by unfold conflictI; rw [hS,hd]; simp) hx.1 hy.1
   unfold apartD at hd
   split at hd
   ·rename_i a b ha hb
    obtain ⟨p,hp,_⟩:=row_mem hx.1.2 ha
    obtain ⟨q,hq,_⟩:=row_mem ryA hb
    exact ⟨ρ1',⟨h1,app_not hq hy.2⟩,⟨h2,app_not hp hx.2⟩,h3⟩
   ·cases hd
  | false =>
   rw [hd] at hM
   simp only [Bool.not_false,Bool.true_and] at hM
   cases he:apartE D E x y with
   | true =>
    unfold apartE at he
    split at he
    ·rename_i b _ hb hr
     obtain ⟨p,p1,p2⟩:=row_mem hx.1.2 hb
     obtain ⟨R,R',h1,h2,rfl⟩:=(mem_step p1 p2).1 hx.1.1
     have hbl:=(List.getElem?_eq_some_iff.1 h1).1
     have hapA:appOK D E ops y A (ρ.set b (some R')):=(appOK_put s1 rfl).1 hy.2
     obtain ⟨r,hD,t,t',s,z,sz,L,ha,hs,hz⟩:=app_of hapA hr
     have hne:b≠r:=(hD _ (lookup_mem hb)).2
     obtain ⟨e1,happ⟩:=(app_step ha).1 hyA
     rw [hz] at happ
     obtain ⟨k1,k2,k3⟩:=append_apart (y:=some R) happ hs (by simpa using hbl) hne
     have e2:(ρ.set b (some R')).set b (some R)=ρ:=by rw [List.set_set]; exact set_self h1
     rw [e2] at k1
     have k2:ρ2[b]?=some (some R'):=by rw [k2]; simp [hbl]
     refine ⟨ρ2.set b (some R),⟨⟨(app_step ha).2 ⟨e1,by rw [hz]; exact k1⟩,ryA⟩,(appOK_put s1 (by simp)).1 hy.2⟩,⟨⟨toX ((mem_step p1 p2).2 ⟨R,R',by simp [k3],h2,?_⟩),rxA⟩,app_not p1 hx.2⟩,putA_comm s3⟩
     rw [List.set_set]; exact (set_self k2).symm
    ·cases he
   | false =>
    rw [he] at hM
    simp only [Bool.not_false,Bool.true_and,Bool.not_eq_false'] at hM
    unfold apartE at hM
    split at hM
    ·rename_i b _ hb hr
     obtain ⟨q,q1,q2⟩:=row_mem ryA hb
     obtain ⟨R,R',h1,h2,rfl⟩:=(mem_step q1 q2).1 hyA
     obtain ⟨r,hD,t,t',s,z,sz,L,ha,hs,hz⟩:=app_of hx.2 hr
     have hne:b≠r:=(hD _ (lookup_mem hb)).2
     have hbl:b<ρ.length:=(hD _ (lookup_mem hb)).1
     obtain ⟨e1,happ⟩:=(app_step ha).1 hx.1.1
     rw [hz] at happ
     obtain ⟨k1,k2,k3⟩:=append_apart (y:=some R') happ hs hbl hne
     rw [k2] at h1
     exact ⟨ρ.set b (some R'),⟨⟨(mem_step q1 q2).2 ⟨R,R',h1,h2,rfl⟩,ryA⟩,app_not q1 hy.2⟩,⟨⟨toX ((app_step ha).2 ⟨e1,by rw [hz]; exact k1⟩),rxA⟩,(appOK_put s2 (by simp)).2 hx.2⟩,putA_comm s3⟩
    ·cases hM
end Go.Lg

namespace Go.Lg
open Go.RowKit
variable {P:Program}
theorem TreeT.soundJ {W:WS} {ops:Array Oper} {D E:DS} {C:Ctx} {K:List AV→Store→Prop} {Q:Exit→Act→World→Prop} (hQ:∀ a w A ρ,SRel C a w A ρ→K A ρ→Q .normal a w) :
  ∀ (fuel:Nat) (listed:Array Bool) (A:List AV) (ρ:Store) (a:Act) (w:World),SRel C a w A ρ→listed.size=ops.size→TreeT ops (stepJ P W ops D E) (conflictE W ops D E) K fuel listed A ρ→∀ nn,wpAnyIn (fz C.rd) nn P .any ops Q fuel listed a w
 | 0,listed,A,ρ,a,w,hs,hsz,h=>fun nn=>⟨h.1,hQ a w A ρ hs h.2⟩
 | fuel+1,listed,A,ρ,a,w,hs,hsz,h=>fun nn=>by
  refine ⟨fun hr=>?_,fun i hi=>?_⟩
  ·rcases h with ⟨_,h⟩ | ⟨y,hy,_⟩ | ⟨hne,_⟩
   ·exact hQ a w A ρ hs h
   ·rw [hr] at hy; cases hy
   ·exact absurd hr hne
  ·have sw:∀ y i,y≠i→conflictE W ops D E y i=false→∀ {A:List AV} {ρ:Store} {vy:AV} {ρ1:Store} {vi:AV} {ρ2:Store},stepJ P W ops D E y A ρ vy ρ1→stepJ P W ops D E i (putA A (opAt ops y).dst vy) ρ1 vi ρ2 →
     ∃ ρ1',stepJ P W ops D E i A ρ vi ρ1'∧stepJ P W ops D E y (putA A (opAt ops i).dst vi) ρ1' vy ρ2∧putA (putA A (opAt ops y).dst vy) (opAt ops i).dst vi=putA (putA A (opAt ops i).dst vi) (opAt ops y).dst vy :=
    fun y i _ hc {A ρ vy ρ1 vi ρ2} hy hi=>swapJ (x:=y) (y:=i) hc hy hi
   obtain ⟨v,ρ',h1,h2⟩:=TreeT.step (St:=stepJ P W ops D E) (cf:=conflictE W ops D E) sw fuel hsz h hi
   exact stepV_wp (opAt_get (mem_ready.1 hi).1) hs h1.1.1 (fun a' w' hs'=>TreeT.soundJ hQ fuel _ _ _ a' w' hs' (by simpa using hsz) h2 nn) nn
def allLt (D:DS) (n r:Nat):Bool:=D.all fun p=>Nat.blt p.2 n && !Nat.beq p.2 r
def rowChk (D E:DS) (i:Nat) (o:Oper) (ev:Operand→SV) (X:XS) (k:Prop):Prop:=(match D.lookup i with
 | none=>True
 | some r=>(match memOp o with
  | some p=>(match ev p with
   | .ptr r' _ _=>ifP (Nat.beq r' r) True
   | _=>False)
  | none=>False))∧(match E.lookup i with
 | none=>True
 | some r=>(match appOp o with
  | some (_,_,s,x)=>(match ev s with
   | .sl r' _ _=>(match ev x with
    | .lst _ _ _=>ifP (allLt D X.n r') True
    | _=>False)
   | .val (.slice none 0 0)=>(match ev x with
    | .lst _ _ _=>ifP (allLt D X.n X.n) True
    | _=>False)
   | _=>False)
  | none=>False))∧k
theorem rowChk_spec {D E:DS} {ops:Array Oper} {i n:Nat} {t:FS} {X:XS} {k:Prop} (h:rowChk D E i (opAt ops i) (sev n t) X k):rowOK D ops i (frD n t)∧appOK D E ops i (frD n t) X.den∧k:=by
 obtain ⟨h1,h2,hk⟩:=h
 have hav:∀ p,aev (frD n t) p=(sev n t p).den:=fun p=>sev_den n t p
 refine ⟨?_,?_,hk⟩
 ·unfold rowOK
  cases hd:D.lookup i with
  | none=>trivial
  | some r =>
   simp only [hd] at h1
   split at h1
   ·rename_i p hp
    split at h1
    ·rename_i r' a b hs
     have hb:r'=r:=Nat.eq_of_beq_eq_true (ifP_spec h1).1
     subst hb
     exact ⟨p,hp,by rw [hav,hs]; rfl⟩
    ·exact h1.elim
   ·exact h1.elim
 ·unfold appOK
  cases he:E.lookup i with
  | none=>trivial
  | some r =>
   simp only [he] at h2
   split at h2
   ·rename_i a b s x ha
    split at h2
    ·rename_i r' o m hs
     split at h2
     ·rename_i sz m' f hx
      have hb:=(ifP_spec h2).1
      refine ⟨r',fun p hp=>?_,_,_,s,x,sz,_,ha,.inl ⟨o,m,by rw [hav,hs]; rfl⟩,by rw [hav,hx]; rfl⟩
      unfold allLt at hb
      rw [List.all_eq_true] at hb
      have:=hb p hp
      rw [XS.length]
      simp only [Bool.and_eq_true,Nat.blt_eq,Bool.not_eq_true'] at this
      exact ⟨this.1,fun e=>by rw [e] at this; simp at this⟩
     ·exact h2.elim
    ·rename_i hs
     split at h2
     ·rename_i sz m' f hx
      have hb:=(ifP_spec h2).1
      refine ⟨X.n,fun p hp=>?_,_,_,s,x,sz,_,ha,.inr (by rw [hav,hs]; rfl),by rw [hav,hx]; rfl⟩
      unfold allLt at hb
      rw [List.all_eq_true] at hb
      have:=hb p hp
      rw [XS.length]
      simp only [Bool.and_eq_true,Nat.blt_eq,Bool.not_eq_true'] at this
      exact ⟨this.1,fun e=>by rw [e] at this; simp at this⟩
     ·exact h2.elim
    ·exact h2.elim
   ·exact h2.elim
noncomputable def stepT (P:Program) (cs:CSpec) (n:Nat) (ops:Array Oper) (D E:DS) (i:Nat) (ih:FS→XS→Prop) (t:FS) (X:XS):Prop:=rowChk D E i (opAt ops i) (sev n t) X (match (opAt ops i).guard with
 | none=>stepS P cs n (opAt ops i) t X ih
 | some (j,want)=>False)
noncomputable def treeS (P:Program) (cs:CSpec) (n:Nat) (ops:Array Oper) (D E:DS) (K:FS→XS→Prop) (fuel:Nat):Array Bool→FS→XS→Prop :=
 Nat.rec (motive:=fun _=>Array Bool→FS→XS→Prop)
  (fun listed t X=>match Region.ready .any ops listed with
   | []=>K t X
   | _=>False)
  (fun _ ih listed t X=>match Region.ready .any ops listed with
   | []=>K t X
   | x :: l=>(match pickA ops (conflictE (qset ops) ops D E) listed (x :: l) with
    | some y=>stepT P cs n ops D E y (ih (listed.setIfInBounds y true)) t X
    | none=>List.rec (motive:=fun _=>Prop) True (fun i _ r=>stepT P cs n ops D E i (ih (listed.setIfInBounds i true)) t X∧r) (x :: l))) fuel
theorem stepT_spec {cs:CSpec} (hcs:SoundS P cs) {n:Nat} (hn:n≤512) {ops:Array Oper} {D E:DS} {i:Nat} {ih:FS→XS→Prop} {t:FS} {X:XS} (hX:X.n<512) (h:stepT P cs n ops D E i ih t X) :
  ∃ v ρ',stepJ P (qset ops) ops D E i (frD n t) X.den v ρ'∧∃ t' X',putA (frD n t) (opAt ops i).dst v=frD n t'∧ρ'=X'.den∧X'.n<512∧ih t' X':=by
 obtain ⟨r1,r2,h⟩:=rowChk_spec h
 split at h
 ·rename_i hg
  obtain ⟨v,X',h1,h2,h3,h4⟩:=stepS_spec hcs hX h
  refine ⟨v.den,X'.den,⟨⟨?_,r1⟩,r2⟩,_,X',sput_den hn t _ v,rfl,h1,h2⟩
  unfold stepV
  simp only [hg]
  cases hw:isW (qset ops) (opAt ops i) with
  | none=>exact .inl ⟨hw,h3⟩
  | some m =>
   obtain ⟨rfl,hf⟩:=isW_q hw
   obtain ⟨rfl,h5⟩:=h4 hf
   exact .inr (.inl ⟨hw,rfl,h5⟩)
 ·exact h.elim
theorem treeS_T {cs:CSpec} (hcs:SoundS P cs) {n:Nat} (hn:n≤512) {ops:Array Oper} {D E:DS} {K:FS→XS→Prop} {K':List AV→Store→Prop} (hK:∀ t X,X.n<512→K t X→K' (frD n t) X.den) :
  ∀ (fuel:Nat) {listed:Array Bool} {t:FS} {X:XS},X.n<512→treeS P cs n ops D E K fuel listed t X→TreeT ops (stepJ P (qset ops) ops D E) (conflictE (qset ops) ops D E) K' fuel listed (frD n t) X.den
 | 0,listed,t,X,hX,h=>by
  have h:(match Region.ready .any ops listed with
   | []=>K t X
   | _=>False):=h
  split at h
  ·rename_i hr; exact ⟨hr,hK t X hX h⟩
  ·exact h.elim
 | fuel+1,listed,t,X,hX,h=>by
  have h:(match Region.ready .any ops listed with
   | []=>K t X
   | x :: l=>(match pickA ops (conflictE (qset ops) ops D E) listed (x :: l) with
    | some y=>stepT P cs n ops D E y (treeS P cs n ops D E K fuel (listed.setIfInBounds y true)) t X
    | none=>List.rec (motive:=fun _=>Prop) True (fun i _ r=>stepT P cs n ops D E i (treeS P cs n ops D E K fuel (listed.setIfInBounds i true)) t X∧r) (x :: l))):=h
  have step:∀ i,stepT P cs n ops D E i (treeS P cs n ops D E K fuel (listed.setIfInBounds i true)) t X→∃ v ρ',stepJ P (qset ops) ops D E i (frD n t) X.den v ρ'∧TreeT ops (stepJ P (qset ops) ops D E) (conflictE (qset ops) ops D E) K' fuel (listed.setIfInBounds i true) (putA (frD n t) (opAt ops i).dst v) ρ':=by
   intro i hi
   obtain ⟨v,ρ',h1,t',X',h2,rfl,h4,h5⟩:=stepT_spec hcs hn hX hi
   exact ⟨v,_,h1,by rw [h2]; exact treeS_T hcs hn hK fuel h4 h5⟩
  split at h
  ·rename_i hr; exact .inl ⟨hr,hK t X hX h⟩
  ·rename_i x l hr
   split at h
   ·rename_i y hy
    obtain ⟨m1,m2⟩:=pickA_spec hy
    exact .inr (.inl ⟨y,by rw [hr]; exact m1,m2,step y h⟩)
   ·refine .inr (.inr ⟨by rw [hr]; simp,fun i hi=>?_⟩)
    rw [hr] at hi
    have key:∀ l:List Nat,i ∈ l→List.rec (motive:=fun _=>Prop) True (fun i _ r=>stepT P cs n ops D E i (treeS P cs n ops D E K fuel (listed.setIfInBounds i true)) t X∧r) l→stepT P cs n ops D E i (treeS P cs n ops D E K fuel (listed.setIfInBounds i true)) t X:=by
     intro l
     induction l with
     | nil=>intro hi; cases hi
     | cons z l ih =>
      intro hi hh
      rcases List.mem_cons.1 hi with rfl | hi
      ·exact hh.1
      ·exact ih hi hh.2
    exact step i (key _ hi h)
end Go.Lg

namespace Go.Lg
open Go.RowKit
variable {P:Program}
def rowChkN (b0:Nat) (D:DS) (i:Nat) (o:Oper) (ev:Operand→SV) (k:Prop):Prop:=(match D.lookup i with
 | none=>True
 | some r=>(match memOp o with
  | some p=>(match ev p with
   | .ptr r' _ _=>(match Nat.blt r b0 with
    | true=>ifP (Nat.beq r' r) True
    | false=>ifP (Nat.ble b0 r') True)
   | _=>False)
  | none=>False))∧k
theorem rowChkN_spec {b0:Nat} {D:DS} {ops:Array Oper} {i n:Nat} {t:FS} {k:Prop} (h:rowChkN b0 D i (opAt ops i) (sev n t) k):rowN b0 D ops i (frD n t)∧k:=by
 obtain ⟨h1,hk⟩:=h
 have hav:∀ p,aev (frD n t) p=(sev n t p).den:=fun p=>sev_den n t p
 refine ⟨?_,hk⟩
 unfold rowN
 cases hd:D.lookup i with
 | none=>trivial
 | some r =>
  simp only [hd] at h1
  split at h1
  ·rename_i p hp
   split at h1
   ·rename_i r' a b hs
    split at h1
    ·rename_i hb
     have hb:r<b0:=by simpa [Nat.blt_eq] using hb
     have h2:r'=r:=Nat.eq_of_beq_eq_true (ifP_spec h1).1
     exact ⟨p,r',hp,by rw [hav,hs]; rfl,fun _=>h2,fun h=>by omega⟩
    ·rename_i hb
     have hb:¬ r<b0:=fun h=>by rw [← Nat.blt_eq,hb] at h; cases h
     have h2:b0≤r':=by simpa [Nat.ble_eq] using (ifP_spec h1).1
     exact ⟨p,r',hp,by rw [hav,hs]; rfl,fun h=>absurd h hb,fun _=>h2⟩
   ·exact h1.elim
  ·exact h1.elim
noncomputable def stepTN (P:Program) (cs:CSpec) (n:Nat) (ops:Array Oper) (b0:Nat) (D:DS) (i:Nat) (ih:FS→XS→Prop) (t:FS) (X:XS):Prop:=rowChkN b0 D i (opAt ops i) (sev n t) (match (opAt ops i).guard with
 | none=>stepS P cs n (opAt ops i) t X ih
 | some (j,want)=>False)
noncomputable def treeN (P:Program) (cs:CSpec) (n:Nat) (ops:Array Oper) (b0:Nat) (D:DS) (K:FS→XS→Prop) (fuel:Nat):Array Bool→FS→XS→Prop :=
 Nat.rec (motive:=fun _=>Array Bool→FS→XS→Prop)
  (fun listed t X=>match Region.ready .any ops listed with
   | []=>K t X
   | _=>False)
  (fun _ ih listed t X=>match Region.ready .any ops listed with
   | []=>K t X
   | x :: l=>(match pickA ops (conflictN (qset ops) ops b0 D) listed (x :: l) with
    | some y=>stepTN P cs n ops b0 D y (ih (listed.setIfInBounds y true)) t X
    | none=>List.rec (motive:=fun _=>Prop) True (fun i _ r=>stepTN P cs n ops b0 D i (ih (listed.setIfInBounds i true)) t X∧r) (x :: l))) fuel
theorem stepTN_spec {cs:CSpec} (hcs:SoundS P cs) {n:Nat} (hn:n≤512) {ops:Array Oper} {b0:Nat} {D:DS} {i:Nat} {ih:FS→XS→Prop} {t:FS} {X:XS} (hX:X.n<512) (h:stepTN P cs n ops b0 D i ih t X) :
  ∃ v ρ',stepN P (qset ops) ops b0 D i (frD n t) X.den v ρ'∧∃ t' X',putA (frD n t) (opAt ops i).dst v=frD n t'∧ρ'=X'.den∧X'.n<512∧ih t' X':=by
 obtain ⟨r1,h⟩:=rowChkN_spec h
 split at h
 ·rename_i hg
  obtain ⟨v,X',h1,h2,h3,h4⟩:=stepS_spec hcs hX h
  refine ⟨v.den,X'.den,⟨?_,r1⟩,_,X',sput_den hn t _ v,rfl,h1,h2⟩
  unfold stepV
  simp only [hg]
  cases hw:isW (qset ops) (opAt ops i) with
  | none=>exact .inl ⟨hw,h3⟩
  | some m =>
   obtain ⟨rfl,hf⟩:=isW_q hw
   obtain ⟨rfl,h5⟩:=h4 hf
   exact .inr (.inl ⟨hw,rfl,h5⟩)
 ·exact h.elim
theorem treeN_T {cs:CSpec} (hcs:SoundS P cs) {n:Nat} (hn:n≤512) {ops:Array Oper} {b0:Nat} {D:DS} {K:FS→XS→Prop} {K':List AV→Store→Prop} (hK:∀ t X,X.n<512→K t X→K' (frD n t) X.den) :
  ∀ (fuel:Nat) {listed:Array Bool} {t:FS} {X:XS},X.n<512→treeN P cs n ops b0 D K fuel listed t X→TreeT ops (stepN P (qset ops) ops b0 D) (conflictN (qset ops) ops b0 D) K' fuel listed (frD n t) X.den
 | 0,listed,t,X,hX,h=>by
  have h:(match Region.ready .any ops listed with
   | []=>K t X
   | _=>False):=h
  split at h
  ·rename_i hr; exact ⟨hr,hK t X hX h⟩
  ·exact h.elim
 | fuel+1,listed,t,X,hX,h=>by
  have h:(match Region.ready .any ops listed with
   | []=>K t X
   | x :: l=>(match pickA ops (conflictN (qset ops) ops b0 D) listed (x :: l) with
    | some y=>stepTN P cs n ops b0 D y (treeN P cs n ops b0 D K fuel (listed.setIfInBounds y true)) t X
    | none=>List.rec (motive:=fun _=>Prop) True (fun i _ r=>stepTN P cs n ops b0 D i (treeN P cs n ops b0 D K fuel (listed.setIfInBounds i true)) t X∧r) (x :: l))):=h
  have step:∀ i,stepTN P cs n ops b0 D i (treeN P cs n ops b0 D K fuel (listed.setIfInBounds i true)) t X→∃ v ρ',stepN P (qset ops) ops b0 D i (frD n t) X.den v ρ'∧TreeT ops (stepN P (qset ops) ops b0 D) (conflictN (qset ops) ops b0 D) K' fuel (listed.setIfInBounds i true) (putA (frD n t) (opAt ops i).dst v) ρ':=by
   intro i hi
   obtain ⟨v,ρ',h1,t',X',h2,rfl,h4,h5⟩:=stepTN_spec hcs hn hX hi
   exact ⟨v,_,h1,by rw [h2]; exact treeN_T hcs hn hK fuel h4 h5⟩
  split at h
  ·rename_i hr; exact .inl ⟨hr,hK t X hX h⟩
  ·rename_i x l hr
   split at h
   ·rename_i y hy
    obtain ⟨m1,m2⟩:=pickA_spec hy
    exact .inr (.inl ⟨y,by rw [hr]; exact m1,m2,step y h⟩)
   ·refine .inr (.inr ⟨by rw [hr]; simp,fun i hi=>?_⟩)
    rw [hr] at hi
    have key:∀ l:List Nat,i ∈ l→List.rec (motive:=fun _=>Prop) True (fun i _ r=>stepTN P cs n ops b0 D i (treeN P cs n ops b0 D K fuel (listed.setIfInBounds i true)) t X∧r) l→stepTN P cs n ops b0 D i (treeN P cs n ops b0 D K fuel (listed.setIfInBounds i true)) t X:=by
     intro l
     induction l with
     | nil=>intro hi; cases hi
     | cons z l ih =>
      intro hi hh
      rcases List.mem_cons.1 hi with rfl | hi
      ·exact hh.1
      ·exact ih hi hh.2
    exact step i (key _ hi h)
end Go.Lg


namespace Go.Lg
open Go.RowKit
variable {P:Program}
def isXo (B:FuncId→Bool) (o:Oper):Bool:=match o.guard with
 | none=>(match o.op with
  | .call c=>(match c.callee with
   | .value (.func g)=>B g
   | _=>false)
  | .buildSlice _ len _=>(match len with
   | 0=>false
   | _=>B 4294967299)
  | _=>false)
 | some _=>false
def isNk:MK→Bool
 | .n=>true
 | _=>false
def conflictX (W:WS) (ops:Array Oper) (B:FuncId→Bool) (y i:Nat):Bool:=conflictS ops (opAt ops y) (opAt ops i) || (match isXo B (opAt ops y) with
 | true=>true
 | false=>(match isXo B (opAt ops i) with
  | true=>!isNk (mkindW W (opAt ops y))
  | false=>conflictM W (opAt ops y) (opAt ops i)))
def reachB (ops:Array Oper):Nat→Nat→Nat→Bool
 | 0,_,_=>false
 | f+1,z,y=>(opAt ops z).after.toList.any fun e=>Region.binds .any e && (Nat.beq e.on y || reachB ops f e.on y)
def ampX (W:WS) (ops:Array Oper) (B:FuncId→Bool) (listed:Array Bool) (y:Nat):Bool:=(List.range ops.size).all fun z=>Nat.beq z y || listed.getD z true || !conflictX W ops B y z || reachB ops ops.size z y
def CallX (P:Program) (Γ:Ghost) (o:Oper) (A:List AV) (s:Γ.S) (ρ:Store) (R:AV→Γ.S→Store→Prop):Prop :=
 (∃ c g args,o.guard=none∧o.op=.call c∧c.callee=.value (.func g)∧fnOf (aev A (.func g)) (c.args.toList.map (aev A))=some (g,args)∧callable P g=true∧DoesH P Γ g args s ρ R) ∨
 (∃ t len parts v ρ',o.guard=none∧o.op=.buildSlice t len parts∧aLitR P t len (parts.toList.map fun p=>(p.1,aev A p.2)) ρ v ρ'∧R v s ρ')
theorem CallX.mono {Γ:Ghost} {o:Oper} {A s ρ} {R R':AV→Γ.S→Store→Prop} (h:CallX P Γ o A s ρ R) (hR:∀ v s ρ,R v s ρ→R' v s ρ):CallX P Γ o A s ρ R':=by
 rcases h with ⟨c,g,args,h1,h2,h3,h4,h5,h6⟩ | ⟨t,len,parts,v,ρ',h1,h2,h3,h4⟩
 ·exact .inl ⟨c,g,args,h1,h2,h3,h4,h5,h6.mono hR⟩
 ·exact .inr ⟨t,len,parts,v,ρ',h1,h2,h3,hR _ _ _ h4⟩
theorem CallX.congr {Γ:Ghost} {ops:Array Oper} {o:Oper} {A A1 s ρ} {R:AV→Γ.S→Store→Prop} (hA:∀ t ∈ rds ops o,A.getD t .any=A1.getD t .any) (h:CallX P Γ o A s ρ R):CallX P Γ o A1 s ρ R:=by
 rcases h with ⟨c,g,args,h1,h2,h3,h4,h5,h6⟩ | ⟨t,len,parts,v,ρ',h1,h2,h3,h4⟩
 ·have e:c.args.toList.map (aev A1)=c.args.toList.map (aev A):=List.map_congr_left fun x hx=>by
   cases x with
   | tmp q =>
    refine (hA q (List.mem_append_left _ (List.mem_filterMap.2 ⟨.tmp q,?_,rfl⟩))).symm
    rw [h2]
    show _ ∈ c.operands.toList
    unfold Call.operands
    simp only [Array.toList_append,List.mem_append]
    exact .inr hx
   | _=>rfl
  refine .inl ⟨c,g,args,h1,h2,h3,?_,h5,h6⟩
  rw [e]; exact h4
 ·have e:(parts.toList.map fun p=>(p.1,aev A1 p.2))=parts.toList.map fun p=>(p.1,aev A p.2):=List.map_congr_left fun p hp=>by
   obtain ⟨i,x⟩:=p
   cases x with
   | tmp q =>
    have:aev A1 (.tmp q)=aev A (.tmp q):=(hA q (List.mem_append_left _ (List.mem_filterMap.2 ⟨.tmp q,by
     rw [h2]
     show _ ∈ (parts.toList.map (·.2)).toArray.toList
     simp only [List.mem_map]
     exact ⟨_,hp,rfl⟩,rfl⟩))).symm
    show (i,aev A1 (.tmp q))=(i,aev A (.tmp q))
    rw [this]
   | _=>rfl
  refine .inr ⟨t,len,parts,v,ρ',h1,h2,?_,h4⟩
  rw [e]; exact h3
section
variable {Γ:Ghost} {W:WS} {ops:Array Oper} {B:FuncId→Bool}
def StepAny (P:Program) (Γ:Ghost) (W:WS) (ops:Array Oper) (B:FuncId→Bool) (i:Nat) (A:List AV) (s:Γ.S) (ρ:Store) (R:AV→Γ.S→Store→Prop):Prop :=
 (isXo B (opAt ops i)=false∧∃ v ρ',stepV P W ops (opAt ops i) A ρ v ρ'∧R v s ρ')∨(isXo B (opAt ops i)=true∧CallX P Γ (opAt ops i) A s ρ R)
def TreeX (P:Program) (Γ:Ghost) (W:WS) (ops:Array Oper) (B:FuncId→Bool) (K:List AV→Γ.S→Store→Prop):Nat→Array Bool→List AV→Γ.S→Store→Prop
 | 0,listed,A,s,ρ=>Region.ready .any ops listed=[]∧K A s ρ
 | f+1,listed,A,s,ρ=>(Region.ready .any ops listed=[]∧K A s ρ) ∨
  (∃ y,y ∈ Region.ready .any ops listed∧isXo B (opAt ops y)=false∧ampX W ops B listed y=true∧∃ v ρ',stepV P W ops (opAt ops y) A ρ v ρ'∧TreeX P Γ W ops B K f (listed.setIfInBounds y true) (putA A (opAt ops y).dst v) s ρ') ∨
  (Region.ready .any ops listed≠[]∧∀ i ∈ Region.ready .any ops listed,StepAny P Γ W ops B i A s ρ fun v s' ρ'=>TreeX P Γ W ops B K f (listed.setIfInBounds i true) (putA A (opAt ops i).dst v) s' ρ')
theorem listed_lt {listed:Array Bool} {i:Nat} (h:listed.getD i false=true):i<listed.size:=by
 apply Classical.byContradiction
 intro hn
 simp [Array.getD,hn] at h
theorem getD_tf {listed:Array Bool} {i:Nat} (h:i<listed.size):listed.getD i false=listed.getD i true:=by simp [Array.getD,h]
theorem closed_ready {listed:Array Bool} {i:Nat} (hsz:listed.size=ops.size) (hcl:Closed ops listed) (hi:i ∈ Region.ready .any ops listed):Closed ops (listed.setIfInBounds i true):=by
 obtain ⟨h1,h2,h3⟩:=mem_ready.1 hi
 intro j hj hl e he hb
 have key:listed.getD e.on false=true:=by
  by_cases hij:i=j
  ·subst hij; exact h3 e he hb
  ·rw [getD_set' _ _ _ _ _ hij] at hl; exact hcl j hj hl e he hb
 have hlt:=listed_lt key
 by_cases hie:i=e.on
 ·rw [← hie]; simp [Array.getD,hsz,h1]
 ·rw [getD_set' _ _ _ _ _ hie]; exact key
theorem reach_listed {listed:Array Bool} (hsz:listed.size=ops.size) (hcl:Closed ops listed):∀ (f:Nat) (z y:Nat),(∀ e ∈ (opAt ops z).after.toList,Region.binds .any e=true→listed.getD e.on false=true)→reachB ops f z y=true→listed.getD y false=true
 | 0,z,y,_,h=>by cases h
 | f+1,z,y,hz,h=>by
  have h:((opAt ops z).after.toList.any fun e=>Region.binds .any e && (Nat.beq e.on y || reachB ops f e.on y))=true:=h
  rw [List.any_eq_true] at h
  obtain ⟨e,he,h⟩:=h
  simp only [Bool.and_eq_true,Bool.or_eq_true] at h
  obtain ⟨hb,h⟩:=h
  have hl:=hz e he hb
  rcases h with h | h
  ·rw [← Nat.eq_of_beq_eq_true h]; exact hl
  ·have hlt:=listed_lt hl
   exact reach_listed hsz hcl f e.on y (hcl e.on (by omega) (by rw [← getD_tf hlt]; exact hl)) h
theorem ampX_set {listed:Array Bool} {i y:Nat} (h:ampX W ops B listed y=true) (hsz:listed.size=ops.size):ampX W ops B (listed.setIfInBounds i true) y=true:=by
 unfold ampX at h ⊢
 rw [List.all_eq_true] at h ⊢
 intro z hz
 have:=h z hz
 have hz:z<ops.size:=by simpa using hz
 simp only [Bool.or_eq_true] at this ⊢
 rcases this with ((h1 | h1) | h1) | h1
 ·exact .inl (.inl (.inl h1))
 ·refine .inl (.inl (.inr ?_))
  by_cases e:i=z
  ·subst e; simp [Array.getD,hsz,hz]
  ·rw [getD_set' _ _ _ _ _ e]; exact h1
 ·exact .inl (.inr h1)
 ·exact .inr h1
theorem ampX_ready {listed:Array Bool} {i y:Nat} (hsz:listed.size=ops.size) (hcl:Closed ops listed) (h:ampX W ops B listed y=true) (hi:i ∈ Region.ready .any ops listed) (hy:y ∈ Region.ready .any ops listed) (hne:i≠y):conflictX W ops B y i=false:=by
 obtain ⟨h1,h2,h3⟩:=mem_ready.1 hi
 obtain ⟨y1,y2,_⟩:=mem_ready.1 hy
 unfold ampX at h
 rw [List.all_eq_true] at h
 have:=h i (by simpa using h1)
 simp only [Bool.or_eq_true,Bool.not_eq_true'] at this
 rcases this with ((h4 | h4) | h4) | h4
 ·exact absurd (Nat.eq_of_beq_eq_true h4) hne
 ·rw [h2] at h4; cases h4
 ·exact h4
 ·have h5:=reach_listed hsz hcl _ _ _ h3 h4
  rw [getD_tf (listed_lt h5),y2] at h5; cases h5
theorem TreeX.step {K:List AV→Γ.S→Store→Prop} :
  ∀ (f:Nat) {listed:Array Bool} {A:List AV} {s:Γ.S} {ρ:Store},listed.size=ops.size→Closed ops listed→TreeX P Γ W ops B K (f+1) listed A s ρ→∀ {i:Nat},i ∈ Region.ready .any ops listed →
   StepAny P Γ W ops B i A s ρ fun v s' ρ'=>TreeX P Γ W ops B K f (listed.setIfInBounds i true) (putA A (opAt ops i).dst v) s' ρ':=by
 intro f
 induction f with
 | zero =>
  intro listed A s ρ hsz hcl h i hi
  rcases h with ⟨h,_⟩ | ⟨y,hy,hx,ha,v,ρ',h1,h2,h3⟩ | ⟨_,h⟩
  ·rw [h] at hi; cases hi
  ·by_cases e:i=y
   ·subst e; exact .inl ⟨hx,v,ρ',h1,h2,h3⟩
   ·have:=ready_set hi e
    rw [h2] at this; cases this
  ·exact h i hi
 | succ f ih =>
  intro listed A s ρ hsz hcl h i hi
  rcases h with ⟨h,_⟩ | ⟨y,hy,hx,ha,vy,ρ1,h1,h2⟩ | ⟨_,h⟩
  ·rw [h] at hi; cases hi
  ·by_cases e:i=y
   ·subst e; exact .inl ⟨hx,vy,ρ1,h1,h2⟩
   ·have hc:=ampX_ready hsz hcl ha hi hy e
    unfold conflictX at hc
    rw [hx,Bool.or_eq_false_iff] at hc
    obtain ⟨hS,hc⟩:=hc
    obtain ⟨s1,s2,s3⟩:=conflictS_slots hS
    have hy':=ready_set hy (fun h=>e h.symm)
    rcases ih (by simpa using hsz) (closed_ready hsz hcl hy) h2 (ready_set hi e) with ⟨hxi,vi,ρ2,h3,h4⟩ | ⟨hxi,h3⟩
    ·rw [hxi] at hc
     obtain ⟨ρ1',h5,h6,h7⟩:=swapI (P:=P) (D:=[]) (x:=y) (y:=i) (by unfold conflictI; rw [hS]; simp only [Bool.false_or]; have hc:conflictM W (opAt ops y) (opAt ops i)=false:=hc; rw [hc]; rfl) ⟨h1,trivial⟩ ⟨h3,trivial⟩
     refine .inl ⟨hxi,vi,ρ1',h5.1,.inr (.inl ⟨y,hy',hx,ampX_set ha hsz,vy,ρ2,h6.1,?_⟩)⟩
     rw [← h7,set_comm' _ _ _ _ _ e]; exact h4
    ·rw [hxi] at hc
     have hk:mkindW W (opAt ops y)=.n:=by
      have hc:(!isNk (mkindW W (opAt ops y)))=false:=hc
      cases hm:mkindW W (opAt ops y) <;> simp_all [isNk]
     have hρ:ρ1=ρ:=stepV_keeps (by rw [hk]; rfl) h1
     subst hρ
     refine .inr ⟨hxi,(h3.congr (A1:=A) fun t ht=>putA_get fun e=>s1 t e ht).mono fun v s' ρ' hR=>?_⟩
     refine .inr (.inl ⟨y,hy',hx,ampX_set ha hsz,vy,ρ',?_,?_⟩)
     ·exact stepV_congr (fun t ht=>(putA_get (fun e=>s2 t e ht)).symm) (stepV_free hk h1 ρ')
     ·rw [← putA_comm s3,set_comm' _ _ _ _ _ e]; exact hR
  ·exact h i hi
theorem TreeX.sound {H:HC} {K:List AV→Γ.S→Store→Prop} {Q':Exit→Act→World→Prop} (hK:∀ a w A s ρ,SRelH H Γ s a w A ρ→K A s ρ→Q' .normal a w) :
  ∀ (fuel:Nat) (listed:Array Bool) (A:List AV) (s:Γ.S) (ρ:Store) (a:Act) (w:World),SRelH H Γ s a w A ρ→listed.size=ops.size→Closed ops listed→TreeX P Γ W ops B K fuel listed A s ρ→∀ nn,wpAnyIn (fz H.C.rd) nn P .any ops Q' fuel listed a w
 | 0,listed,A,s,ρ,a,w,hs,hsz,hcl,h=>fun nn=>⟨h.1,hK a w A s ρ hs h.2⟩
 | fuel+1,listed,A,s,ρ,a,w,hs,hsz,hcl,h=>fun nn=>by
  refine ⟨fun hr=>?_,fun i hi=>?_⟩
  ·rcases h with ⟨_,h⟩ | ⟨y,hy,_⟩ | ⟨hne,_⟩
   ·exact hK a w A s ρ hs h
   ·rw [hr] at hy; cases hy
   ·exact absurd hr hne
  ·have hget:=opAt_get (mem_ready.1 hi).1
   have hcl':=closed_ready hsz hcl hi
   rcases TreeX.step fuel hsz hcl h hi with ⟨_,v,ρ',h1,h2⟩ | ⟨hx,⟨c,g,args,hg,ho,hc,hf,hcb,hd⟩ | ⟨ty,len,parts,v,ρ',hg,ho,hl,hR⟩⟩
   ·obtain ⟨C',hC,k1,k2⟩:=hs.open
    have:=stepV_wp (Q:=Q') hget k1 h1 (fun a' w' hs'=>TreeX.sound hK fuel _ _ _ _ a' w' (k2 _ _ _ _ hs') (by simpa using hsz) hcl' h2 nn) nn
    rwa [hC.1] at this
   ·unfold wpOpIn
    simp only [hget]
    rw [if_pos (by simp [Region.wanted,hg])]
    exact hcall_srelH hs ho hc hf hcb hd (fun v s' ρ' a' w' hR hs'=>TreeX.sound hK fuel _ _ _ _ a' w' hs' (by simpa using hsz) hcl' hR nn) nn
   ·unfold wpOpIn
    simp only [hget]
    rw [if_pos (by simp [Region.wanted,hg])]
    exact aLitR_srelH ho hs hl (fun a' w' hs'=>TreeX.sound hK fuel _ _ _ _ a' w' hs' (by simpa using hsz) hcl' hR nn) nn
end
def pickX (W:WS) (ops:Array Oper) (B:FuncId→Bool) (listed:Array Bool):List Nat→Option Nat
 | []=>none
 | y :: l=>match isXo B (opAt ops y) with
  | true=>pickX W ops B listed l
  | false=>(match ampX W ops B listed y with
   | true=>some y
   | false=>pickX W ops B listed l)
theorem pickX_spec {W:WS} {ops:Array Oper} {B:FuncId→Bool} {listed:Array Bool}:∀ {l:List Nat} {y:Nat},pickX W ops B listed l=some y→y ∈ l∧isXo B (opAt ops y)=false∧ampX W ops B listed y=true
 | [],y,h=>by cases h
 | x :: l,y,h=>by
  unfold pickX at h
  split at h
  ·obtain ⟨h1,h2⟩:=pickX_spec h
   exact ⟨List.mem_cons_of_mem _ h1,h2⟩
  ·rename_i hx
   split at h
   ·rename_i ha; cases h; exact ⟨by simp,hx,ha⟩
   ·obtain ⟨h1,h2⟩:=pickX_spec h
    exact ⟨List.mem_cons_of_mem _ h1,h2⟩
def cxB (cx:CX) (g:FuncId):Bool:=(cx g).isSome
noncomputable def stepX1 (P:Program) (cs:CSpec) (cx:CX) (n:Nat) (o:Oper) (t:FS) (X:XS) (q:GS) (ih:KG):Prop:=match isXo (cxB cx) o with
 | true=>(match o.op with
  | .call c=>(match c.callee with
   | .value (.func g)=>mapS (sev n t) c.args.toList fun args=>(match cx g with
    | some hh=>hh args X q fun v X' q'=>forceW2 v fun v=>sputK n t o.dst v fun t=>forceX X' fun X'=>ih t X' q'
    | none=>False)
   | _=>False)
  | .buildSlice ty len parts=>forceC (parts.toList.map fun p=>sev n t p.2) fun xs=>litRS P (slElem P ty) len (parts.toList.map (·.1)) xs X fun v X'=>forceS v fun v=>sputK n t o.dst v fun t=>forceX X' fun X'=>ih t X' q
  | _=>False)
 | false=>(match o.guard with
  | none=>stepS P cs n o t X fun t X=>ih t X q
  | some _=>False)
noncomputable def treeX (P:Program) (cs:CSpec) (cx:CX) (n:Nat) (ops:Array Oper) (K:KG) (fuel:Nat):Array Bool→KG :=
 Nat.rec (motive:=fun _=>Array Bool→KG)
  (fun listed t X q=>match Region.ready .any ops listed with
   | []=>K t X q
   | _=>False)
  (fun _ ih listed t X q=>match Region.ready .any ops listed with
   | []=>K t X q
   | x :: l=>(match pickX (qset ops) ops (cxB cx) listed (x :: l) with
    | some y=>stepX1 P cs cx n (opAt ops y) t X q (ih (listed.setIfInBounds y true))
    | none=>List.rec (motive:=fun _=>Prop) True (fun i _ r=>stepX1 P cs cx n (opAt ops i) t X q (ih (listed.setIfInBounds i true))∧r) (x :: l))) fuel
section
variable {Γ:Ghost} {γ:GS→Γ.S} {cs:CSpec} {cx:CX}
theorem stepX1_spec (hcs:SoundS P cs) (hcx:SoundXH P Γ γ cx) {n:Nat} (hn:n≤512) {ops:Array Oper} {i:Nat} {t:FS} {X:XS} {q:GS} {ih:KG} (hX:X.n<512) (h:stepX1 P cs cx n (opAt ops i) t X q ih) :
  StepAny P Γ (qset ops) ops (cxB cx) i (frD n t) (γ q) X.den fun v s ρ=>∃ t' X' q',putA (frD n t) (opAt ops i).dst v=frD n t'∧s=γ q'∧ρ=X'.den∧X'.n<512∧ih t' X' q':=by
 unfold stepX1 at h
 split at h
 ·rename_i hx
  have hgd:(opAt ops i).guard=none:=by
   unfold isXo at hx
   split at hx
   ·assumption
   ·cases hx
  split at h
  ·rename_i c ho
   split at h
   ·rename_i g hc
    rw [mapS_eq] at h
    split at h
    ·rename_i hh hg
     obtain ⟨h1,h2⟩:=hcx g hh hg _ _ _ _ hX h
     refine .inr ⟨hx,.inl ⟨c,g,_,hgd,ho,hc,?_,h1,h2.mono ?_⟩⟩
     ·have hargs:c.args.toList.map (aev (frD n t))=SV.denL (c.args.toList.map (sev n t)):=by
       rw [denL_mapE]; exact List.map_congr_left fun x _=>sev_den n t x
      rw [sev_den n t (.func g),hargs]; rfl
     ·rintro v s ρ' ⟨v',X',q',rfl,rfl,rfl,h3,h4⟩
      simp only [forceW2_eq,sputK_eq,forceX_eq] at h4
      exact ⟨_,X',q',sput_den hn t _ v',rfl,rfl,h3,h4⟩
    ·exact h.elim
   ·exact h.elim
  ·rename_i ty len parts ho
   simp only [forceS_eq,forceC_eq,sputK_eq,forceX_eq] at h
   have h':litRS P (slElem P ty) len ((parts.toList.map fun p=>(p.1,sev n t p.2)).map (·.1)) ((parts.toList.map fun p=>(p.1,sev n t p.2)).map (·.2)) X (fun v X'=>ih (sput n t (opAt ops i).dst v) X' q):=by
    simpa [List.map_map,Function.comp_def] using h
   obtain ⟨v,X',h1,h2,h3⟩:=litRS_spec hX h'
   refine .inr ⟨hx,.inr ⟨ty,len,parts,v.den,X'.den,hgd,ho,?_,_,X',q,sput_den hn t _ v,rfl,rfl,h2,h3⟩⟩
   have e:((parts.toList.map fun p=>(p.1,sev n t p.2)).map fun p=>(p.1,p.2.den))=parts.toList.map fun p=>(p.1,aev (frD n t) p.2):=by
    rw [List.map_map]
    exact List.map_congr_left fun p _=>by simp only [Function.comp]; rw [sev_den]
   rw [← e]; exact h1
  ·exact h.elim
 ·rename_i hx
  split at h
  ·rename_i hg
   obtain ⟨v,X',h1,h2,h3,h4⟩:=stepS_spec hcs hX h
   refine .inl ⟨hx,v.den,X'.den,?_,_,X',q,sput_den hn t _ v,rfl,rfl,h1,h2⟩
   unfold stepV
   simp only [hg]
   cases hw:isW (qset ops) (opAt ops i) with
   | none=>exact .inl ⟨hw,h3⟩
   | some m =>
    obtain ⟨rfl,hf⟩:=isW_q hw
    obtain ⟨rfl,h5⟩:=h4 hf
    exact .inr (.inl ⟨hw,rfl,h5⟩)
  ·exact h.elim
theorem StepAny.mono {W:WS} {ops:Array Oper} {B:FuncId→Bool} {i A s ρ} {R R':AV→Γ.S→Store→Prop} (h:StepAny P Γ W ops B i A s ρ R) (hR:∀ v s ρ,R v s ρ→R' v s ρ):StepAny P Γ W ops B i A s ρ R':=by
 rcases h with ⟨h1,v,ρ',h2,h3⟩ | ⟨h1,h2⟩
 ·exact .inl ⟨h1,v,ρ',h2,hR _ _ _ h3⟩
 ·exact .inr ⟨h1,h2.mono hR⟩
theorem treeX_T (hcs:SoundS P cs) (hcx:SoundXH P Γ γ cx) {n:Nat} (hn:n≤512) {ops:Array Oper} {K:KG} {K':List AV→Γ.S→Store→Prop} (hK:∀ t X q,X.n<512→K t X q→K' (frD n t) (γ q) X.den) :
  ∀ (fuel:Nat) {listed:Array Bool} {t:FS} {X:XS} {q:GS},X.n<512→treeX P cs cx n ops K fuel listed t X q→TreeX P Γ (qset ops) ops (cxB cx) K' fuel listed (frD n t) (γ q) X.den
 | 0,listed,t,X,q,hX,h=>by
  have h:(match Region.ready .any ops listed with
   | []=>K t X q
   | _=>False):=h
  split at h
  ·rename_i hr; exact ⟨hr,hK t X q hX h⟩
  ·exact h.elim
 | fuel+1,listed,t,X,q,hX,h=>by
  have h:(match Region.ready .any ops listed with
   | []=>K t X q
   | x :: l=>(match pickX (qset ops) ops (cxB cx) listed (x :: l) with
    | some y=>stepX1 P cs cx n (opAt ops y) t X q (treeX P cs cx n ops K fuel (listed.setIfInBounds y true))
    | none=>List.rec (motive:=fun _=>Prop) True (fun i _ r=>stepX1 P cs cx n (opAt ops i) t X q (treeX P cs cx n ops K fuel (listed.setIfInBounds i true))∧r) (x :: l))):=h
  have step:∀ i,stepX1 P cs cx n (opAt ops i) t X q (treeX P cs cx n ops K fuel (listed.setIfInBounds i true))→StepAny P Γ (qset ops) ops (cxB cx) i (frD n t) (γ q) X.den fun v s' ρ'=>TreeX P Γ (qset ops) ops (cxB cx) K' fuel (listed.setIfInBounds i true) (putA (frD n t) (opAt ops i).dst v) s' ρ':=by
   intro i hi
   refine (stepX1_spec hcs hcx hn hX hi).mono ?_
   rintro v s ρ' ⟨t',X',q',h1,rfl,rfl,h3,h4⟩
   rw [h1]
   exact treeX_T hcs hcx hn hK fuel h3 h4
  split at h
  ·rename_i hr; exact .inl ⟨hr,hK t X q hX h⟩
  ·rename_i x l hr
   split at h
   ·rename_i y hy
    obtain ⟨m1,m2,m3⟩:=pickX_spec hy
    rcases step y h with ⟨_,v,ρ',h1,h2⟩ | ⟨hx,_⟩
    ·exact .inr (.inl ⟨y,by rw [hr]; exact m1,m2,m3,v,ρ',h1,h2⟩)
    ·rw [m2] at hx; cases hx
   ·refine .inr (.inr ⟨by rw [hr]; simp,fun i hi=>?_⟩)
    rw [hr] at hi
    have key:∀ l:List Nat,i ∈ l→List.rec (motive:=fun _=>Prop) True (fun i _ r=>stepX1 P cs cx n (opAt ops i) t X q (treeX P cs cx n ops K fuel (listed.setIfInBounds i true))∧r) l→stepX1 P cs cx n (opAt ops i) t X q (treeX P cs cx n ops K fuel (listed.setIfInBounds i true)):=by
     intro l
     induction l with
     | nil=>intro hi; cases hi
     | cons z l ih =>
      intro hi hh
      rcases List.mem_cons.1 hi with rfl | hi
      ·exact hh.1
      ·exact ih hi hh.2
    exact step i (key _ hi h)
theorem closed_none (ops:Array Oper):Closed ops (Array.replicate ops.size false):=by
 intro i hi hl
 simp [Array.getD,hi] at hl
theorem treeX_sound (hcs:SoundS P cs) (hcx:SoundXH P Γ γ cx) {n:Nat} (hn:n≤512) (hm:P.follows .mixedOrders=true) {H:HC} {id:Nat} {ops:Array Oper} {K:KG} {Q:Exit→Γ.S→List AV→Store→Prop} {t:FS} {X:XS} {q:GS} (hX:X.n<512) (h:treeX P cs cx n ops K ops.size (Array.replicate ops.size false) t X q) (hQ:∀ t X q,X.n<512→K t X q→Q .normal (γ q) (frD n t) X.den) :
  wpH P H Γ (.region id ops true) Q (γ q) (frD n t) X.den:=by
 intro a w hs nn
 obtain ⟨C',hC,h1,h2⟩:=hs.open
 refine wpIn_region_any hm ?_
 exact TreeX.sound (K:=fun A s ρ=>Q .normal s A ρ) (fun a w A s ρ hs hq=>⟨s,A,ρ,hs,hq⟩) ops.size _ _ _ _ a _ (h2 _ _ _ _ h1.drawn) (by simp) (closed_none ops) (treeX_T hcs hcx hn hQ ops.size hX h) nn
end
end Go.Lg

namespace Go.Lg
open Go.RowKit
variable {P:Program}
def memGhost (w0:World):Ghost:=⟨Unit,fun _=>False,fun _ M w=>(∀ b,M b→b<w.heap.size)∧(∀ b,M b→w.heap[b]?=w0.heap[b]?)∧∀ b o,(cellf w0 b o).isSome=true→(cellf w b o).isSome=true,fun h b hb=>h.1 b hb,fun h hk k=>⟨fun b hb=>Nat.lt_of_lt_of_le (h.1 b hb) hk.size,fun b hb=>(hk.block b hb).trans (h.2.1 b hb),fun b o x=>k b o (h.2.2 b o x)⟩,none⟩
def DoesO (P:Program) (f:FuncId) (args:List AV) (ρ:Store) (R:AV→Store→Prop):Prop :=
 ∀ (w g:World) (F I0 I M:Nat→Prop) (β:Nat→Option Loc) (vals:Array Value),(∀ b,b<g.heap.size→F b∧¬ M b)→(∀ b,M b→F b)→(∀ b,I b→F b∧¬ M b)→Grow g w I0 I 0 ρ.length noβ β→SR w F I β ρ→RelL (cellf w) I ρ.length β args vals.toList →
  Calls P f vals w fun e w'=>∃ u v ρ' I' β',e=.returned u∧R v ρ'∧Keeps F w w'∧(∀ b,I' b→¬ M b)∧(∀ b o,(cellf w b o).isSome=true→(cellf w' b o).isSome=true)∧Grow g w' I0 I' 0 ρ'.length noβ β'∧SR w' F I' β' ρ'∧Rel (cellf w') I' ρ'.length β' v u
theorem DoesO.of {f:FuncId} {fn:Func} {c:Code} {args:List AV} {ρ:Store} {R:AV→Store→Prop} (hf:P.funcs[f]?=some fn) (hb:fn.body=some c)
  (h:∀ w0 (H:HC),H.C.rd=none→H.C.n0=0→H.C.rg=true→H.C.own→wpH P H (memGhost w0) c (fun e s' A' ρ'=>(e=.normal∨e=.ret)∧∃ A'' ρ'' vs,(∀ a w,SRelH H (memGhost w0) s' a w A' ρ'→SRelH H (memGhost w0) s' a w A'' ρ'')∧resA P A'' ρ'' fn.results.toList vs∧R (one? vs) ρ'') () (args ++ List.replicate (fn.ntmps - args.length) .any) ρ) :
  DoesO P f args ρ R:=by
 intro w g F I0 I M β vals hz hMF hIF hgr hsr0 hrel
 refine (callsIn_wide (n:=0)).1 (callsIn_of_wp_marks (F:=Fence.wide) (n:=0) hf hb trivial ?_ rfl)
 have hlen:vals.size=args.length:=by simpa using hrel.1
 let H:HC:=⟨⟨fun b=>F b∧¬ M b,I0,w,g,none,true,preM w.heap.size [],fun _ D l=>preM_up D l,0,noβ⟩,M⟩
 have hs:SRelH H (memGhost w) () { tmps:=vals ++ Array.replicate (fn.ntmps - vals.size) undef,defers:=[] } w (args ++ List.replicate (fn.ntmps - args.length) .any) ρ:=by
  refine ⟨⟨fun l hl=>(by cases hl),fun l0 hl=>by cases hl⟩,I,β,M,Keeps.refl _ _,hgr,F,⟨fun b hb=>hb.1,preM_refl _ _⟩,⟨hMF,fun b hb=>hb.2,fun b hb=>.inr (hIF b hb).2,fun _ h=>h,fun _ h=>.inl h,fun D hD=>(by cases hD),fun b hb=>hsr0.flt b (hMF b hb),fun _ _=>rfl,fun b o x=>x⟩,⟨hsr0,⟨[],List.nodup_nil,rfl,by simp⟩,by simp [hlen],fun i hi=>?_⟩⟩
  by_cases h1:i<args.length
  ·rw [getD_app_left _ _ _ _ h1]
   have:=hrel.2 i h1
   have h2:i<vals.size:=by omega
   have e:(vals ++ Array.replicate (fn.ntmps - vals.size) undef).getD i undef=vals.toList.getD i undef:=by
    have h3:i<(vals ++ Array.replicate (fn.ntmps - vals.size) undef).size:=by simp; omega
    simp only [Array.getD,h3,dif_pos,List.getD]
    rw [List.getElem?_eq_getElem (by simpa using h2)]
    simp [Array.getElem_append_left h2]
   rw [e]; exact this
  ·have:(args ++ List.replicate (fn.ntmps - args.length) AV.any).getD i .any=.any:=by
    rw [getD_app_right _ _ _ _ (by omega)]
    unfold List.getD
    by_cases h2:i - args.length<fn.ntmps - args.length
    ·simp [h2]
    ·rw [List.getElem?_eq_none (by simp; omega)]; rfl
   rw [this]; exact .any _
 refine wpIn_mono (h w H rfl rfl rfl hz _ w hs 0) ?_
 rintro e a' w' ⟨s',A0,ρ0,hs0,he,A',ρ',vs,hwk,hvs,hR⟩
 obtain ⟨_,I',β',M',hk,h0,F',⟨hF1,hF2⟩,hg,hf'⟩:=hwk _ _ hs0
 obtain ⟨Ds,hnd,hdef,hDs⟩:=hf'.df
 obtain ⟨hdef,hge⟩:=preM_nil hF2 hdef
 have hfin:LeavesInM Fence.wide 0 P fn a'.tmps (fun e w'=>∃ u v ρ' I' β',e=.returned u∧R v ρ'∧Keeps F w w'∧(∀ b,I' b→¬ M b)∧(∀ b o,(cellf w b o).isSome=true→(cellf w' b o).isSome=true)∧Grow g w' I0 I' 0 ρ'.length noβ β'∧SR w' F I' β' ρ'∧Rel (cellf w') I' ρ'.length β' v u) a'.defers .returning w':=by
  rw [hdef]
  refine leaves_marks Ds w' hnd (fun D hD=>(hDs D hD).2.2) (fun w2 e1 e2 e3 e4 e5 e6 e7=>?_)
  obtain ⟨hsr2,hrel2⟩:=hf'.marks (G:=F') (fun _ h=>h) e4 e6 e7 (fun b hb=>e5 b fun hD=>hb (hDs b hD).1)
  have hf2:FRel w2 F' I' β' { a' with defers:=[] } A' ρ':=⟨hsr2,⟨[],List.nodup_nil,rfl,by simp⟩,hf'.size,hrel2⟩
  obtain ⟨u,hu,hru⟩:=results_run (P:=P) hf2 hvs
  have hg2:Grow w' w2 I' I' ρ'.length ρ'.length β' β':=⟨fun b o x _ hx=>by rw [e6]; exact hx,fun b o hx=>by rw [e6]; exact hx,fun _ h=>h,Nat.le_refl _,fun _ _=>rfl,fun _ h=>.inl h,by rw [e4]; exact Nat.le_refl _⟩
  have hsub:∀ b,F b→F' b:=fun b hb=>by
   by_cases hm:M b
   ·exact hg.sub b (hg.up b hm)
   ·exact hF1 b ⟨hb,hm⟩
  have h1:∀ b,F b→w'.heap[b]?=w.heap[b]?:=fun b hb=>by
   by_cases hm:M b
   ·exact hg.d.2.1 b (hg.up b hm)
   ·exact hk.block b ⟨hb,hm⟩
  have hold:∀ b,F b→w2.heap[b]?=w'.heap[b]?:=fun b hb=>e5 b (fun hD=>Nat.lt_irrefl _ (Nat.lt_of_lt_of_le (hsr0.flt b hb) (hge b hD)))
  refine ⟨u,hu,u,one? vs,ρ',I',β',rfl,hR,⟨e1.trans hk.os,e2.trans hk.tape,e3.trans hk.output,by rw [e4]; exact hk.size,fun b hb=>(hold b hb).trans (h1 b hb)⟩,fun b hb hm=>?_,fun b o x=>by rw [e6]; exact hg.d.2.2 b o x,h0.trans hg2,?_,hru⟩
  ·rcases hg.rd b hb with h | h
   ·exact h.elim
   ·exact h (hg.up b hm)
  ·exact hsr2.foreign (fun b hb=>Nat.lt_of_lt_of_le (hsr0.flt b hb) (by rw [e4]; exact hk.size)) (fun r R l h1 h2 hb=>(hsr2.real r R l h1 h2).2.2.2 (hsub _ hb))
 rcases he with rfl | rfl
 ·exact hfin
 ·exact hfin
end Go.Lg

namespace Go.Lg
open Go.RowKit
variable {P:Program}
theorem pure_rel {ρ w F I β a v I' N' β'} (h:Pure a) (hs:SR w F I β ρ) (hv:Rel (cellf w) I ρ.length β a v) (hI:∀ b,I b→I' b):Rel (cellf w) I' N' β' a v:=by
 have:=(SnapP.pure (D:=fun _=>False) (ρ:=ρ) a h).rel hs hv
 refine this.mono (fun b o x _ hx=>hx) (fun b o hx=>hx) (fun b hb=>?_) (Nat.zero_le _) (fun r hr=>absurd hr (Nat.not_lt_zero _))
 rcases hb with hb | ⟨r,R,l,hd,_⟩
 ·exact hI b hb
 ·exact hd.elim
theorem FRel.putO {w' F' I' β' a A ρ'} (hold:∀ i,i<A.length→Rel (cellf w') I' ρ'.length β' (A.getD i .any) (a.tmps.getD i undef)) (hsz:a.tmps.size=A.length) (dst:Option Tmp) {v:AV} {u:Value}
  (hsr:SR w' F' I' β' ρ') (hm:Marked w' F' I' a) (hv:Rel (cellf w') I' ρ'.length β' v u):FRel w' F' I' β' (a.put dst u) (putA A dst v) ρ':=by
 cases dst with
 | none=>exact ⟨hsr,hm.put none u,hsz,hold⟩
 | some d =>
  refine ⟨hsr,hm.put (some d) u,by simp [Act.put,putA,hsz],fun i hi=>?_⟩
  have hi':i<A.length:=by simpa [putA] using hi
  simp only [putA,Act.put]
  by_cases e:d=i
  ·subst e
   have e1:(A.set d v).getD d .any=v:=by simp [List.getD,hi']
   have e2:(a.tmps.setIfInBounds d u).getD d undef=u:=by simp [Array.getD,hsz,hi']
   rw [e1,e2]; exact hv
  ·have e1:(A.set d v).getD i .any=A.getD i .any:=by simp [List.getD,List.getElem?_set_ne e]
   have e2:(a.tmps.setIfInBounds d u).getD i undef=a.tmps.getD i undef:=by
    simp only [Array.getD]
    by_cases h:i<a.tmps.size
    ·simp [h,e]
    ·simp [h]
   rw [e1,e2]; exact hold i hi'
end Go.Lg

namespace Go.Lg
open Go.RowKit
variable {P:Program}
theorem ocall_gen {H:HC} {Γ:Ghost} {s:Γ.S} {A:List AV} {ρ:Store} {o:Oper} {c:Call} {f:Operand} {g:FuncId} {args argsC:List AV} {R:AV→Store→Prop} {a w} (hs:SRelH H Γ s a w A ρ) (hown:H.C.own)
  (ho:o.op=.call c) (hc:c.callee=.value f) (hf:fnOf (aev A f) (c.args.toList.map (aev A))=some (g,args)) (hcb:callable P g=true)
  {D:Nat→Prop} {ro:Nat} {Ro:Root} (hDo:¬ D ro) (hro:ρ[ro]?=some (some Ro)∨(ρ.length≤ro∧Ro.els=[])) (hob:Ro.ob=none) (hpo:∀ i,i<Ro.els.length→∀ k,k<Ro.sz→Pure ((Ro.els.getD i .any).cells.getD k .any))
  (hlen:argsC.length=args.length) (harg:∀ j,j<args.length→SnapP D ρ (args.getD j .any) (argsC.getD j .any)∨(∃ n,args.getD j .any=.sl ro 0 n∧ro<ρ.length∧argsC.getD j .any=.sl 0 0 n)∨(args.getD j .any=.sc (.slice none 0 0)∧argsC.getD j .any=.sl 0 0 0))
  (hd:DoesO P g argsC [some Ro] R) (hR:∀ v ρ',R v ρ'→∃ j n S L,v=.sl j 0 n∧ρ'[j]?=some (some ⟨S,L,none⟩)∧∀ i,i<L.length→∀ k,k<S→Pure ((L.getD i .any).cells.getD k .any))
  {ρ2:Store} (l2:ρ2.length=ρ.length) (g2:∀ r R,ρ2[r]?=some (some R)→ρ[r]?=some (some R)∧¬ D r∧r≠ro)
  {K:Act→World→Prop} {Q:Exit→Act→World→Prop}
  (hK:∀ v ρ' j n S L a' w',R v ρ'→v=.sl j 0 n→ρ'[j]?=some (some ⟨S,L,none⟩)→SRelH H Γ s a' w' (putA A o.dst (.sl ρ.length 0 n)) (ρ2 ++ [some (⟨S,L,none⟩:Root)])→K a' w') (nn:Nat):o.wpIn (fz H.C.rd) nn P a w K Q:=by
 obtain ⟨hst,I,β,M,hk,h0,F',⟨hF,hM⟩,hg,hfr⟩:=hs
 have hsr:=hfr.sr
 obtain ⟨vals,hrun,hrel⟩:=fnOf_run (P:=P) hfr ho hc hf hcb
 let I1:Nat→Prop:=withLiveP D I β ρ
 let βo:Option Loc:=if ro<ρ.length then β ro else none
 have real:∀ l,βo=some l→ρ[ro]?=some (some Ro)∧β ro=some l:=fun l hl=>by
  by_cases h:ro<ρ.length
  ·have e:βo=β ro:=if_pos h
   exact ⟨hro.elim id fun h1=>by omega,e ▸ hl⟩
  ·have e:βo=none:=if_neg h
   rw [e] at hl; cases hl
 let Kp:Nat→Prop:=fun b=>∃ r R l,r≠ro∧ρ[r]?=some (some R)∧β r=some l∧l.b=b
 let Fc:Nat→Prop:=fun b=>F' b∨I b∨Kp b
 let Mc:Nat→Prop:=fun b=>(F' b∨Kp b)∧¬ I1 b∧H.C.g0.heap.size≤b
 let βc:Nat→Option Loc:=fun r=>match r with
  | 0=>βo
  | _=>none
 have I1F:∀ b,I1 b→Fc b:=fun b hb=>by
  rcases hb with hb | ⟨r,R,l,hdr,h1,h2,h3⟩
  ·exact .inr (.inl hb)
  ·exact .inr (.inr ⟨r,R,l,fun e=>hDo (e ▸ hdr),h1,h2,h3⟩)
 have old:∀ b,b<H.C.g0.heap.size→F' b:=fun b hb=>hF b (hown b hb)
 have rnew:∀ r R l,ρ[r]?=some (some R)→β r=some l→H.C.g0.heap.size≤l.b:=fun r R l h1 h2=>Nat.le_of_not_lt fun h=>(hsr.real r R l h1 h2).2.2.2 (old _ h)
 have I1n:∀ b,I1 b→H.C.I0 b∨H.C.g0.heap.size≤b:=fun b hb=>by
  rcases hb with hb | ⟨r,R,l,_,h1,h2,rfl⟩
  ·exact h0.hI2 b hb
  ·exact .inr (rnew r R l h1 h2)
 have rolt:∀ l,βo=some l→¬ Fc l.b:=fun l hl hb=>by
  obtain ⟨hro,hl⟩:=real l hl
  obtain ⟨_,_,a3,a4⟩:=hsr.real ro Ro l hro hl
  rcases hb with hb | hb | ⟨r,R,m,h1,h2,h3,h4⟩
  ·exact a4 hb
  ·exact a3 hb
  ·exact h1 (hsr.inj r ro R Ro m l h2 hro h3 hl h4)
 have get0:∀ {q:Nat} {R:Root},([some Ro]:Store)[q]?=some (some R)→q=0∧R=Ro:=fun {q R} h=>by
  cases q with
  | zero=>simp at h; exact ⟨rfl,h.symm⟩
  | succ q=>simp at h
 have hsrc:SR w Fc I1 βc [some Ro]:=by
  constructor
  ·intro q R m h1 h2
   obtain ⟨rfl,rfl⟩:=get0 h1
   obtain ⟨hro,h20⟩:=real m h2
   obtain ⟨a1,a2,a3,a4⟩:=hsr.real ro R m hro h20
   exact ⟨a1,a2,fun h=>rolt m h2 (I1F _ h),rolt m h2⟩
  ·intro q R m h1 h2 i hi
   obtain ⟨rfl,rfl⟩:=get0 h1
   obtain ⟨hro,h20⟩:=real m h2
   obtain ⟨b1,b2⟩:=hsr.cells ro R m hro h20 i hi
   refine ⟨b1,fun j hj=>?_⟩
   obtain ⟨v,h3,h4⟩:=b2 j hj
   exact ⟨v,h3,pure_rel (hpo i hi j hj) hsr h4 fun b hb=>.inl hb⟩
  ·intro q R h1 h2
   obtain ⟨rfl,rfl⟩:=get0 h1
   rcases hro with hro | hro
   ·have e:βo=β ro:=if_pos (List.getElem?_eq_some_iff.1 hro).1
    exact hsr.phantom ro R hro (e ▸ h2)
   ·exact hro.2
  ·intro q q' R R' m m' h1 h2 h3 h4 h5
   rw [(get0 h1).1,(get0 h2).1]
  ·intro b hb
   rcases hb with hb | ⟨r,R,l,_,h1,h2,rfl⟩
   ·exact hsr.ilt b hb
   ·exact (hsr.real r R l h1 h2).2.1
  ·intro b hb
   rcases hb with hb | hb | ⟨r,R,l,_,h1,h2,rfl⟩
   ·exact hsr.flt b hb
   ·exact hsr.ilt b hb
   ·exact (hsr.real r R l h1 h2).2.1
  ·intro q R m h1 h2 o
   obtain ⟨rfl,rfl⟩:=get0 h1
   obtain ⟨hro,h20⟩:=real m h2
   exact hsr.thaw ro R m hro h20 o
  ·intro q R x h1 h2
   obtain ⟨rfl,rfl⟩:=get0 h1
   rw [hob] at h2; cases h2
 have hrelc:RelL (cellf w) I1 1 βc argsC vals.toList:=by
  refine ⟨by rw [hrel.1,hlen],fun j hj=>?_⟩
  have hj:j<args.length:=by omega
  have hv:=hrel.2 j hj
  rcases harg j hj with h | ⟨n,e1,hlt,e2⟩ | ⟨e1,e2⟩
  ·exact (h.rel hsr hv).mono (fun b o x _ hx=>hx) (fun b o hx=>hx) (fun b hb=>hb) (Nat.zero_le _) (fun r hr=>absurd hr (Nat.not_lt_zero _))
  ·rw [e1] at hv
   rw [e2]
   generalize vals.toList.getD j undef=u at hv
   cases hv with
   | sl _ _ _ cap l hr hl hn hc=>exact .sl 0 0 n cap l (by omega) ((if_pos hlt:βo=β ro).trans hl) hn hc
   | slz _ _ a hr=>exact .slz 0 0 a (by omega)
  ·rw [e1] at hv
   rw [e2]
   generalize vals.toList.getD j undef=u at hv
   cases hv
   exact .slz 0 0 none (by omega)
 have hgc:Grow H.C.g0 w I1 I1 0 1 noβ βc:=⟨fun b q x hb hx=>by
   rcases I1n b hb with h | h
   ·exact h0.hc b q x h hx
   ·have:=cellf_isSome_lt (w:=H.C.g0) (b:=b) (k:=q) (by rw [hx]; rfl)
    omega,h0.hs,fun _ h=>h,Nat.zero_le _,fun r hr=>absurd hr (Nat.not_lt_zero _),fun b hb=>.inl hb,h0.hz⟩
 refine Oper.wpIn_enter hrun (hd w H.C.g0 Fc I1 I1 Mc βc vals (fun b hb=>⟨.inl (old b hb),fun h=>by have:=h.2.2; omega⟩) (fun b h=>h.1.elim .inl fun k=>.inr (.inr k)) (fun b hb=>⟨I1F b hb,fun h=>h.2.1 hb⟩) hgc hsrc hrelc) ?_
 rintro e w' ⟨u,v,ρ',I',β',rfl,hRv,hk',hIM,hcs,hg',hsr',hv⟩
 obtain ⟨j,n,S,L,rfl,hj,hp⟩:=hR _ _ hRv
 let β2:Nat→Option Loc:=fun r=>if r<ρ.length then β r else β' j
 have b2lo:∀ r,r<ρ.length→β2 r=β r:=fun r hr=>if_pos hr
 have b2hi:β2 ρ.length=β' j:=if_neg (Nat.lt_irrefl _)
 have len2:(ρ2 ++ [some (⟨S,L,none⟩:Root)]).length=ρ.length+1:=by simp [l2]
 have cell:∀ b,Fc b→∀ q,cellf w' b q=cellf w b q:=fun b hb q=>by
  unfold cellf World.cell?
  rw [hk'.block b hb]
 have keep:∀ b,F' b∨Kp b→¬ I1 b→¬ I' b:=fun b hb h1 hi=>by
  rcases hg'.hI2 b hi with h | h
  ·exact h1 h
  ·exact hIM b hi ⟨hb,h1,h⟩
 have I1i:∀ b,I b→I' b:=fun b hb=>hg'.hI b (.inl hb)
 have F1:∀ b,F' b→¬ I b→¬ I1 b:=fun b hb h1 h=>by
  rcases h with h | ⟨r,R,l,_,h2,h3,rfl⟩
  ·exact h1 h
  ·exact (hsr.real r R l h2 h3).2.2.2 hb
 have gro:∀ {a v},Rel (cellf w) I ρ.length β a v→Rel (cellf w') I' (ρ2 ++ [some (⟨S,L,none⟩:Root)]).length β2 a v:=fun h=>h.mono
  (fun b q x hb hx=>by rw [cell b (.inr (.inl hb))]; exact hx) hcs I1i (by rw [len2]; omega) b2lo
 have hval:Rel (cellf w') I' (ρ2 ++ [some (⟨S,L,none⟩:Root)]).length β2 (.sl ρ.length 0 n) u:=by
  cases hv with
  | sl _ _ _ cap l hr hl hn hc=>exact .sl ρ.length 0 n cap l (by rw [len2]; omega) (by rw [b2hi]; exact hl) hn hc
  | slz _ _ a hr=>exact .slz ρ.length 0 a (by rw [len2]; omega)
 have get:∀ {r:Nat} {R:Root},(ρ2 ++ [some (⟨S,L,none⟩:Root)])[r]?=some (some R)→(r<ρ.length∧¬ D r∧r≠ro∧ρ[r]?=some (some R))∨(r=ρ.length∧R=⟨S,L,none⟩):=fun {r R} h=>by
  by_cases hr:r<ρ.length
  ·rw [List.getElem?_append_left (by omega)] at h
   obtain ⟨a1,a2,a3⟩:=g2 r R h
   exact .inl ⟨hr,a2,a3,a1⟩
  ·rw [List.getElem?_append_right (by omega)] at h
   have h:([some (⟨S,L,none⟩:Root)]:Store)[r - ρ.length]?=some (some R):=by rw [← l2]; exact h
   by_cases e:r=ρ.length
   ·subst e
    rw [Nat.sub_self] at h
    exact .inr ⟨rfl,by simp at h; exact h.symm⟩
   ·rw [List.getElem?_eq_none (by simp; omega)] at h; cases h
 have kp:∀ {r R l},r≠ro→ρ[r]?=some (some R)→β r=some l→Kp l.b:=fun {r R l} h1 h2 h3=>⟨r,R,l,h1,h2,h3,rfl⟩
 have hsr2:SR w' F' I' β2 (ρ2 ++ [some (⟨S,L,none⟩:Root)]):=by
  constructor
  ·intro r R l h1 h2
   rcases get h1 with ⟨hr,n1,n2,h3⟩ | ⟨rfl,rfl⟩
   ·rw [b2lo r hr] at h2
    obtain ⟨a1,a2,a3,a4⟩:=hsr.real r R l h3 h2
    refine ⟨a1,Nat.lt_of_lt_of_le a2 hk'.size,keep _ (.inr (kp n2 h3 h2)) (fun h=>?_),a4⟩
    rcases h with h | ⟨q,R2,m,hdq,k1,k2,k3⟩
    ·exact a3 h
    ·exact n1 ((hsr.inj _ _ _ _ _ _ h3 k1 h2 k2 k3.symm) ▸ hdq)
   ·rw [b2hi] at h2
    obtain ⟨a1,a2,a3,a4⟩:=hsr'.real j _ l hj h2
    exact ⟨a1,a2,a3,fun h=>a4 (.inl h)⟩
  ·intro r R l h1 h2 i hi
   rcases get h1 with ⟨hr,n1,n2,h3⟩ | ⟨rfl,rfl⟩
   ·rw [b2lo r hr] at h2
    obtain ⟨c1,c2⟩:=hsr.cells r R l h3 h2 i hi
    refine ⟨c1,fun k hk2=>?_⟩
    obtain ⟨v,e1,e2⟩:=c2 k hk2
    exact ⟨v,by rw [cell _ (.inr (.inr (kp n2 h3 h2)))]; exact e1,gro e2⟩
   ·rw [b2hi] at h2
    obtain ⟨c1,c2⟩:=hsr'.cells j _ l hj h2 i hi
    refine ⟨c1,fun k hk2=>?_⟩
    obtain ⟨v,e1,e2⟩:=c2 k hk2
    exact ⟨v,e1,pure_rel (hp i hi k hk2) hsr' e2 fun b hb=>hb⟩
  ·intro r R h1 h2
   rcases get h1 with ⟨hr,n1,n2,h3⟩ | ⟨rfl,rfl⟩
   ·rw [b2lo r hr] at h2; exact hsr.phantom r R h3 h2
   ·rw [b2hi] at h2; exact hsr'.phantom j _ hj h2
  ·intro r q R T l m h1 h2 h3 h4 h5
   rcases get h1 with ⟨hr,n1,n2,k1⟩ | ⟨rfl,rfl⟩ <;> rcases get h2 with ⟨hq,m1,m2,k2⟩ | ⟨rfl,rfl⟩
   ·rw [b2lo r hr] at h3; rw [b2lo q hq] at h4
    exact hsr.inj r q R T l m k1 k2 h3 h4 h5
   ·rw [b2lo r hr] at h3; rw [b2hi] at h4
    exact absurd (.inr (.inr (h5 ▸ kp n2 k1 h3))) (hsr'.real j _ m hj h4).2.2.2
   ·rw [b2lo q hq] at h4; rw [b2hi] at h3
    exact absurd (.inr (.inr (h5 ▸ kp m2 k2 h4))) (hsr'.real j _ l hj h3).2.2.2
   ·rfl
  ·exact hsr'.ilt
  ·exact fun b hb=>Nat.lt_of_lt_of_le (hsr.flt b hb) hk'.size
  ·intro r R l h1 h2 q
   rcases get h1 with ⟨hr,n1,n2,h3⟩ | ⟨rfl,rfl⟩
   ·rw [b2lo r hr] at h2
    rw [frozen_same (hk'.block _ (.inr (.inr (kp n2 h3 h2))))]
    exact hsr.thaw r R l h3 h2 q
   ·rw [b2hi] at h2; exact hsr'.thaw j _ l hj h2 q
  ·intro r R x h1 h2
   rcases get h1 with ⟨hr,n1,n2,h3⟩ | ⟨rfl,rfl⟩
   ·obtain ⟨e0,l,y,e1,e2,e3⟩:=hsr.obs r R x h3 h2
    exact ⟨e0,l,y,by rw [b2lo r hr]; exact e1,(hk'.block _ (.inr (.inr (kp n2 h3 e1)))).trans e2,e3.mono fun a v h=>gro h⟩
   ·cases h2
 have hgr2:Grow H.C.g0 w' H.C.I0 I' H.C.n0 (ρ2 ++ [some (⟨S,L,none⟩:Root)]).length H.C.β0 β2 :=
  ⟨fun b q x hb hx=>hg'.hc b q x (.inl (h0.hI b hb)) hx,hg'.hs,fun b hb=>I1i b (h0.hI b hb),by rw [len2]; have:=h0.hN; omega,fun r hr=>by rw [b2lo r (Nat.lt_of_lt_of_le hr h0.hN)]; exact h0.hβ r hr,
   fun b hb=>(hg'.hI2 b hb).elim (I1n b) .inr,hg'.hz⟩
 have hmk:marks (a.put o.dst u).defers=marks a.defers:=by cases o.dst <;> rfl
 have hdf:Marked w' F' I' a:=by
  obtain ⟨Ds,e1,e2,e3⟩:=hfr.df
  exact ⟨Ds,e1,e2,fun D hD=>⟨(e3 D hD).1,keep D (.inl (e3 D hD).1) (F1 D (e3 D hD).1 (e3 D hD).2.1),(hk'.block D (.inl (e3 D hD).1)).trans (e3 D hD).2.2⟩⟩
 refine ⟨u,rfl,hK _ ρ' j n S L _ w' hRv rfl hj ⟨hst,I',β2,M,hk.trans (hk'.sub fun b hb=>.inl (hF b hb)),hgr2,F',⟨hF,(by cases o.dst <;> exact hM)⟩,
  ⟨hg.sub,hg.off,fun b hb=>?_,hg.up,hg.new,by rw [hmk]; exact hg.dfs,Γ.keep hg.d (hk'.sub fun b hb=>.inl (hg.sub b hb)) hcs⟩,?_⟩⟩
 ·by_cases h1:I b
  ·exact hg.rd b h1
  ·exact .inr fun hm=>keep b (.inl (hg.sub b hm)) (F1 b (hg.sub b hm) h1) hb
 ·exact (FRel.putO (A:=A) (fun i hi=>gro (hfr.rel i hi)) hfr.size o.dst hsr2 hdf hval)
end Go.Lg

namespace Go.Lg
open Go.RowKit
variable {P:Program}
structure OFn where
 j:Nat
 sz:Nat
 ns:Nat→Option Nat
 c:List SV→Nat→(Nat→SV)→(Nat→(Nat→SV)→Prop)→Prop
abbrev OX:=FuncId→Option OFn
def noO:OX:=fun _=>none
def rowO (sz N:Nat) (f:Nat→SV):SRow:=⟨sz,N,f,false⟩
def SoundO (P:Program) (ox:OX):Prop:=∀ g x,ox g=some x→∀ args N h k,x.c args N h k→callable P g=true ∧
 DoesO P g (SV.denL args) [denR (some (rowO x.sz N h))] fun v ρ'=>∃ j N' h',v=.sl j 0 N'∧ρ'[j]?=some (denR (some (rowO x.sz N' h')))∧(∀ i,i<N'→pureS (h' i))∧k N' h'
theorem noO_sound:SoundO P noO:=fun g x h=>nomatch h
def setL:List SV→Nat→SV→List SV
 | [],_,_=>[]
 | x :: xs,0,v=>v :: xs
 | x :: xs,i+1,v=>x :: setL xs i v
def nilV (o:Option Nat) (x:SV):SV:=match o with
 | some sz=>(match x with
  | .val (.slice none 0 0)=>.lst sz 0 fun _=>.any
  | x=>x)
 | none=>x
def nilA (ns:Nat→Option Nat):Nat→List SV→List SV
 | _,[]=>[]
 | i,x :: xs=>nilV (ns i) x :: nilA ns (Nat.succ i) xs
mutual
def refS:SV→List Nat→List Nat
 | .sl r _ _,l=>r :: l
 | .ptr r _ _,l=>r :: l
 | .sub r _ _ _ _,l=>r :: l
 | .agg c,l=>refSL c l
 | .clo _ a b,l=>refSL a (refSL b l)
 | _,l=>l
def refSL:List SV→List Nat→List Nat
 | [],l=>l
 | x :: xs,l=>refS x (refSL xs l)
end
noncomputable def onlyR (X:XS) (ds:List Nat):XS:=List.rec (motive:=fun _=>XS) ⟨X.n,.nil⟩ (fun r _ ih=>ih.set r (X.row r)) ds
noncomputable def dropR (X:XS) (ds:List Nat):XS:=List.rec (motive:=fun _=>XS) X (fun r _ ih=>ih.set r none) ds
noncomputable def withR (X:XS) (ds:List Nat) (ro:Nat) (K:XS→XS→Prop):Prop:=ifP (ds.all fun r=>Nat.blt r X.n && not (Nat.beq r ro)) (K (onlyR X ds) (dropR X ds))
noncomputable def ocallS (x:OFn) (args:List SV) (X:XS) (k:Nat→(Nat→SV)→XS→Prop):Prop:=nthS args x.j fun a=>match a with
 | .sl r o n=>(match X.row r with
  | some R=>ifP (Nat.beq R.sz x.sz && not R.var) (o=0∧R.n=n∧(∀ i,i<n→pureS (R.f i)) ∧
    withR X (refSL (setL args x.j .any) []) r fun X1 X2=>asValL X1 (setL args x.j .any) fun as=>x.c (setL (nilA x.ns 0 as) x.j (.sl 0 0 n)) n R.f fun N' h'=>k N' h' (X2.set r none))
  | none=>False)
 | .val (.slice none 0 0)=>withR X (refSL (setL args x.j .any) []) X.n fun X1 X2=>asValL X1 (setL args x.j .any) fun as=>x.c (setL (nilA x.ns 0 as) x.j (.sl 0 0 0)) 0 (fun _=>.any) fun N' h'=>k N' h' X2
 | _=>False
theorem setL_den:∀ (l:List SV) (i:Nat) (v:SV),SV.denL (setL l i v)=(SV.denL l).set i v.den
 | [],i,v=>rfl
 | x :: xs,0,v=>rfl
 | x :: xs,i+1,v=>by simp only [setL,SV.denL,List.set_cons_succ,setL_den xs i v]
theorem snap_nil {D:Nat→Prop} {ρ:Store} {a:AV} {sz:Nat} (h:SnapP D ρ a (.sc (.slice none 0 0))):SnapP D ρ a (.isl sz []):=by
 cases h; exact .nil sz
theorem nilV_snap {D:Nat→Prop} {ρ:Store} {a:AV} {o:Option Nat} {x:SV} (h:SnapP D ρ a x.den):SnapP D ρ a (nilV o x).den:=by
 unfold nilV
 split
 ·split
  ·exact snap_nil h
  ·exact h
 ·exact h
theorem nilA_len (ns:Nat→Option Nat):∀ (i:Nat) (l:List SV),(SV.denL (nilA ns i l)).length=(SV.denL l).length
 | i,[]=>rfl
 | i,x :: xs=>by simp only [nilA,SV.denL,List.length_cons,nilA_len ns _ xs]
theorem nilA_snap {D:Nat→Prop} {ρ:Store} (ns:Nat→Option Nat):∀ (i:Nat) (l:List SV) (A:List AV),(∀ j,j<(SV.denL l).length→SnapP D ρ (A.getD j .any) ((SV.denL l).getD j .any)) →
  ∀ j,j<(SV.denL l).length→SnapP D ρ (A.getD j .any) ((SV.denL (nilA ns i l)).getD j .any)
 | i,[],A,h,j,hj=>by simp [SV.denL] at hj
 | i,x :: xs,A,h,j,hj=>by
  cases j with
  | zero=>exact nilV_snap (h 0 hj)
  | succ j =>
   have:=nilA_snap ns (Nat.succ i) xs (A.drop 1) (fun q hq=>by
    have:=h (q+1) (by simpa [SV.denL] using hq)
    cases A with
    | nil=>simpa [SV.denL] using this
    | cons a A=>simpa [SV.denL] using this) j (by simpa [SV.denL] using hj)
   cases A with
   | nil=>simpa [nilA,SV.denL] using this
   | cons a A=>simpa [nilA,SV.denL] using this
theorem SnapP.to {D D':Nat→Prop} {ρ ρ':Store} {a a':AV} (h:SnapP D ρ a a') (hg:∀ r R,D r→ρ[r]?=some (some R)→D' r∧ρ'[r]?=some (some R)):SnapP D' ρ' a a':=by
 induction h with
 | pure a h=>exact .pure a h
 | nil sz=>exact .nil sz
 | sl r o n R L hR ho hL hz h hm ih=>exact .sl r o n R L (hg r R hm hR).2 ho hL hz ih (hg r R hm hR).1
 | ptr r i j R cs hR hi hl h hm ih=>exact .ptr r i j R cs (hg r R hm hR).2 hi hl ih (hg r R hm hR).1
 | sub r i j sz n R L hR hi hl hL hz h hm ih=>exact .sub r i j sz n R L (hg r R hm hR).2 hi hl hL hz ih (hg r R hm hR).1
 | agg c c' hl h ih=>exact .agg c c' hl ih
 | tup c c' hl h ih=>exact .tup c c' hl ih
 | clo fn fs fs' cs cs' hl h hl' h' ih ih'=>exact .clo fn fs fs' cs cs' hl ih hl' ih'
 | ifc t a a' h ih=>exact .ifc t a a' ih
theorem rowO_den (sz N:Nat) (f:Nat→SV):(rowO sz N f).den=⟨sz,(rowO sz N f).els,none⟩:=rfl
theorem rowO_pure {sz N:Nat} {f:Nat→SV} (h:∀ i,i<N→pureS (f i)):∀ i,i<(rowO sz N f).els.length→∀ k,k<sz→Pure (((rowO sz N f).els.getD i .any).cells.getD k .any):=by
 intro i hi k hk
 have hi:i<N:=by rw [els_length] at hi; exact hi
 rw [els_get hi]
 exact pure_cellsA (pureS_spec _ (h i hi)) k
theorem XS.nil_row (n r:Nat):(⟨n,.nil⟩:XS).row r=none:=by
 unfold XS.row
 cases Nat.blt r (⟨n,.nil⟩:XS).n <;> rfl
theorem XS.nil_get {n r:Nat} {R:Root} (h:(⟨n,.nil⟩:XS).den[r]?=some (some R)):False:=by
 have hlt:r<n:=by
  have:=(List.getElem?_eq_some_iff.1 h).1
  rwa [XS.length] at this
 rw [row_at (X:=⟨n,.nil⟩) hlt,XS.nil_row] at h
 simp [denR] at h
theorem onlyR_n (X:XS):∀ ds:List Nat,(onlyR X ds).n=X.n
 | []=>rfl
 | r :: ds=>by show (onlyR X ds).n=X.n; exact onlyR_n X ds
theorem dropR_n (X:XS):∀ ds:List Nat,(dropR X ds).n=X.n
 | []=>rfl
 | r :: ds=>by show (dropR X ds).n=X.n; exact dropR_n X ds
theorem get_set {X:XS} (hX:X.n≤512) {r:Nat} (hr:r<X.n) {x:Option SRow} {q:Nat} {R:Root} (h:(X.set r x).den[q]?=some (some R)):(q=r∧denR x=some R)∨(q≠r∧X.den[q]?=some (some R)):=by
 rw [XS.set_den hX hr] at h
 by_cases e:r=q
 ·subst e
  rw [List.getElem?_set_self (by rw [XS.length]; exact hr)] at h
  exact .inl ⟨rfl,by simpa using h⟩
 ·rw [List.getElem?_set_ne e] at h
  exact .inr ⟨fun h=>e h.symm,h⟩
theorem onlyR_get {X:XS} (hX:X.n≤512):∀ {ds:List Nat},(∀ r,r ∈ ds→r<X.n)→∀ {q:Nat} {R:Root},(onlyR X ds).den[q]?=some (some R)→q ∈ ds∧X.den[q]?=some (some R)
 | [],_,q,R,h=>(XS.nil_get h).elim
 | r :: ds,hd,q,R,h=>by
  have hr:r<X.n:=hd r (by simp)
  rcases get_set (X:=onlyR X ds) (by rw [onlyR_n]; exact hX) (by rw [onlyR_n]; exact hr) h with ⟨rfl,h1⟩ | ⟨_,h1⟩
  ·exact ⟨by simp,by rw [row_at hr,h1]⟩
  ·have:=onlyR_get hX (fun r h=>hd r (by simp [h])) h1
   exact ⟨by simp [this.1],this.2⟩
theorem dropR_get {X:XS} (hX:X.n≤512):∀ {ds:List Nat},(∀ r,r ∈ ds→r<X.n)→∀ {q:Nat} {R:Root},(dropR X ds).den[q]?=some (some R)→q ∉ ds∧X.den[q]?=some (some R)
 | [],_,q,R,h=>⟨by simp,h⟩
 | r :: ds,hd,q,R,h=>by
  have hr:r<X.n:=hd r (by simp)
  rcases get_set (X:=dropR X ds) (by rw [dropR_n]; exact hX) (by rw [dropR_n]; exact hr) h with ⟨_,h1⟩ | ⟨hne,h1⟩
  ·cases h1
  ·have:=dropR_get hX (fun r h=>hd r (by simp [h])) h1
   exact ⟨by simp [this.1,hne],this.2⟩
section
variable {H:HC} {Γ:Ghost} {s:Γ.S}
theorem ocallS_wp {ox:OX} (hox:SoundO P ox) {n:Nat} {t:FS} {X:XS} {o:Oper} {c:Call} {f:Operand} {g:FuncId} {x:OFn} {args:List SV} {k:Nat→(Nat→SV)→XS→Prop} {a w} (hX:X.n<512) (hs:SRelH H Γ s a w (frD n t) X.den) (hown:H.C.own)
  (ho:o.op=.call c) (hc:c.callee=.value f) (hf:fnOf (aev (frD n t) f) (c.args.toList.map (aev (frD n t)))=some (g,SV.denL args)) (hg:ox g=some x) (h:ocallS x args X k)
  {K:Act→World→Prop} {Q:Exit→Act→World→Prop}
  (hK:∀ N' h' X2 a' w',X2.n=X.n→k N' h' X2→SRelH H Γ s a' w' (putA (frD n t) o.dst (SV.sl X.n 0 N').den) (X2.den ++ [denR (some (rowO x.sz N' h'))])→K a' w') (nn:Nat):o.wpIn (fz H.C.rd) nn P a w K Q:=by
 unfold ocallS at h
 obtain ⟨e,he,h⟩:=nthS_spec h
 have hej:(SV.denL args).getD x.j .any=e.den:=by simp only [List.getD,denL_get he]; rfl
 have hlj:x.j<(SV.denL args).length:=by rw [denL_length]; exact (List.getElem?_eq_some_iff.1 he).1
 have lset:(SV.denL (setL args x.j .any)).length=(SV.denL args).length:=by rw [setL_den,List.length_set]
 -- the common part
 have go:∀ (ro m:Nat) (hh:Nat→SV) (as:List SV) (ds:List Nat) (X2:XS),(∀ r,r ∈ ds→r<X.n∧r≠ro)→X2.n=X.n→(∀ q R,X2.den[q]?=some (some R)→X.den[q]?=some (some R)∧q ∉ ds∧q≠ro) →
   (X.den[ro]?=some (some (rowO x.sz m hh).den)∨(X.den.length≤ro∧(rowO x.sz m hh).els=[]))→(∀ i,i<m→pureS (hh i)) →
   (SV.denL as).length=(SV.denL (setL args x.j .any)).length→(∀ j,j<(SV.denL (setL args x.j .any)).length→SnapN 0 (onlyR X ds).den ((SV.denL (setL args x.j .any)).getD j .any) ((SV.denL as).getD j .any)) →
   ((e.den=.sl ro 0 m∧ro<X.den.length)∨(e.den=.sc (.slice none 0 0)∧m=0))→x.c (setL (nilA x.ns 0 as) x.j (.sl 0 0 m)) m hh (fun N' h'=>k N' h' X2)→o.wpIn (fz H.C.rd) nn P a w K Q:=by
  intro ro m hh as ds X2 hds hn2 hg2 hro hp hla hsn hee hx
  obtain ⟨hcb,hd⟩:=hox _ _ hg _ _ _ _ hx
  have lC:(SV.denL (setL (nilA x.ns 0 as) x.j (.sl 0 0 m))).length=(SV.denL args).length:=by rw [setL_den,List.length_set,nilA_len,hla,lset]
  have sn:=nilA_snap (D:=fun r=>r ∈ ds) (ρ:=X.den) x.ns 0 as (SV.denL (setL args x.j .any)) (fun j hj=>(hsn j (by omega)).to fun q S _ hS=>onlyR_get (by omega) (fun r h=>(hds r h).1) hS)
  refine ocall_gen (D:=fun r=>r ∈ ds) (ro:=ro) (Ro:=(rowO x.sz m hh).den) (ρ2:=X2.den) hs hown ho hc hf hcb (fun h=>(hds _ h).2 rfl) (hro.imp id id) rfl (rowO_pure hp) lC (fun j hj=>?_) hd (fun v ρ' hR=>?_) (by rw [XS.length,XS.length,hn2]) hg2 (fun v ρ' j n' S L a' w' hR hv hj hs'=>?_) nn
  ·by_cases e1:j=x.j
   ·subst e1
    rw [hej]
    have ec:(SV.denL (setL (nilA x.ns 0 as) x.j (.sl 0 0 m))).getD x.j .any=.sl 0 0 m:=by
     rw [setL_den]
     simp only [List.getD]
     rw [List.getElem?_set_self (by rw [nilA_len,hla,lset]; exact hlj)]; rfl
    rcases hee with ⟨h1,h2⟩ | ⟨h1,rfl⟩
    ·exact .inr (.inl ⟨m,h1,h2,ec⟩)
    ·exact .inr (.inr ⟨h1,ec⟩)
   ·refine .inl ?_
    have h1:=sn j (by rw [hla,lset]; exact hj)
    have e2:(SV.denL (setL args x.j .any)).getD j .any=(SV.denL args).getD j .any:=by
     rw [setL_den]
     simp only [List.getD]
     rw [List.getElem?_set_ne (fun h=>e1 h.symm)]
    have e3:(SV.denL (setL (nilA x.ns 0 as) x.j (.sl 0 0 m))).getD j .any=(SV.denL (nilA x.ns 0 as)).getD j .any:=by
     rw [setL_den]
     simp only [List.getD]
     rw [List.getElem?_set_ne (fun h=>e1 h.symm)]
    rw [e3,← e2]; exact h1
  ·obtain ⟨j,n1,f1,rfl,h2,h3,_⟩:=hR
   exact ⟨j,n1,x.sz,(rowO x.sz n1 f1).els,rfl,h2,rowO_pure h3⟩
  ·obtain ⟨j',N',h',h1,h2,h3,h4⟩:=hR
   rw [h1] at hv
   cases hv
   rw [h2] at hj
   have e2:(denR (some (rowO x.sz n' h')))=some (⟨S,L,none⟩:Root):=by simpa using hj
   refine hK n' h' X2 a' w' hn2 h4 ?_
   rw [e2]
   rw [XS.length] at hs'
   exact hs'
 split at h
 ·rename_i r oo m
  split at h
  ·rename_i R hR
   obtain ⟨h0,h1,h2,h3,h4⟩:=ifP_spec h
   simp only [Bool.and_eq_true,Nat.beq_eq,Bool.not_eq_true'] at h0
   obtain ⟨hds,h4⟩:=ifP_spec h4
   have hds:∀ q,q ∈ refSL (setL args x.j .any) []→q<X.n∧q≠r:=fun q hq=>by
    have:=List.all_eq_true.1 hds q hq
    simp only [Bool.and_eq_true,Nat.blt_eq,Bool.not_eq_true'] at this
    exact ⟨this.1,fun e=>by rw [e] at this; simp at this⟩
   obtain ⟨as,h5,h6,h7⟩:=asValL_spec _ h4
   subst h1
   have hr:=XS.row_lt hR
   have eR:R=rowO x.sz m R.f:=by
    obtain ⟨sz,n',f,var⟩:=R
    simp only at h0 h2
    obtain ⟨rfl,rfl⟩:=h0
    subst h2; rfl
   refine go r m R.f as _ _ hds (by show (dropR X _).n=X.n; rw [dropR_n]) (fun q S hq=>?_) (.inl ?_) h3 h5 h6 (.inl ⟨rfl,by rw [XS.length]; exact hr⟩) h7
   ·rcases get_set (X:=dropR X _) (by rw [dropR_n]; omega) (by rw [dropR_n]; exact hr) hq with ⟨_,h8⟩ | ⟨h8,h9⟩
    ·cases h8
    ·have:=dropR_get (by omega) (fun r h=>(hds r h).1) h9
     exact ⟨this.2,this.1,h8⟩
   ·rw [← eR]; exact XS.row_get hR
  ·exact h.elim
 ·obtain ⟨hds,h⟩:=ifP_spec h
  have hds:∀ q,q ∈ refSL (setL args x.j .any) []→q<X.n∧q≠X.n:=fun q hq=>by
   have:=List.all_eq_true.1 hds q hq
   simp only [Bool.and_eq_true,Nat.blt_eq,Bool.not_eq_true'] at this
   exact ⟨this.1,by omega⟩
  obtain ⟨as,h5,h6,h7⟩:=asValL_spec _ h
  refine go X.n 0 (fun _=>.any) as _ _ hds (by rw [dropR_n]) (fun q S hq=>?_) (.inr ⟨by rw [XS.length]; exact Nat.le_refl _,rfl⟩) (fun i hi=>absurd hi (Nat.not_lt_zero _)) h5 h6 (.inr ⟨rfl,rfl⟩) h7
  have h8:=dropR_get (by omega) (fun r h=>(hds r h).1) hq
  have:=(List.getElem?_eq_some_iff.1 h8.2).1
  rw [XS.length] at this
  exact ⟨h8.2,h8.1,by omega⟩
 ·exact h.elim
end
def isO (ox:OX) (o:Oper):Bool:=match o.op with
 | .call c=>(match c.callee with
  | .value (.func g)=>(ox g).isSome
  | _=>false)
 | _=>false
noncomputable def stepOx (P:Program) (cs:CSpec) (cx:CX) (ys:YS) (ox:OX) (n:Nat) (o:Oper) (t:FS) (X:XS) (q:GS) (ih:KG):Prop:=match o.op with
 | .call c=>(match c.callee with
  | .value (.func g)=>(match ox g with
   | some x=>ifP (roomS X) (mapS (sev n t) c.args.toList fun args=>ocallS x args X fun N' h' X2=>sputK n t o.dst (.sl X.n 0 N') fun t=>forceX (X2.push (some (rowO x.sz N' h'))) fun X'=>ih t X' q)
   | none=>stepH P cs cx ys n o t X q ih)
  | _=>stepH P cs cx ys n o t X q ih)
 | _=>stepH P cs cx ys n o t X q ih
noncomputable def runOx (P:Program) (cs:CSpec) (cx:CX) (ys:YS) (ox:OX) (n:Nat) (ops:Array Oper) (K:KG) (l:List Oper):KG :=
 List.rec (motive:=fun _=>KG) (fun t X q=>K t X q)
  (fun o _ ih t X q=>match o.guard with
   | none=>stepOx P cs cx ys ox n o t X q ih
   | some (j,want)=>gvS ops n t j want (fun t=>stepOx P cs cx ys ox n o t X q ih) (fun t=>sputK n t o.dst uS fun t=>ih t X q)) l
section
variable {Γ:Ghost} {γ:GS→Γ.S} {cs:CSpec} {cx:CX} {ys:YS} {ox:OX} (hcs:SoundS P cs) (hcx:SoundXH P Γ γ cx) (hys:SoundYH P Γ γ ys) (hox:SoundO P ox) {n:Nat} (hn:n≤512) {H:HC} (hown:H.C.own)
include hcs hcx hys hox hn hown
theorem stepOx_wp {o:Oper} {t:FS} {X:XS} {q:GS} {ih:KG} {a w} (hX:X.n<512) (hs:SRelH H Γ (γ q) a w (frD n t) X.den) (h:stepOx P cs cx ys ox n o t X q ih) {K:Act→World→Prop} {Q:Exit→Act→World→Prop}
  (hK:∀ t X q a w,X.n<512→ih t X q→SRelH H Γ (γ q) a w (frD n t) X.den→K a w) (nn:Nat):o.wpIn (fz H.C.rd) nn P a w K Q:=by
 have old:stepH P cs cx ys n o t X q ih→o.wpIn (fz H.C.rd) nn P a w K Q:=fun h=>by
  refine opH_wp hs (stepH_spec hcs hcx hys hX h) ?_ nn
  rintro v s' ρ' a' w' ⟨v',X',q',rfl,rfl,rfl,h3,h4⟩ hs''
  rw [sput_den hn] at hs''
  exact hK _ _ _ _ _ h3 h4 hs''
 unfold stepOx at h
 split at h
 ·rename_i c ho
  split at h
  ·rename_i g hc
   split at h
   ·rename_i x hg
    obtain ⟨hr,h⟩:=ifP_spec h
    rw [mapS_eq] at h
    have hfn:fnOf (aev (frD n t) (.func g)) (c.args.toList.map (aev (frD n t)))=some (g,SV.denL (c.args.toList.map (sev n t))):=by
     rw [denL_mapE]
     have:c.args.toList.map (aev (frD n t))=c.args.toList.map fun x=>(sev n t x).den:=List.map_congr_left fun x _=>sev_den n t x
     rw [this]
     simp [aev,fnOf]
    refine ocallS_wp hox hX hs hown ho hc hfn hg h (fun N' h' X2 a' w' hn2 hk hs'=>?_) nn
    simp only [sputK_eq,forceX_eq] at hk
    rw [sput_den hn] at hs'
    refine hK _ _ _ _ _ (XS.push_lt (by unfold roomS at hr ⊢; rw [hn2]; exact hr) _) hk ?_
    rw [XS.push_den (by omega)]
    exact hs'
   ·exact old h
  ·exact old h
 ·exact old h
theorem runOx_sound {ops:Array Oper} {K:KG} {Q':Exit→Act→World→Prop} (hK:∀ t X q a w,X.n<512→K t X q→SRelH H Γ (γ q) a w (frD n t) X.den→Q' .normal a w) :
  ∀ {l:List Oper} {t:FS} {X:XS} {q:GS} {a:Act} {w:World},X.n<512→SRelH H Γ (γ q) a w (frD n t) X.den→runOx P cs cx ys ox n ops K l t X q→∀ nn,wpListIn (fz H.C.rd) nn P ops Q' l a w
 | [],t,X,q,a,w,hX,hs,h=>fun _=>hK _ _ _ _ _ hX h hs
 | o :: l,t,X,q,a,w,hX,hs,h=>fun nn=>by
  have step:∀ t,SRelH H Γ (γ q) a w (frD n t) X.den→stepOx P cs cx ys ox n o t X q (runOx P cs cx ys ox n ops K l)→o.wpIn (fz H.C.rd) nn P a w (wpListIn (fz H.C.rd) nn P ops Q' l) Q':=fun t hs h =>
   stepOx_wp hcs hcx hys hox hn hown hX hs h (fun t X q a w hX hk hs=>runOx_sound hK hX hs hk nn) nn
  have h:(match o.guard with
   | none=>stepOx P cs cx ys ox n o t X q (runOx P cs cx ys ox n ops K l)
   | some (j,want)=>gvS ops n t j want (fun t=>stepOx P cs cx ys ox n o t X q (runOx P cs cx ys ox n ops K l)) (fun t=>sputK n t o.dst uS fun t=>runOx P cs cx ys ox n ops K l t X q)):=h
  unfold wpListIn
  split at h
  ·rename_i hg
   rw [if_pos (by simp [Region.wanted,hg])]
   exact step t hs h
  ·rename_i j want hg
   obtain ⟨b,t',e,hb,h⟩:=gvS_spec hn h
   have hy:=gvalS_specH hb hs
   rcases h with ⟨rfl,h⟩ | ⟨rfl,h⟩
   ·rw [if_pos (by simp only [Region.wanted,hg]; exact hy)]
    exact step t' (by rw [e]; exact hs) h
   ·rw [if_neg (by simp only [Region.wanted,hg]; rw [hy]; simp)]
    refine ⟨fun _ _=>trivial,?_⟩
    rw [sputK_eq] at h
    have hs2:=hs.skipU o.dst
    rw [← e,show uA=(uS:SV).den from rfl,sput_den hn t' o.dst uS] at hs2
    exact runOx_sound hK hX hs2 h nn
end
end Go.Lg

namespace Go.Lg
open Go.RowKit
variable {P:Program}

structure Par where
 rd:FS→XS→(Nat→Prop)→Prop
 ok:∀ t X k,rd t X k→∃ y,k y
structure HSpec extends LSpec where
 q:σ→GS:=fun _=>none
 D:DS:=[]
 E:DS:=[]
 nb:Option Nat:=none
 all:Bool:=false
 par:Option Par:=none
 kinv:Nat→σ→Prop:=fun _ _=>True
 /-- a loop of so many rounds at most,that are walked one by one -/
 unr:Nat:=0
 /-- rows that are given up are seen as what they hold (only where all that was there before is fenced: funZ) -/
 fz:Bool:=false
 /-- all heads: a loop may have more than one form of frame at its head -/
 al:(σ→Prop)→Prop:=fun k=>∀ z,k z
 alOK:∀ k,al k→∀ z,k z:=by exact fun _ h=>h
def HSpec.at (s:HSpec) (y:Nat):HSpec:={ s with inv:=fun z=>s.inv z∧s.kinv y z }
structure ISpec where
 σ:Type
 inv:Nat→σ→Prop
 nr:Nat
 ms:FS→XS→Ms
 t:FS
 X:σ→XS
 q:Nat→σ→GS:=fun _ _=>none
 rd:FS→XS→(σ→Prop)→Prop
 rdOK:∀ t X k,rd t X k→∃ s,k s
structure ISpecR where
 τ:Type
 s:τ→ISpec
 rdt:FS→XS→(τ→Prop)→Prop
 rdtOK:∀ t X k,rdt t X k→∃ y,k y
def gsEq (q q':GS) (k:Prop):Prop:=match q,q' with
 | none,none=>k
 | some j,some j'=>j=j'∧k
 | _,_=>False
theorem gsEq_spec {q q':GS} {k:Prop} (h:gsEq q q' k):q=q'∧k:=by
 cases q <;> cases q' <;> simp only [gsEq] at h
 ·exact ⟨rfl,h⟩
 ·exact ⟨by rw [h.1],h.2⟩

mutual
def belV (nr:Nat):SV→Prop→Prop
 | .any,k=>k
 | .int ..,k=>k
 | .dec ..,k=>k
 | .bool _,k=>k
 | .val _,k=>k
 | .ptr r _ _,k=>ifP (Nat.blt r nr) k
 | .ptd ..,_=>False
 | .ipd ..,_=>False
 | .sl r _ _,k=>ifP (Nat.blt r nr) k
 | .sub r _ _ _ _,k=>ifP (Nat.blt r nr) k
 | .lst s n f,k=>(∀ i,i<n→pureS (f i))∧k
 | .ipt c,k=>pureS.pureSL c∧k
 | .agg c,k=>belVL nr c k
 | .tup c,k=>belVL nr c k
 | .clo _ a b,k=>belVL nr a (belVL nr b k)
 | .yld r,k=>ifP (Nat.blt r nr) k
 | .mp r,k=>ifP (Nat.blt r nr) k
 | .ifc _ v,k=>belV nr v k
def belVL (nr:Nat):List SV→Prop→Prop
 | [],k=>k
 | x :: xs,k=>belV nr x (belVL nr xs k)
end
mutual
theorem belV_spec {nr:Nat}:∀ (v:SV) {k:Prop},belV nr v k→Bel nr v.den∧k
 | .any,k,h=>⟨.pure _ .any,by simpa only [belV] using h⟩
 | .int ..,k,h=>⟨.pure _ (.sc _),by simpa only [belV] using h⟩
 | .dec ..,k,h=>⟨.pure _ (.sc _),by simpa only [belV] using h⟩
 | .bool _,k,h=>⟨.pure _ (.sc _),by simpa only [belV] using h⟩
 | .val _,k,h=>⟨.pure _ (.sc _),by simpa only [belV] using h⟩
 | .ptd ..,k,h=>by simp [belV] at h
 | .ipd ..,k,h=>by simp [belV] at h
 | .ptr r i j,k,h=>by
  obtain ⟨h1,h⟩:=ifP_spec (by simpa only [belV] using h)
  exact ⟨.ptr _ _ _ (by simpa [Nat.blt_eq] using h1),h⟩
 | .sl r i j,k,h=>by
  obtain ⟨h1,h⟩:=ifP_spec (by simpa only [belV] using h)
  exact ⟨.sl _ _ _ (by simpa [Nat.blt_eq] using h1),h⟩
 | .sub r _ _ _ _,k,h=>by
  obtain ⟨h1,h⟩:=ifP_spec (by simpa only [belV] using h)
  exact ⟨.sub _ _ _ _ _ (by simpa [Nat.blt_eq] using h1),h⟩
 | .lst s n f,k,h=>by
  have h:(∀ i,i<n→pureS (f i))∧k:=by simpa only [belV] using h
  exact ⟨.pure _ (pureS_spec (.lst s n f) (by simp only [pureS]; exact h.1)),h.2⟩
 | .ipt c,k,h=>by
  have h:pureS.pureSL c∧k:=by simpa only [belV] using h
  exact ⟨.pure _ (pureS_spec (.ipt c) (by simp only [pureS]; exact h.1)),h.2⟩
 | .agg c,k,h=>by
  obtain ⟨h1,h⟩:=belVL_spec c (by simpa only [belV] using h)
  exact ⟨.agg _ h1,h⟩
 | .tup c,k,h=>by
  obtain ⟨h1,h⟩:=belVL_spec c (by simpa only [belV] using h)
  exact ⟨.tup _ h1,h⟩
 | .clo fn a b,k,h=>by
  obtain ⟨h1,h⟩:=belVL_spec a (by simpa only [belV] using h)
  obtain ⟨h2,h⟩:=belVL_spec b h
  exact ⟨.clo _ _ _ h1 h2,h⟩
 | .yld r,k,h=>by
  obtain ⟨h1,h⟩:=ifP_spec (by simpa only [belV] using h)
  exact ⟨.yld _ (by simpa [Nat.blt_eq] using h1),h⟩
 | .mp r,k,h=>by
  obtain ⟨h1,h⟩:=ifP_spec (by simpa only [belV] using h)
  exact ⟨.mp _ (by simpa [Nat.blt_eq] using h1),h⟩
 | .ifc t v,k,h=>by
  obtain ⟨h1,h⟩:=belV_spec v (by simpa only [belV] using h)
  exact ⟨.ifc _ _ h1,h⟩
theorem belVL_spec {nr:Nat}:∀ (c:List SV) {k:Prop},belVL nr c k→(∀ j,j<(SV.denL c).length→Bel nr ((SV.denL c).getD j .any))∧k
 | [],k,h=>⟨fun j hj=>by simp [SV.denL] at hj,by simpa only [belVL] using h⟩
 | x :: xs,k,h=>by
  obtain ⟨h1,h⟩:=belV_spec x (by simpa only [belVL] using h)
  obtain ⟨h2,h⟩:=belVL_spec xs h
  refine ⟨fun j hj=>?_,h⟩
  cases j with
  | zero=>exact h1
  | succ j=>exact h2 j (by simpa [SV.denL] using hj)
end
noncomputable def belF (n nr:Nat) (t:FS) (m:Nat) (k:Prop):Prop:=Nat.rec (motive:=fun _=>Prop→Prop) (fun k=>k) (fun i ih k=>ih (belV nr (sget n t i) k)) m k
theorem belF_spec {n nr:Nat} {t:FS}:∀ {m:Nat} {k:Prop},belF n nr t m k→(∀ i,i<m→Bel nr (sget n t i).den)∧k
 | 0,k,h=>⟨fun i hi=>by omega,h⟩
 | m+1,k,h=>by
  have h:belF n nr t m (belV nr (sget n t m) k):=h
  obtain ⟨h1,h⟩:=belF_spec h
  obtain ⟨h2,h⟩:=belV_spec _ h
  exact ⟨fun i hi=>by
   rcases Nat.lt_succ_iff_lt_or_eq.1 hi with h | rfl
   ·exact h1 i h
   ·exact h2,h⟩
noncomputable def normR (nr:Nat) (ms:Ms) (X' X:XS) (k:Prop):Prop :=
 ifP (Nat.ble nr X.n && msOK nr X.n ms && Nat.beq X'.n (Nat.add nr ms.length)) (lows false X nr ms X' X nr (his false X nr ms X' X k ms nr))
theorem normR_spec {C:Ctx} {A:List AV} {nr:Nat} {ms:Ms} {X' X:XS} {k:Prop} (hC:C.n0≤nr) (hA:∀ i,i<A.length→Bel nr (A.getD i .any)) (h:normR nr ms X' X k):Norm C A X.den A X'.den∧k:=by
 obtain ⟨hc,h⟩:=ifP_spec h
 simp only [Bool.and_eq_true,Nat.ble_eq,Nat.beq_eq] at hc
 obtain ⟨⟨c1,c2⟩,c3⟩:=hc
 have c3:X'.n=nr+ms.length:=c3
 obtain ⟨m1,m2⟩:=msOK_spec c2
 obtain ⟨h2,h⟩:=lows_spec h
 obtain ⟨h3,h⟩:=his_spec h
 refine ⟨⟨false,nr,ms,by simp,hC,by rw [XS.length]; exact c1,fun m hm=>by rw [XS.length]; exact m1 m hm,m2,RenL.ofGet rfl fun i hi=>.bel _ (hA i hi),by rw [XS.length]; exact c3,?_,?_⟩,h⟩
 ·intro r x y hr hx hy
  rw [row_at (by omega)] at hx
  rw [row_at (by omega)] at hy
  cases hx; cases hy
  exact h2 r hr
 ·intro i y hy
  have hi:nr+i<X'.n:=by
   have:=(List.getElem?_eq_some_iff.1 hy).1
   rwa [XS.length] at this
  rw [row_at hi] at hy
  cases hy
  obtain ⟨m,hm⟩:∃ m,ms[i]?=some m:=⟨_,List.getElem?_eq_getElem (by omega)⟩
  have:=h3 i m hm
  cases m with
  | none=>exact .inr ⟨hm,this⟩
  | some m =>
   have hm':=m1 m (List.mem_of_getElem? hm)
   exact .inl ⟨m,_,hm,row_at hm'.2,this⟩

noncomputable def setPsK (n:Nat) (ps:List Tmp):List SV→FS→(FS→Prop)→Prop :=
 List.rec (motive:=fun _=>List SV→FS→(FS→Prop)→Prop) (fun _ t k=>k t) (fun p _ ih xs t k=>List.rec (motive:=fun _=>Prop) (k t) (fun x xs _=>sputK n t (some p) x fun t=>ih xs t k) xs) ps
theorem setPsK_spec {n:Nat} (hn:n≤512):∀ {ps:List Tmp} {xs:List SV} {t:FS} {k:FS→Prop},setPsK n ps xs t k→∃ t',(ps.zip (SV.denL xs)).foldl (fun t p=>t.set p.1 p.2) (frD n t)=frD n t'∧k t'
 | [],xs,t,k,h=>⟨t,rfl,h⟩
 | p :: ps,[],t,k,h=>⟨t,rfl,h⟩
 | p :: ps,x :: xs,t,k,h=>by
  have h:sputK n t (some p) x (fun t=>setPsK n ps xs t k):=h
  rw [sputK_eq] at h
  obtain ⟨t',h1,h2⟩:=setPsK_spec hn h
  refine ⟨t',?_,h2⟩
  rw [← h1]
  simp only [SV.denL,List.zip_cons_cons,List.foldl_cons]
  rw [sset_den hn]; rfl
noncomputable def backH (n:Nat) (s:HSpec) (m:Nat) (K:KH):KH:=fun e t' X' q'=>match e with
 | .normal=>s.rd t' X' fun z'=>s.inv z'∧s.μ z'<m∧gsEq q' (s.q z') (normZ s.fz n s.nr (s.ms t' X') (s.t z') (s.X z') t' X' True)
 | e=>K e t' X' q'
noncomputable def loopB (n n0:Nat) (zf:Bool) (s:HSpec) (body:KH→KG) (K:KH) (t:FS) (X:XS) (q:GS):Prop :=
 ifP (and (Nat.ble n0 s.nr) (or (not s.fz) zf)) ((match s.peel with
   | none=>s.rd t X (fun z=>s.inv z∧gsEq q (s.q z) (normZ s.fz n s.nr (s.ms t X) (s.t z) (s.X z) t X True))
   | some B=>body (backH n s B K) t X q) ∧
   s.al fun z=>s.inv z→ifP (Nat.blt (s.X z).n 512) (body (backH n s (s.μ z) K) (s.t z) (s.X z) (s.q z)))
noncomputable def loopU (body:KH→KG) (K:KH) (m:Nat):KG :=
 Nat.rec (motive:=fun _=>KG) (fun _ _ _=>False) (fun _ ih t X q=>body (fun e t X q=>match e with
  | .normal=>ih t X q
  | e=>K e t X q) t X q) m
noncomputable def loopH (n n0:Nat) (zf:Bool) (sp:Option HSpec) (body:KH→KG) (K:KH) (t:FS) (X:XS) (q:GS):Prop:=match sp with
 | none=>False
 | some s=>(match Nat.beq s.unr 0 with
  | true=>(match s.par with
   | none=>loopB n n0 zf s body K t X q
   | some r=>r.rd t X fun y=>loopB n n0 zf (s.at y) body K t X q)
  | false=>loopU body K s.unr t X q)
noncomputable def allS (P:Program) (cs:CSpec) (cx:CX) (ys:YS) (n:Nat) (ops:Array Oper) (K:KG) (fuel:Nat):Array Bool→KG :=
 Nat.rec (motive:=fun _=>Array Bool→KG)
  (fun listed t X q=>match Region.ready .any ops listed with
   | []=>K t X q
   | _=>False)
  (fun _ ih listed t X q=>match Region.ready .any ops listed with
   | []=>K t X q
   | l=>List.rec (motive:=fun _=>Prop) True (fun i _ r=>(match ops[i]? with
    | none=>False
    | some o=>(match o.guard with
     | none=>stepH P cs cx ys n o t X q (ih (listed.setIfInBounds i true))
     | some (j,want)=>gvS ops n t j want (fun t=>stepH P cs cx ys n o t X q (ih (listed.setIfInBounds i true))) (fun t=>sputK n t o.dst uS fun t=>ih (listed.setIfInBounds i true) t X q)))∧r) l) fuel
noncomputable def regionT (P:Program) (cs:CSpec) (n n0:Nat) (ops:Array Oper) (s:HSpec) (K:KG) (t:FS) (X:XS) (q:GS):Prop :=
 ifP (Nat.ble n0 s.nr) ((match s.nb with
   | none=>treeS P cs n ops s.D s.E (fun t X=>s.rd t X fun z=>s.inv z∧normP n s.nr (s.ms t X) (s.t z) (s.X z) t X True) ops.size (Array.replicate ops.size false) t X
   | some b0=>treeN P cs n ops b0 s.D (fun t X=>s.rd t X fun z=>s.inv z∧normP n s.nr (s.ms t X) (s.t z) (s.X z) t X True) ops.size (Array.replicate ops.size false) t X) ∧
     s.al fun z=>s.inv z→ifP (Nat.blt (s.X z).n 512) (K (s.t z) (s.X z) q))
def hasX (cx:CX) (ops:Array Oper):Bool:=ops.toList.any fun o=>match o.op with
 | .call c=>(match c.callee with
  | .value (.func g)=>(cx g).isSome
  | _=>false)
 | .buildSlice _ len _=>(match len with
  | 0=>false
  | _=>(cx 4294967299).isSome)
 | _=>false
noncomputable def lastR (P:Program) (cs:CSpec) (cx:CX) (ys:YS) (n:Nat) (ops:Array Oper) (K:KG) (t:FS) (X:XS) (q:GS):Prop :=
 ifP (Nat.blt 0 ops.size && (feedB ops && (guardB ops && drawOKW (qset ops.pop) ops.pop))) (match ops.toList.getLast? with
  | some o=>(match o.guard with
   | none=>runS P cs n ops.pop (fun t X=>stepH P cs cx ys n o t X q fun t X q=>K t X q) ops.pop.toList t X
   | some _=>False)
  | none=>False)
noncomputable def last2R (P:Program) (cs:CSpec) (cx:CX) (ys:YS) (n:Nat) (ops:Array Oper) (K:KG) (t:FS) (X:XS) (q:GS):Prop :=
 ifP (Nat.blt 0 ops.size && (feedB ops && guardB ops)) (match ops.toList.getLast? with
  | some o=>(match o.guard with
   | none=>lastR P cs cx ys n ops.pop (fun t X q=>stepH P cs cx ys n o t X q K) t X q
   | some _=>False)
  | none=>False)
noncomputable def lastsR (P:Program) (cs:CSpec) (cx:CX) (ys:YS) (n:Nat) (ops:Array Oper) (K:KG) (t:FS) (X:XS) (q:GS):Prop:=match drawOKW (qset ops.pop) ops.pop with
 | true=>lastR P cs cx ys n ops K t X q
 | false=>last2R P cs cx ys n ops K t X q
noncomputable def regionH (P:Program) (cs:CSpec) (cx:CX) (ys:YS) (n n0:Nat) (ops:Array Oper) (draw:Bool) (rs:Option HSpec) (K:KG) (t:FS) (X:XS) (q:GS):Prop:=match draw with
 | false=>runHS P cs cx ys n ops K ops.toList t X q
 | true=>(match rs with
  | some s=>(match s.all with
   | true=>(match Nat.beq s.unr 0 with
    | true=>allS P cs cx ys n ops K ops.size (Array.replicate ops.size false) t X q
    | false=>last2R P cs cx ys n ops K t X q)
   | false=>(match s.par with
    | none=>regionT P cs n n0 ops s K t X q
    | some r=>r.rd t X fun y=>regionT P cs n n0 ops (s.at y) K t X q))
  | none=>(match and (hasX cx ops) (Nat.blt 4 ops.size) with
   | true=>(match hasX cx ops.pop with
    | false=>lastR P cs cx ys n ops K t X q
    | true=>treeX P cs cx n ops K ops.size (Array.replicate ops.size false) t X q)
   | false=>(match drawOKW (qset ops) ops with
    | true=>runS P cs n ops (fun t X=>K t X q) ops.toList t X
    | false=>(match planW (qset ops) ops with
     | some (_,ord)=>runS P cs n ops (fun t X=>K t X q) (ord.map (opAt ops)) t X
     | none=>(match Nat.ble ops.size 4 with
      | true=>allS P cs cx ys n ops K ops.size (Array.replicate ops.size false) t X q
      | false=>lastsR P cs cx ys n ops K t X q)))))
noncomputable def roundK (s:ISpec) (t':FS) (j:Nat) (K:KH):KH:=fun e t2 X2 q2=>match e with
 | .normal=>s.rd t2 X2 fun z'=>s.inv (Nat.succ j) z'∧gsEq q2 (s.q (Nat.succ j) z') (normR s.nr (s.ms t2 X2) (s.X z') X2 True)
 | .ret=>K .ret t' X2 q2
 | .exit id=>K (.exit id) t' X2 q2
 | _=>False
noncomputable def rangeB (ic:IC) (n n0:Nat) (s:ISpec) (g:Operand) (ps:List Tmp) (fa fb:Nat→KH→KG) (K:KH) (t:FS) (X:XS) (q:GS):Prop:=match g with
 | .tmp i=>(match sget n t i with
  | .clo (.func gf) fs us=>pureV.pureVL fs fun fs=>pureV.pureVL us fun us=>ic gf fs us fun N m f=>ifP (Nat.ble n0 s.nr && Nat.beq m ps.length && Nat.blt i n)
    (sputK n s.t (some i) (.clo (.func gf) fs us) fun t' =>
     belF n s.nr t' n (s.rd t X fun z=>s.inv 0 z∧gsEq q (s.q 0 z) (normP n s.nr (s.ms t X) t' (s.X z) t X True)) ∧
     (∀ j,j<N→∀ z,s.inv j z→ifP (Nat.blt (s.X z).n 512) (setPsK n ps (f j) t' fun t1=>fa (s.X z).n (fun e t1 X1 q1=>match e with
      | .normal=>fb (s.X z).n (roundK s t' j K) t1 X1 q1
      | _=>False) t1 (s.X z) (s.q j z))) ∧
     (∀ z,s.inv N z→ifP (Nat.blt (s.X z).n 512) (K .normal t' (s.X z) (s.q N z))))
  | _=>False)
 | _=>False
noncomputable def rangeH (ic:IC) (n n0:Nat) (sp:Option ISpecR) (g:Operand) (ps:List Tmp) (fa fb:Nat→KH→KG) (K:KH) (t:FS) (X:XS) (q:GS):Prop:=match sp with
 | none=>False
 | some r=>r.rdt t X fun y=>rangeB ic n n0 (r.s y) g ps fa fb K t X q
def oxB (zf:Bool) (ox:OX) (ops:Array Oper):Bool:=and zf (ops.toList.any (isO ox))
noncomputable def lastO (P:Program) (cs:CSpec) (cx:CX) (ys:YS) (ox:OX) (n n0:Nat) (ops:Array Oper) (s:HSpec) (K:KG) (t:FS) (X:XS) (q:GS):Prop :=
 ifP (Nat.blt 0 ops.size && Nat.blt 0 ops.pop.size && feedB ops && guardB ops && feedB ops.pop && guardB ops.pop && Nat.ble n0 s.nr) (match ops.toList.getLast? with
  | some o2=>(match ops.pop.toList.getLast? with
   | some o1=>(match o2.guard with
    | none=>(match o1.guard with
     | none=>treeS P cs n ops.pop.pop s.D s.E (fun t X=>s.rd t X fun z=>s.inv z∧normP n s.nr (s.ms t X) (s.t z) (s.X z) t X True) ops.pop.pop.size (Array.replicate ops.pop.pop.size false) t X ∧
       s.al fun z=>s.inv z→ifP (Nat.blt (s.X z).n 512) (stepOx P cs cx ys ox n o1 (s.t z) (s.X z) q fun t X q=>stepH P cs cx ys n o2 t X q fun t X q=>K t X q)
     | some _=>False)
    | some _=>False)
   | none=>False)
  | none=>False)
noncomputable def regionO (P:Program) (cs:CSpec) (cx:CX) (ys:YS) (ox:OX) (n n0:Nat) (ops:Array Oper) (draw:Bool) (rs:Option HSpec) (K:KG) (t:FS) (X:XS) (q:GS):Prop:=match draw with
 | false=>runOx P cs cx ys ox n ops (fun t X q=>K t X q) ops.toList t X q
 | true=>(match rs with
  | some s=>(match s.par with
   | none=>lastO P cs cx ys ox n n0 ops s K t X q
   | some r=>r.rd t X fun y=>lastO P cs cx ys ox n n0 ops (s.at y) K t X q)
  | none=>False)
noncomputable def WH (P:Program) (cs:CSpec) (cx:CX) (ys:YS) (ic:IC) (ox:OX) (sp:Nat→Option HSpec) (isp:Nat→Option ISpecR) (n:Nat) (c:Code):Nat→Nat→Bool→KH→KG :=
 Code.rec (motive:=fun _=>Nat→Nat→Bool→KH→KG)
  (fun _ _ _ K t X q=>K .normal t X q)
  (fun rid ops draw _ n0 zf K t X q=>match oxB zf ox ops with
   | true=>regionO P cs cx ys ox n n0 ops draw (sp (Nat.add 1000 rid)) (fun t X q=>K .normal t X q) t X q
   | false=>regionH P cs cx ys n n0 ops draw (sp (Nat.add 1000 rid)) (fun t X q=>K .normal t X q) t X q)
  (fun _ _ fx fy id n0 zf K t X q=>fx id n0 zf (fun e t X q=>match e with
   | .normal=>fy id n0 zf K t X q
   | e=>K e t X q) t X q)
  (fun c _ _ fx fy id n0 zf K t X q=>condS (sev n t c) (fx id n0 zf K t X q) (fy id n0 zf K t X q))
  (fun id _ f _ n0 zf K t X q=>f id n0 zf (fun e t X q=>match e with
   | .exit i=>(match Nat.beq i id with
    | true=>K .normal t X q
    | false=>K (.exit i) t X q)
   | e=>K e t X q) t X q)
  (fun _ f id n0 zf K t X q=>loopH n n0 zf (sp id) (f id n0 zf) K t X q)
  (fun g ps _ _ fa fb id n0 _ K t X q=>rangeH ic n n0 (isp id) g ps.toList (fun n1=>fa id n1 false) (fun n1=>fb id n1 false) K t X q)
  (fun i _ _ _ K t X q=>K (.exit i) t X q)
  (fun _ f id n0 zf K t X q=>f id n0 zf (fun e t X q=>match e with
   | .goto _=>False
   | e=>K e t X q) t X q)
  (fun _ _ _ _ K t X q=>K .normal t X q)
  (fun _ _ _ _ _ _ _ _=>False)
  (fun _ _ _ K t X q=>K .ret t X q)
  (fun _ _ _ _ _ _ _ _=>False) c
theorem SRelH.normD {H:HC} {Γ:Ghost} {s:Γ.S} {A:List AV} {ρ:Store} {A':List AV} {ρ':Store} {b:Bool} {a w} (hs:SRelH H Γ s a w A ρ) (hown:b=true→H.C.own) (h:NormD H.C.n0 b A ρ A' ρ'):SRelH H Γ s a w A' ρ':=by
 obtain ⟨nr,ms,hn0,hnr,hms,hnd,hA,hlen,hlow,hhi⟩:=h
 obtain ⟨hst,I,β,M,hk,h0,F',⟨hF,hM⟩,hg,hf⟩:=hs
 have hsr:=hf.sr
 refine ⟨hst,withLiveP (dead b nr ms) I β ρ,renβ β nr ms,M,hk,?_,F',⟨hF,hM⟩,⟨hg.sub,hg.off,fun b' hb=>?_,hg.up,hg.new,hg.dfs,hg.d⟩,hf.norm hnr hms hnd hA hlen hlow hhi⟩
 ·rw [hlen]
  exact ⟨h0.hc,h0.hs,fun b' hb=>.inl (h0.hI _ hb),by omega,fun r hr=>by unfold renβ; rw [if_pos (by omega)]; exact h0.hβ r hr,fun b' hb=>by
   rcases hb with hb | ⟨r,R,l,hd,h1,h2,rfl⟩
   ·exact h0.hI2 _ hb
   ·exact .inr (Nat.le_of_not_lt (fun hlt=>(hsr.real r R l h1 h2).2.2.2 (hF _ (hown hd.1 _ hlt)))),h0.hz⟩
 ·rcases hb with hb | ⟨r,R,l,hd,h1,h2,rfl⟩
  ·exact hg.rd _ hb
  ·exact .inr fun hm=>(hsr.real r R l h1 h2).2.2.2 (hg.sub _ hm)

section
variable {Γ:Ghost} {γ:GS→Γ.S} {cs:CSpec} {cx:CX} {ys:YS} {ic:IC} (hcs:SoundS P cs) (hcx:SoundXH P Γ γ cx) (hys:SoundYH P Γ γ ys) (hic:SoundIH P ic) (hm:P.follows .mixedOrders=true) {sp:Nat→Option HSpec} {isp:Nat→Option ISpecR} {n:Nat} (hn:n≤512)
def SoundWH (P:Program) (Γ:Ghost) (γ:GS→Γ.S) (n n0:Nat) (zf:Bool) (c:Code) (K:KH) (t:FS) (X:XS) (q:GS):Prop :=
 ∀ (H:HC) (Q:Exit→Γ.S→List AV→Store→Prop),H.C.n0≤n0→H.C.rg=true→(zf=true→H.C.own)→(∀ e t X q,X.n<512→K e t X q→Q e (γ q) (frD n t) X.den)→wpH P H Γ c Q (γ q) (frD n t) X.den
theorem loopB_sound {n0:Nat} {zf:Bool} {c:Code} {s:HSpec} {body:KH→KG} (hb:∀ K t X q,X.n<512→body K t X q→SoundWH P Γ γ n n0 zf c K t X q) {K:KH} {t:FS} {X:XS} {q:GS} (hX0:X.n<512) (h:loopB n n0 zf s body K t X q):SoundWH P Γ γ n n0 zf (.loop c) K t X q:=by
 intro H Q hC hrg hzf hQ
 unfold loopB at h
 ·obtain ⟨h1,h2,h3⟩:=ifP_spec h
  have h1:=Bool.and_eq_true_iff.1 h1
  obtain ⟨h1,hz1⟩:=h1
  have h1:n0≤s.nr:=by simpa [Nat.ble_eq] using h1
  have hz2:s.fz=true→H.C.own:=fun e=>hzf (by rw [e] at hz1; simpa using hz1)
  have h3:=s.alOK _ h3
  have nrm:∀ {σ:Γ.S} {z:s.σ} {t:FS} {X:XS},normZ s.fz n s.nr (s.ms t X) (s.t z) (s.X z) t X True→∀ a w,SRelH H Γ σ a w (frD n t) X.den→SRelH H Γ σ a w (frD n (s.t z)) (s.X z).den:=by
   intro σ z t X h a w hs
   exact hs.normD hz2 (normZ_spec (by omega) h).1
  have back:∀ {m:Nat} {e:Exit} {t':FS} {X':XS} {q':GS},X'.n<512→backH n s m K e t' X' q'→(match e with
    | .normal=>∃ z',s.inv z'∧s.μ z'<m∧q'=s.q z'∧normZ s.fz n s.nr (s.ms t' X') (s.t z') (s.X z') t' X' True
    | e=>Q e (γ q') (frD n t') X'.den):=by
   intro m e t' X' q' hX hk
   cases e with
   | normal =>
    obtain ⟨z',h4,h5,h6⟩:=s.rdOK _ _ _ hk
    obtain ⟨h6,h7⟩:=gsEq_spec h6
    exact ⟨z',h4,h5,h6,h7⟩
   | _=>exact hQ _ _ _ _ hX hk
  have round:∀ (Inv:Nat→Γ.S→List AV→Store→Prop),(∀ z,s.inv z→Inv (s.μ z) (γ (s.q z)) (frD n (s.t z)) (s.X z).den) →
    ∀ m st' A ρ,(∃ z,s.inv z∧s.μ z=m∧st'=γ (s.q z)∧A=frD n (s.t z)∧ρ=(s.X z).den)→wpH P H Γ c (thenH (fun st1 A1 ρ1=>∃ m' st2 A2 ρ2,m'<m∧(∀ a w,SRelH H Γ st1 a w A1 ρ1→SRelH H Γ st2 a w A2 ρ2)∧Inv m' st2 A2 ρ2) Q) st' A ρ:=by
   rintro Inv hI m st' A ρ ⟨z,hz,rfl,rfl,rfl,rfl⟩
   obtain ⟨hX,hbody⟩:=ifP_spec (h3 z hz)
   have hX:(s.X z).n<512:=by simpa [Nat.blt_eq] using hX
   refine hb _ _ _ _ hX hbody H _ hC hrg hzf fun e t X q hX hk=>?_
   have:=back hX hk
   cases e with
   | normal =>
    obtain ⟨z',h4,h5,rfl,h6⟩:=this
    exact ⟨s.μ z',γ (s.q z'),_,_,h5,nrm h6,hI _ h4⟩
   | _=>exact this
  split at h2
  ·obtain ⟨z0,hz0,hn0⟩:=s.rdOK _ _ _ h2
   obtain ⟨rfl,hn1⟩:=gsEq_spec hn0
   exact wpH_loop (fun m st' A ρ=>∃ z,s.inv z∧s.μ z=m∧st'=γ (s.q z)∧A=frD n (s.t z)∧ρ=(s.X z).den) (s.μ z0) (γ (s.q z0)) _ _ (nrm hn1) ⟨z0,hz0,rfl,rfl,rfl,rfl⟩
    (round (fun m st' A ρ=>∃ z,s.inv z∧s.μ z=m∧st'=γ (s.q z)∧A=frD n (s.t z)∧ρ=(s.X z).den) fun z hz=>⟨z,hz,rfl,rfl,rfl,rfl⟩)
  ·rename_i B hB
   refine wpH_loop (fun m st' A ρ=>(m=B∧st'=γ q∧A=frD n t∧ρ=X.den)∨∃ z,s.inv z∧s.μ z=m∧st'=γ (s.q z)∧A=frD n (s.t z)∧ρ=(s.X z).den) B (γ q) _ _ (fun a w h=>h) (.inl ⟨rfl,rfl,rfl,rfl⟩) ?_
   rintro m st' A ρ (⟨rfl,rfl,rfl,rfl⟩ | hz)
   ·refine hb _ _ _ _ hX0 h2 H _ hC hrg hzf fun e t X q hX hk=>?_
    have:=back hX hk
    cases e with
    | normal =>
     obtain ⟨z',h4,h5,rfl,h6⟩:=this
     exact ⟨s.μ z',γ (s.q z'),_,_,h5,nrm h6,.inr ⟨z',h4,rfl,rfl,rfl,rfl⟩⟩
    | _=>exact this
   ·exact round (fun m st0 A ρ=>(m=B∧st0=γ q∧A=frD n t∧ρ=X.den)∨∃ z,s.inv z∧s.μ z=m∧st0=γ (s.q z)∧A=frD n (s.t z)∧ρ=(s.X z).den) (fun z hz=>.inr ⟨z,hz,rfl,rfl,rfl,rfl⟩) m st' A ρ hz
theorem loopU_sound {n0:Nat} {zf:Bool} {c:Code} {body:KH→KG} (hb:∀ K t X q,X.n<512→body K t X q→SoundWH P Γ γ n n0 zf c K t X q) {K:KH} {m:Nat} {t:FS} {X:XS} {q:GS} (hX0:X.n<512) (h:loopU body K m t X q):SoundWH P Γ γ n n0 zf (.loop c) K t X q:=by
 intro H Q hC hrg hzf hQ
 refine wpH_loop (fun m st' A ρ=>∃ (t:FS) (X:XS) (q:GS),X.n<512∧loopU body K m t X q∧st'=γ q∧A=frD n t∧ρ=X.den) m (γ q) _ _ (fun a w h=>h) ⟨t,X,q,hX0,h,rfl,rfl,rfl⟩ ?_
 rintro m st' A ρ ⟨t,X,q,hX,h,rfl,rfl,rfl⟩
 cases m with
 | zero=>exact False.elim h
 | succ m =>
  refine hb _ _ _ _ hX h H _ hC hrg hzf fun e t X q hX hk=>?_
  cases e with
  | normal=>exact ⟨m,γ q,_,_,Nat.lt_succ_self m,fun a w h=>h,t,X,q,hX,hk,rfl,rfl,rfl⟩
  | _=>exact hQ _ _ _ _ hX hk
theorem loopH_sound {n0:Nat} {zf:Bool} {c:Code} {s:Option HSpec} {body:KH→KG} (hb:∀ K t X q,X.n<512→body K t X q→SoundWH P Γ γ n n0 zf c K t X q) {K:KH} {t:FS} {X:XS} {q:GS} (hX0:X.n<512) (h:loopH n n0 zf s body K t X q):SoundWH P Γ γ n n0 zf (.loop c) K t X q:=by
 unfold loopH at h
 split at h
 ·exact h.elim
 ·rename_i s
  split at h
  ·split at h
   ·exact loopB_sound hb hX0 h
   ·rename_i r _
    obtain ⟨y,h⟩:=r.ok _ _ _ h
    exact loopB_sound hb hX0 h
  ·exact loopU_sound hb hX0 h
include hic hn in
theorem rangeH_sound {n0:Nat} {zf:Bool} {g:Operand} {ps:Array Tmp} {ca cb:Code} {s:Option ISpecR} {fa fb:Nat→KH→KG} (ha:∀ n0 K t X q,X.n<512→fa n0 K t X q→SoundWH P Γ γ n n0 false ca K t X q) (hb:∀ n0 K t X q,X.n<512→fb n0 K t X q→SoundWH P Γ γ n n0 false cb K t X q)
  {K:KH} {t:FS} {X:XS} {q:GS} (hX0:X.n<512) (h:rangeH ic n n0 s g ps.toList fa fb K t X q):SoundWH P Γ γ n n0 zf (.rangeFunc g ps ca cb) K t X q:=by
 intro H Q hC hrg hzf hQ
 unfold rangeH at h
 split at h
 ·exact h.elim
 ·rename_i r
  obtain ⟨y,hy⟩:=r.rdtOK _ _ _ h
  clear h
  generalize r.s y=s at hy
  unfold rangeB at hy
  revert hy
  intro h
  split at h
  ·rename_i i
   split at h
   ·rename_i gf fs us hgi
    obtain ⟨p1,h⟩:=pureVL_spec fs h
    obtain ⟨p2,h⟩:=pureVL_spec us h
    obtain ⟨hcb,N,m,f,hit,hlen,h⟩:=hic _ _ _ _ h
    obtain ⟨hc,h⟩:=ifP_spec h
    simp only [Bool.and_eq_true,Nat.ble_eq,Nat.beq_eq,Nat.blt_eq] at hc
    obtain ⟨⟨c1,c2⟩,c3⟩:=hc
    rw [sputK_eq] at h
    generalize ht':sput n s.t (some i) (.clo (.func gf) fs us)=t' at h
    obtain ⟨hbel,h2,h3⟩:=h
    obtain ⟨hbel,hent⟩:=belF_spec hbel
    obtain ⟨z0,hz0,hn0⟩:=s.rdOK _ _ _ hent
    obtain ⟨hq0,hn1⟩:=gsEq_spec hn0
    have hA:∀ j,j<(frD n t').length→Bel s.nr ((frD n t').getD j .any):=fun j hj=>by
     rw [frD_length] at hj; rw [sget_den]; exact hbel j hj
    have hag:aev (frD n t') (.tmp i)=.clo (.func gf) (SV.denL fs) (SV.denL us):=by
     show (frD n t').getD i .any=_
     rw [← ht',← sput_den hn]
     show ((frD n s.t).set i _).getD i .any=_
     simp [List.getD,frD_length,c3,SV.den]
    subst hq0
    refine wpH_weaken (A':=frD n t') (ρ':=(s.X z0).den) (fun a w hs=>hs.weaken fun C' a w hC' hs'=>hs'.norm (normP_spec (C:=C') (by rw [hC'.2]; omega) hn1).1) ?_
    refine wpH_rangeFunc (n:=N) (f:=fun j=>SV.denL (f j)) (fun j s' ρ=>∃ z,s.inv j z∧s'=γ (s.q j z)∧ρ=(s.X z).den) hag (pureSL_spec p1) (pureSL_spec p2) hcb hrg hit (fun j hj=>by rw [denL_length,hlen j hj,c2]; simp) ⟨z0,hz0,rfl,rfl⟩ ?_ ?_
    ·rintro j hj s' ρ ⟨z,hz,rfl,rfl⟩ H1 e1 e2
     obtain ⟨hX,hr⟩:=ifP_spec (h2 j hj z hz)
     have hX:(s.X z).n<512:=by simpa [Nat.blt_eq] using hX
     obtain ⟨t1,ht1,hr⟩:=setPsK_spec hn hr
     rw [show setPs (frD n t') ps (SV.denL (f j))=frD n t1 from ht1]
     rw [XS.length] at e1
     refine ha _ _ _ _ _ hX hr H1 _ (by rw [e1]; exact Nat.le_refl _) e2 (fun h=>nomatch h) fun e t1 X1 q1 hX1 hk=>?_
     cases e with
     | normal =>
      intro H2 e3 e4
      rw [XS.length] at e3
      refine hb _ _ _ _ _ hX1 hk H2 _ (by rw [e3]; exact Nat.le_refl _) e4 (fun h=>nomatch h) fun e t2 X2 q2 hX2 hk=>?_
      cases e with
      | normal =>
       obtain ⟨z',h4,h5⟩:=s.rdOK _ _ _ hk
       obtain ⟨h5,h6⟩:=gsEq_spec h5
       exact ⟨(s.X z').den,fun C' a w hC' hs'=>hs'.norm (normR_spec (C:=C') (by rw [hC']; omega) hA h6).1,z',h4,by rw [h5],rfl⟩
      | ret=>exact hQ _ _ _ _ hX2 hk
      | exit id=>exact hQ _ _ _ _ hX2 hk
      | _=>exact False.elim hk
     | _=>exact False.elim hk
    ·rintro s' ρ ⟨z,hz,rfl,rfl⟩
     obtain ⟨hX,hr⟩:=ifP_spec (h3 z hz)
     exact hQ _ _ _ _ (by simpa [Nat.blt_eq] using hX) hr
   ·exact h.elim
  ·exact h.elim
include hcs hcx hys hn in
theorem allS_sound {H:HC} {ops:Array Oper} {K:KG} {Q':Exit→Act→World→Prop} (hK:∀ t X q a w,X.n<512→K t X q→SRelH H Γ (γ q) a w (frD n t) X.den→Q' .normal a w) :
  ∀ (fuel:Nat) (listed:Array Bool) (t:FS) (X:XS) (q:GS) (a:Act) (w:World),X.n<512→SRelH H Γ (γ q) a w (frD n t) X.den→allS P cs cx ys n ops K fuel listed t X q→∀ nn,wpAnyIn (fz H.C.rd) nn P .any ops Q' fuel listed a w
 | 0,listed,t,X,q,a,w,hX,hs,h=>fun nn=>by
  have h:(match Region.ready .any ops listed with
   | []=>K t X q
   | _=>False):=h
  split at h
  ·rename_i hr
   exact ⟨hr,hK _ _ _ _ _ hX h hs⟩
  ·exact h.elim
 | fuel+1,listed,t,X,q,a,w,hX,hs,h=>fun nn=>by
  have h:(match Region.ready .any ops listed with
   | []=>K t X q
   | l=>List.rec (motive:=fun _=>Prop) True (fun i _ r=>(match ops[i]? with
    | none=>False
    | some o=>(match o.guard with
     | none=>stepH P cs cx ys n o t X q (allS P cs cx ys n ops K fuel (listed.setIfInBounds i true))
     | some (j,want)=>gvS ops n t j want (fun t=>stepH P cs cx ys n o t X q (allS P cs cx ys n ops K fuel (listed.setIfInBounds i true))) (fun t=>sputK n t o.dst uS fun t=>allS P cs cx ys n ops K fuel (listed.setIfInBounds i true) t X q)))∧r) l):=h
  split at h
  ·rename_i hr
   exact ⟨fun _=>hK _ _ _ _ _ hX h hs,fun i hi=>by rw [hr] at hi; cases hi⟩
  ·rename_i hne
   refine ⟨fun hr=>absurd hr hne,fun i hi=>?_⟩
   generalize Region.ready .any ops listed=l at h hi
   have key:∀ l:List Nat,i ∈ l→List.rec (motive:=fun _=>Prop) True (fun i _ r=>(match ops[i]? with
    | none=>False
    | some o=>(match o.guard with
     | none=>stepH P cs cx ys n o t X q (allS P cs cx ys n ops K fuel (listed.setIfInBounds i true))
     | some (j,want)=>gvS ops n t j want (fun t=>stepH P cs cx ys n o t X q (allS P cs cx ys n ops K fuel (listed.setIfInBounds i true))) (fun t=>sputK n t o.dst uS fun t=>allS P cs cx ys n ops K fuel (listed.setIfInBounds i true) t X q)))∧r) l →
     (match ops[i]? with
    | none=>False
    | some o=>(match o.guard with
     | none=>stepH P cs cx ys n o t X q (allS P cs cx ys n ops K fuel (listed.setIfInBounds i true))
     | some (j,want)=>gvS ops n t j want (fun t=>stepH P cs cx ys n o t X q (allS P cs cx ys n ops K fuel (listed.setIfInBounds i true))) (fun t=>sputK n t o.dst uS fun t=>allS P cs cx ys n ops K fuel (listed.setIfInBounds i true) t X q))):=by
    intro l
    induction l with
    | nil=>intro hi; cases hi
    | cons x l ih =>
     intro hi hh
     rcases List.mem_cons.1 hi with rfl | hi
     ·exact hh.1
     ·exact ih hi hh.2
   have h:=key l hi h
   clear key
   unfold wpOpIn
   split at h
   ·exact h.elim
   ·rename_i o ho
    simp only [ho]
    have run:∀ t,SRelH H Γ (γ q) a w (frD n t) X.den→stepH P cs cx ys n o t X q (allS P cs cx ys n ops K fuel (listed.setIfInBounds i true))→o.wpIn (fz H.C.rd) nn P a w (wpAnyIn (fz H.C.rd) nn P .any ops Q' fuel (listed.setIfInBounds i true)) Q':=by
     intro t hs h
     refine opH_wp hs (stepH_spec hcs hcx hys hX h) ?_ nn
     rintro v s' ρ' a' w' ⟨v',X',q',rfl,rfl,rfl,h2,h3⟩ hs'
     rw [sput_den hn] at hs'
     exact allS_sound hK fuel _ _ _ _ _ _ h2 hs' h3 nn
    split at h
    ·rename_i hg
     rw [if_pos (by simp [Region.wanted,hg])]
     exact run t hs h
    ·rename_i j want hg
     obtain ⟨b,t',e,hb,h⟩:=gvS_spec hn h
     have hy:=gvalS_specH hb hs
     rcases h with ⟨rfl,h⟩ | ⟨rfl,h⟩
     ·rw [if_pos (by simp only [Region.wanted,hg]; exact hy)]
      exact run t' (by rw [e]; exact hs) h
     ·rw [if_neg (by simp only [Region.wanted,hg]; rw [hy]; simp)]
      rw [sputK_eq] at h
      have hs2:=hs.skipU o.dst
      rw [← e,show uA=(uS:SV).den from rfl,sput_den hn t' o.dst uS] at hs2
      exact ⟨fun _ _=>trivial,allS_sound hK fuel _ _ _ _ _ _ hX hs2 h nn⟩
include hcs hcx hys hm hn
omit hm in
theorem lastR_any {ops:Array Oper} {K:KG} {H:HC} {Q':Exit→Act→World→Prop} {t:FS} {X:XS} {q:GS} (hX:X.n<512) (h:lastR P cs cx ys n ops K t X q) (hK:∀ t X q a w,X.n<512→K t X q→SRelH H Γ (γ q) a w (frD n t) X.den→Q' .normal a w) {a:Act} {w:World} (hs:SRelH H Γ (γ q) a w (frD n t) X.den) (nn:Nat) :
  wpAnyIn (fz H.C.rd) nn P .any ops Q' ops.size (Array.replicate ops.size false) a w:=by
 unfold lastR at h
 obtain ⟨hc,h⟩:=ifP_spec h
 simp only [Bool.and_eq_true,Nat.blt_eq] at hc
 obtain ⟨hz,hf,hg,hB⟩:=hc
 split at h
 ·rename_i o ho
  split at h
  ·rename_i hog
   have hlast:ops[ops.size - 1]?=some o:=by
    rw [List.getLast?_eq_getElem?] at ho
    simpa using ho
   obtain ⟨C',hC,h1,h2⟩:=hs.open
   let Qn:Exit→Act→World→Prop:=fun e a w=>e=.normal∧wpOpIn (fz H.C.rd) nn P ops Q' (ops.size - 1) (fun a w=>Q' .normal a w) a w
   have e1:ops.size=ops.pop.size+1:=by simp; omega
   have e2:(Array.replicate ops.size false).pop=Array.replicate ops.pop.size false:=by
    apply Array.ext
    ·simp
    ·intro i h1 h2; simp
   have key:wpAnyIn (fz H.C.rd) nn P .any ops.pop Qn ops.pop.size (Array.replicate ops.pop.size false) a w:=by
    rw [← hC.1]
    refine any_sound (P:=P) (W:=qset ops.pop) (C:=C') (K:=fun A ρ=>∃ t X,A=frD n t∧ρ=X.den∧X.n<512∧stepH P cs cx ys n o t X q fun t X q=>K t X q) hB ?_ ops.pop.size (Array.replicate ops.pop.size false) _ _ a _ h1 ?_ (by simp) ?_ ?_ nn
    ·rintro a w A ρ hs' ⟨t,X,rfl,rfl,hX,hk⟩
     refine ⟨rfl,?_⟩
     unfold wpOpIn
     rw [hlast]
     simp only
     rw [if_pos (by simp [Region.wanted,hog])]
     refine opH_wp (h2 _ _ _ _ hs') (stepH_spec hcs hcx hys hX hk) ?_ nn
     rintro v s' ρ' a' w' ⟨v',X',q',rfl,rfl,rfl,h3,h4⟩ hs''
     rw [sput_den hn] at hs''
     exact hK _ _ _ _ _ h3 h4 hs''
    ·have:remL ops.pop (Array.replicate ops.pop.size false)=List.range ops.pop.size:=List.filter_eq_self.2 (fun i hi=>by
      have hi:i<ops.pop.size:=by simpa using hi
      have hi:i<ops.size - 1:=by simpa using hi
      simp [Array.getD,hi])
     rw [this]; simp
    ·intro i hi hl
     have hi:i<ops.size - 1:=by simpa using hi
     simp [Array.getD,hi] at hl
    ·have:remL ops.pop (Array.replicate ops.pop.size false)=List.range ops.pop.size:=List.filter_eq_self.2 (fun i hi=>by
      have hi:i<ops.pop.size:=by simpa using hi
      have hi:i<ops.size - 1:=by simpa using hi
      simp [Array.getD,hi])
     rw [this]
     have e:(List.range ops.pop.size).map (opAt ops.pop)=ops.pop.toList:=by
      apply List.ext_getElem
      ·simp
      ·intro i h1 h2
       have h1:i<ops.size - 1:=by simpa using h1
       simp [opAt,Array.getD,h1]
     rw [e]
     exact runS_L hcs hn (K':=fun A ρ=>∃ t X,A=frD n t∧ρ=X.den∧X.n<512∧stepH P cs cx ys n o t X q fun t X q=>K t X q) (fun t X hX hk=>⟨t,X,rfl,rfl,hX,hk⟩) hX h
   have:=any_last (P:=P) (F:=fz H.C.rd) (n:=nn) (ops:=ops) (L:=fun _ _=>True) (Q:=Q') (Qn:=Qn) hz hf (fun i hi j want hgi=>by
    unfold guardB at hg
    rw [List.all_eq_true] at hg
    have hi2:i<ops.pop.size:=by simpa using hi
    have:=hg (ops.pop[i]) (Array.mem_def.1 (Array.getElem_mem hi2))
    rw [← opAt_pop hi] at hgi
    have e:opAt ops.pop i=ops.pop[i]:=by simp [opAt,Array.getD,hi]
    rw [e] at hgi
    simp only [hgi,decide_eq_true_eq] at this
    exact this) (fun e a w he hq=>he hq.1) (fun a w hq=>hq.2) ops.pop.size (Array.replicate ops.size false) a w (by simp) (by simp [Array.getD]; omega) (fun i hi hl=>by simp [Array.getD,hi] at hl) (by rw [e2]; exact key)
   rw [← e1] at this
   exact this
  ·exact h.elim
 ·exact h.elim
omit hcs hcx hys hm hn in
theorem drawn_rel {H:HC} {s:Γ.S} {a:Act} {w:World} {A:List AV} {ρ:Store} (hs:SRelH H Γ s a w A ρ):SRelH H Γ s a { w with drawn:=w.drawn+1 } A ρ:=by
 obtain ⟨C',hC,h1,h2⟩:=hs.open
 exact h2 _ _ _ _ h1.drawn
theorem lastR_sound {id:Nat} {ops:Array Oper} {K:KG} {H:HC} {Q:Exit→Γ.S→List AV→Store→Prop} {t:FS} {X:XS} {q:GS} (hX:X.n<512) (h:lastR P cs cx ys n ops K t X q) (hQ:∀ t X q,X.n<512→K t X q→Q .normal (γ q) (frD n t) X.den) :
  wpH P H Γ (.region id ops true) Q (γ q) (frD n t) X.den:=by
 intro a w hs nn
 exact wpIn_region_any hm (lastR_any hcs hcx hys hn (Q':=fun e a' w'=>∃ s' A' ρ',SRelH H Γ s' a' w' A' ρ'∧Q e s' A' ρ') hX h (fun t X q a w hX hk hs=>⟨_,_,_,hs,hQ _ _ _ hX hk⟩) (drawn_rel hs) nn)
theorem last2R_sound {id:Nat} {ops:Array Oper} {K:KG} {H:HC} {Q:Exit→Γ.S→List AV→Store→Prop} {t:FS} {X:XS} {q:GS} (hX:X.n<512) (h:last2R P cs cx ys n ops K t X q) (hQ:∀ t X q,X.n<512→K t X q→Q .normal (γ q) (frD n t) X.den) :
  wpH P H Γ (.region id ops true) Q (γ q) (frD n t) X.den:=by
 unfold last2R at h
 obtain ⟨hc,h⟩:=ifP_spec h
 simp only [Bool.and_eq_true,Nat.blt_eq] at hc
 obtain ⟨hz,hf,hg⟩:=hc
 split at h
 ·rename_i o ho
  split at h
  ·rename_i hog
   have hlast:ops[ops.size - 1]?=some o:=by
    rw [List.getLast?_eq_getElem?] at ho
    simpa using ho
   intro a w hs nn
   let Q':Exit→Act→World→Prop:=fun e a' w'=>∃ s' A' ρ',SRelH H Γ s' a' w' A' ρ'∧Q e s' A' ρ'
   let Qn:Exit→Act→World→Prop:=fun e a w=>e=.normal∧wpOpIn (fz H.C.rd) nn P ops Q' (ops.size - 1) (fun a w=>Q' .normal a w) a w
   refine wpIn_region_any hm ?_
   have e1:ops.size=ops.pop.size+1:=by simp; omega
   have e2:(Array.replicate ops.size false).pop=Array.replicate ops.pop.size false:=by
    apply Array.ext
    ·simp
    ·intro i h1 h2; simp
   have key:wpAnyIn (fz H.C.rd) nn P .any ops.pop Qn ops.pop.size (Array.replicate ops.pop.size false) a { w with drawn:=w.drawn+1 }:=by
    refine lastR_any hcs hcx hys hn hX h ?_ (drawn_rel hs) nn
    intro t X q a w hX hk hs'
    refine ⟨rfl,?_⟩
    unfold wpOpIn
    rw [hlast]
    simp only
    rw [if_pos (by simp [Region.wanted,hog])]
    refine opH_wp hs' (stepH_spec hcs hcx hys hX hk) ?_ nn
    rintro v s' ρ' a' w' ⟨v',X',q',rfl,rfl,rfl,h3,h4⟩ hs''
    rw [sput_den hn] at hs''
    exact ⟨_,_,_,hs'',hQ _ _ _ h3 h4⟩
   have:=any_last (P:=P) (F:=fz H.C.rd) (n:=nn) (ops:=ops) (L:=fun _ _=>True) (Q:=Q') (Qn:=Qn) hz hf (fun i hi j want hgi=>by
    unfold guardB at hg
    rw [List.all_eq_true] at hg
    have hi2:i<ops.pop.size:=by simpa using hi
    have:=hg (ops.pop[i]) (Array.mem_def.1 (Array.getElem_mem hi2))
    rw [← opAt_pop hi] at hgi
    have e:opAt ops.pop i=ops.pop[i]:=by simp [opAt,Array.getD,hi]
    rw [e] at hgi
    simp only [hgi,decide_eq_true_eq] at this
    exact this) (fun e a w he hq=>he hq.1) (fun a w hq=>hq.2) ops.pop.size (Array.replicate ops.size false) a { w with drawn:=w.drawn+1 } (by simp) (by simp [Array.getD]; omega) (fun i hi hl=>by simp [Array.getD,hi] at hl) (by rw [e2]; exact key)
   rw [← e1] at this
   exact this
  ·exact h.elim
 ·exact h.elim
theorem lastsR_sound {id:Nat} {ops:Array Oper} {K:KG} {H:HC} {Q:Exit→Γ.S→List AV→Store→Prop} {t:FS} {X:XS} {q:GS} (hX:X.n<512) (h:lastsR P cs cx ys n ops K t X q) (hQ:∀ t X q,X.n<512→K t X q→Q .normal (γ q) (frD n t) X.den) :
  wpH P H Γ (.region id ops true) Q (γ q) (frD n t) X.den:=by
 unfold lastsR at h
 split at h
 ·exact lastR_sound hcs hcx hys hm hn hX h hQ
 ·exact last2R_sound hcs hcx hys hm hn hX h hQ
omit hcs hcx hys hm hn in
theorem pop_any {F:Fence} {nn:Nat} {ops:Array Oper} {Q':Exit→Act→World→Prop} {o:Oper} {a:Act} {w:World} (hz:0<ops.size) (hf:feedB ops=true) (hg:guardB ops=true) (ho:ops.toList.getLast?=some o) (hog:o.guard=none)
  (key:wpAnyIn F nn P .any ops.pop (fun e a w=>e=.normal∧o.wpIn F nn P a w (fun a w=>Q' .normal a w) Q') ops.pop.size (Array.replicate ops.pop.size false) a w):wpAnyIn F nn P .any ops Q' ops.size (Array.replicate ops.size false) a w:=by
 have hlast:ops[ops.size - 1]?=some o:=by
  rw [List.getLast?_eq_getElem?] at ho
  simpa using ho
 have e1:ops.size=ops.pop.size+1:=by simp; omega
 have e2:(Array.replicate ops.size false).pop=Array.replicate ops.pop.size false:=by
  apply Array.ext
  ·simp
  ·intro i h1 h2; simp
 have:=any_last (P:=P) (F:=F) (n:=nn) (ops:=ops) (L:=fun _ _=>True) (Q:=Q') (Qn:=fun e a w=>e=.normal∧o.wpIn F nn P a w (fun a w=>Q' .normal a w) Q') hz hf (fun i hi j want hgi=>by
  unfold guardB at hg
  rw [List.all_eq_true] at hg
  have hi2:i<ops.pop.size:=by simpa using hi
  have:=hg (ops.pop[i]) (Array.mem_def.1 (Array.getElem_mem hi2))
  rw [← opAt_pop hi] at hgi
  have e:opAt ops.pop i=ops.pop[i]:=by simp [opAt,Array.getD,hi]
  rw [e] at hgi
  simp only [hgi,decide_eq_true_eq] at this
  exact this) (fun e a w he hq=>he hq.1) (fun a w hq=>by
   unfold wpOpIn
   rw [hlast]
   simp only
   rw [if_pos (by simp [Region.wanted,hog])]
   exact hq.2) ops.pop.size (Array.replicate ops.size false) a w (by simp) (by simp [Array.getD]; omega) (fun i hi hl=>by simp [Array.getD,hi] at hl) (by rw [e2]; exact key)
 rw [← e1] at this
 exact this
theorem lastO_sound {ox:OX} (hox:SoundO P ox) {id n0:Nat} {ops:Array Oper} {s:HSpec} {K:KG} {H:HC} {Q:Exit→Γ.S→List AV→Store→Prop} {t:FS} {X:XS} {q:GS} (hown:H.C.own) (hC:H.C.n0≤n0) (hX:X.n<512) (h:lastO P cs cx ys ox n n0 ops s K t X q) (hQ:∀ t X q,X.n<512→K t X q→Q .normal (γ q) (frD n t) X.den) :
  wpH P H Γ (.region id ops true) Q (γ q) (frD n t) X.den:=by
 unfold lastO at h
 obtain ⟨hc,h⟩:=ifP_spec h
 simp only [Bool.and_eq_true,Nat.blt_eq,Nat.ble_eq] at hc
 obtain ⟨⟨⟨⟨⟨⟨c1,c2⟩,c3⟩,c4⟩,c5⟩,c6⟩,c7⟩:=hc
 split at h
 ·rename_i o2 ho2
  split at h
  ·rename_i o1 ho1
   split at h
   ·rename_i g2
    split at h
    ·rename_i g1
     obtain ⟨h1,h2⟩:=h
     intro a w hs nn
     refine wpIn_region_any hm ?_
     refine pop_any (o:=o2) c1 c3 c4 ho2 g2 ?_
     refine pop_any (o:=o1) c2 c5 c6 ho1 g1 ?_
     obtain ⟨C',hC',k1,k2⟩:=(drawn_rel hs).open
     rw [← hC'.1]
     have leaf:∀ t X,X.n<512→(s.rd t X fun z=>s.inv z∧normP n s.nr (s.ms t X) (s.t z) (s.X z) t X True)→(fun A ρ=>∃ z,s.inv z∧∀ a w,SRel C' a w A ρ→SRel C' a w (frD n (s.t z)) (s.X z).den) (frD n t) X.den:=fun t X hX hk=>by
      obtain ⟨z,hz,hk⟩:=s.rdOK _ _ _ hk
      exact ⟨z,hz,fun a w hs=>hs.norm (normP_spec (C:=C') (by rw [hC'.2]; omega) hk).1⟩
     refine TreeT.soundJ (C:=C') (K:=fun A ρ=>∃ z,s.inv z∧∀ a w,SRel C' a w A ρ→SRel C' a w (frD n (s.t z)) (s.X z).den) ?_ ops.pop.pop.size (Array.replicate ops.pop.pop.size false) _ _ a _ k1 (by simp) (treeS_T hcs hn leaf ops.pop.pop.size hX h1) nn
     rintro a w A ρ hs' ⟨z,hz,hh⟩
     obtain ⟨hX',hk⟩:=ifP_spec (s.alOK _ h2 z hz)
     have hX':(s.X z).n<512:=by simpa [Nat.blt_eq] using hX'
     refine ⟨rfl,?_⟩
     rw [hC'.1]
     refine stepOx_wp hcs hcx hys hox hn hown hX' (k2 _ _ _ _ (hh _ _ hs')) hk (fun t X q a w hX hk hs=>⟨rfl,?_⟩) nn
     refine opH_wp hs (stepH_spec hcs hcx hys hX hk) ?_ nn
     rintro v s' ρ' a' w' ⟨v',X',q',rfl,rfl,rfl,h3,h4⟩ hs''
     rw [sput_den hn] at hs''
     exact ⟨_,_,_,hs'',hQ _ _ _ h3 h4⟩
    ·exact h.elim
   ·exact h.elim
  ·exact h.elim
 ·exact h.elim
include hcs hcx hys hic hm hn
theorem WH_sound {ox:OX} (hox:SoundO P ox):∀ (c:Code) {id n0:Nat} {zf:Bool} {K:KH} {t:FS} {X:XS} {q:GS},X.n<512→WH P cs cx ys ic ox sp isp n c id n0 zf K t X q→SoundWH P Γ γ n n0 zf c K t X q:=by
 intro c
 induction c with
 | skip=>intro id n0 zf K t X q hX h H Q hC hrg hzf hQ; exact wpH_skip (hQ _ _ _ _ hX h)
 | ret=>intro id n0 zf K t X q hX h H Q hC hrg hzf hQ; exact wpH_ret (hQ _ _ _ _ hX h)
 | exit i=>intro id n0 zf K t X q hX h H Q hC hrg hzf hQ; exact wpH_exit (hQ _ _ _ _ hX h)
 | label l=>intro id n0 zf K t X q hX h H Q hC hrg hzf hQ; exact wpH_label (hQ _ _ _ _ hX h)
 | goto l=>intro id n0 zf K t X q hX h; exact h.elim
 | refuse w=>intro id n0 zf K t X q hX h; exact h.elim
 | rangeFunc g ps a b iha ihb =>
  intro id n0 zf K t X q hX h
  exact rangeH_sound (hic:=hic) (hn:=hn) (fun n0 K t X q hX h=>iha hX h) (fun n0 K t X q hX h=>ihb hX h) hX h
 | seq a b iha ihb =>
  intro id n0 zf K t X q hX h H Q hC hrg hzf hQ
  refine wpH_seq (iha hX h H _ hC hrg hzf fun e t X q hX hk=>?_)
  cases e with
  | normal=>exact ihb hX hk H Q hC hrg hzf hQ
  | _=>exact hQ _ _ _ _ hX hk
 | cond c a b iha ihb =>
  intro id n0 zf K t X q hX h H Q hC hrg hzf hQ
  have h:condS (sev n t c) (WH P cs cx ys ic ox sp isp n a id n0 zf K t X q) (WH P cs cx ys ic ox sp isp n b id n0 zf K t X q):=h
  unfold condS at h
  split at h
  ·rename_i hc
   exact wpH_cond (b:=true) (by rw [sev_den,hc]; rfl) (fun _=>iha hX h H Q hC hrg hzf hQ) (fun h=>(by cases h))
  ·rename_i hc
   exact wpH_cond (b:=false) (by rw [sev_den,hc]; rfl) (fun h=>(by cases h)) (fun _=>ihb hX h H Q hC hrg hzf hQ)
  ·rename_i p i hc
   exact wpH_cond (b:=decide p) (by rw [sev_den,hc]; rfl) (fun hp=>iha hX (h.1 (by simpa using hp)) H Q hC hrg hzf hQ) (fun hp=>ihb hX (h.2 (by simpa using hp)) H Q hC hrg hzf hQ)
  ·exact h.elim
 | block i a ih =>
  intro id n0 zf K t X q hX h H Q hC hrg hzf hQ
  refine wpH_block (ih hX h H _ hC hrg hzf fun e t X q hX hk=>?_)
  cases e with
  | exit j =>
   simp only [inBlockH]
   have hk:(match Nat.beq j i with
    | true=>K .normal t X q
    | false=>K (.exit j) t X q):=hk
   split at hk
   ·rename_i hb
    rw [if_pos (by simpa using hb)]; exact hQ _ _ _ _ hX hk
   ·rename_i hb
    rw [if_neg (fun e=>by rw [e] at hb; simp at hb)]; exact hQ _ _ _ _ hX hk
  | _=>exact hQ _ _ _ _ hX hk
 | scope a ih =>
  intro id n0 zf K t X q hX h H Q hC hrg hzf hQ
  refine wpH_scope (ih hX h H _ hC hrg hzf fun e t X q hX hk=>?_)
  cases e with
  | goto l=>exact False.elim hk
  | _=>exact hQ _ _ _ _ hX hk
 | loop a ih =>
  intro id n0 zf K t X q hX h
  exact loopH_sound (fun K t X q hX h=>ih hX h) hX h
 | region i ops draw =>
  intro id n0 zf K t X q hX h H Q hC hrg hzf hQ
  have h0:(match oxB zf ox ops with
   | true=>regionO P cs cx ys ox n n0 ops draw (sp (Nat.add 1000 i)) (fun t X q=>K .normal t X q) t X q
   | false=>regionH P cs cx ys n n0 ops draw (sp (Nat.add 1000 i)) (fun t X q=>K .normal t X q) t X q):=h
  clear h
  split at h0
  ·rename_i hb
   unfold oxB at hb
   simp only [Bool.and_eq_true] at hb
   obtain ⟨rfl,_⟩:=hb
   unfold regionO at h0
   split at h0
   ·obtain ⟨l⟩:=ops
    intro a w hs nn
    exact wpIn_region_lit (runOx_sound hcs hcx hys hox hn (hzf rfl) (Q':=fun e a' w'=>∃ s' A' ρ',SRelH H Γ s' a' w' A' ρ'∧Q e s' A' ρ') (fun t X q a w hX hk hs=>⟨_,_,_,hs,hQ _ _ _ _ hX hk⟩) hX hs h0 nn)
   ·split at h0
    ·split at h0
     ·exact lastO_sound hcs hcx hys hm hn hox (hzf rfl) hC hX h0 fun t X q hX hk=>hQ _ _ _ _ hX hk
     ·rename_i r _
      obtain ⟨y,h0⟩:=r.ok _ _ _ h0
      exact lastO_sound hcs hcx hys hm hn hox (hzf rfl) hC hX h0 fun t X q hX hk=>hQ _ _ _ _ hX hk
    ·exact h0.elim
  have h:regionH P cs cx ys n n0 ops draw (sp (Nat.add 1000 i)) (fun t X q=>K .normal t X q) t X q:=h0
  unfold regionH at h
  split at h
  ·obtain ⟨l⟩:=ops
   exact wpH_region (runHS_sound hcs hcx hys hn (K':=Q .normal) (fun t X q hX hk=>hQ _ _ _ _ hX hk) hX h)
  ·split at h
   ·rename_i s
    split at h
    ·split at h
     ·intro a w hs nn
      refine wpIn_region_any hm (allS_sound hcs hcx hys hn (K:=fun t X q=>K .normal t X q) (fun t X q a w hX hk hs=>⟨_,_,_,hs,hQ _ _ _ _ hX hk⟩) _ _ _ _ _ a _ hX ?_ h nn)
      obtain ⟨C',hC,h1,h2⟩:=hs.open
      exact h2 _ _ _ _ h1.drawn
     ·exact last2R_sound hcs hcx hys hm hn hX h fun t X q hX hk=>hQ _ _ _ _ hX hk
    ·have hs:∃ s,regionT P cs n n0 ops s (fun t X q=>K .normal t X q) t X q:=by
      split at h
      ·exact ⟨_,h⟩
      ·rename_i r _
       obtain ⟨y,h⟩:=r.ok _ _ _ h
       exact ⟨_,h⟩
     clear h
     obtain ⟨s,h⟩:=hs
     unfold regionT at h
     obtain ⟨c1,h1,h2⟩:=ifP_spec h
     have c1:n0≤s.nr:=by simpa [Nat.ble_eq] using c1
     refine wpH_lift (fun C' hC'=>?_)
     have leaf:∀ t X,X.n<512→(s.rd t X fun z=>s.inv z∧normP n s.nr (s.ms t X) (s.t z) (s.X z) t X True)→(fun A ρ=>∃ z,s.inv z∧∀ a w,SRel C' a w A ρ→SRel C' a w (frD n (s.t z)) (s.X z).den) (frD n t) X.den:=fun t X hX hk=>by
      obtain ⟨z,hz,hk⟩:=s.rdOK _ _ _ hk
      exact ⟨z,hz,fun a w hs=>hs.norm (normP_spec (C:=C') (by rw [hC'.2]; omega) hk).1⟩
     have fin:∀ (a:Act) (w:World) (A:List AV) (ρ:Store),SRel C' a w A ρ→(∃ z,s.inv z∧∀ a w,SRel C' a w A ρ→SRel C' a w (frD n (s.t z)) (s.X z).den)→∃ A' ρ',SRel C' a w A' ρ'∧Q .normal (γ q) A' ρ':=by
      rintro a w A ρ hs ⟨z,hz,hh⟩
      obtain ⟨hX',hk⟩:=ifP_spec (s.alOK _ h2 z hz)
      exact ⟨_,_,hh _ _ hs,hQ _ _ _ _ (by simpa [Nat.blt_eq] using hX') hk⟩
     intro a w hs nn
     split at h1
     ·exact wpIn_region_any hm (TreeT.soundJ (fun a w A ρ hs hz=>fin a w A ρ hs hz) ops.size (Array.replicate ops.size false) _ _ a _ hs.drawn (by simp) (treeS_T hcs hn leaf ops.size hX h1) nn)
     ·exact wpIn_region_any hm (TreeT.soundN (fun a w A ρ hs hz=>fin a w A ρ hs hz) ops.size (Array.replicate ops.size false) _ _ a _ hs.drawn (by simp) (treeN_T hcs hn leaf ops.size hX h1) nn)
   ·split at h
    ·split at h
     ·exact lastR_sound hcs hcx hys hm hn hX h fun t X q hX hk=>hQ _ _ _ _ hX hk
     ·exact treeX_sound hcs hcx hn hm hX h fun t X q hX hk=>hQ _ _ _ _ hX hk
    ·split at h
     ·rename_i h1
      exact wpH_lift (fun C' _=>wpA_drawW hm h1 (runS_L hcs hn (K':=fun A ρ=>Q .normal (γ q) A ρ) (fun t X hX hk=>hQ _ _ _ _ hX hk) hX h))
     ·split at h
      ·rename_i hp
       obtain ⟨_,⟨f,h1⟩,h2⟩:=planW_spec hp
       exact wpH_lift (fun C' _=>wpA_drawJ hm h1 h2 (RunI.ofL (runS_L hcs hn (K':=fun A ρ=>Q .normal (γ q) A ρ) (fun t X hX hk=>hQ _ _ _ _ hX hk) hX h)))
      ·split at h
       ·intro a w hs nn
        refine wpIn_region_any hm (allS_sound hcs hcx hys hn (K:=fun t X q=>K .normal t X q) (fun t X q a w hX hk hs=>⟨_,_,_,hs,hQ _ _ _ _ hX hk⟩) _ _ _ _ _ a _ hX ?_ h nn)
        obtain ⟨C',hC,h1,h2⟩:=hs.open
        exact h2 _ _ _ _ h1.drawn
       ·exact lastsR_sound hcs hcx hys hm hn hX h fun t X q hX hk=>hQ _ _ _ _ hX hk
end
end Go.Lg
