import Derived.Test.YtpdcajchppoocaaC4
import Derived.Test.YtpdcajchppoocaaC1
set_option linter.unusedVariables false
set_option linter.unusedSimpArgs false
set_option linter.unusedSectionVars false
namespace Go.Lg
open Go.RowKit
variable {P:Program}


abbrev Ms:=List (Option Nat)
def dead (b:Bool) (nr:Nat) (ms:Ms) (r:Nat):Prop:=b=true∧nr≤r∧some r ∉ ms

inductive RenV (b:Bool) (nr:Nat) (ms:Ms) (ρ:Store):AV→AV→Prop
 | drop (v:AV):RenV b nr ms ρ v .any
 | bel (v:AV) (h:Bel nr v):RenV b nr ms ρ v v
 | ptr (m r i j:Nat) (h:ms[i]?=some (some m)):RenV b nr ms ρ (.ptr m r j) (.ptr (nr+i) r j)
 | sl (m o n i:Nat) (h:ms[i]?=some (some m)):RenV b nr ms ρ (.sl m o n) (.sl (nr+i) o n)
 | sub (m q j sz n i:Nat) (h:ms[i]?=some (some m)):RenV b nr ms ρ (.sub m q j sz n) (.sub (nr+i) q j sz n)
 | nil (i:Nat) (h:i<ms.length):RenV b nr ms ρ (.sc (.slice none 0 0)) (.sl (nr+i) 0 0)
 | mp (m i:Nat) (h:ms[i]?=some (some m)):RenV b nr ms ρ (.mp m) (.mp (nr+i))
 | ifc (t:TypeId) (v v':AV) (h:RenV b nr ms ρ v v'):RenV b nr ms ρ (.ifc t v) (.ifc t v')
 | snap (v v':AV) (h:SnapP (dead b nr ms) ρ v v'):RenV b nr ms ρ v v'
 | agg (c c':List AV) (hl:c'.length=c.length) (h:∀ j,j<c.length→RenV b nr ms ρ (c.getD j .any) (c'.getD j .any)):RenV b nr ms ρ (.agg c) (.agg c')
 | tup (c c':List AV) (hl:c'.length=c.length) (h:∀ j,j<c.length→RenV b nr ms ρ (c.getD j .any) (c'.getD j .any)):RenV b nr ms ρ (.tup c) (.tup c')
 | clo (fn:Fn) (fs fs' cs cs':List AV) (hl:fs'.length=fs.length) (h:∀ j,j<fs.length→RenV b nr ms ρ (fs.getD j .any) (fs'.getD j .any)) (hl':cs'.length=cs.length) (h':∀ j,j<cs.length→RenV b nr ms ρ (cs.getD j .any) (cs'.getD j .any)):RenV b nr ms ρ (.clo fn fs cs) (.clo fn fs' cs')

def renβ (β:Nat→Option Loc) (nr:Nat) (ms:Ms) (r:Nat):Option Loc:=if r<nr then β r else match ms[r - nr]? with
 | some (some m)=>β m
 | _=>none

theorem RenV.rel {b nr ms ρ v v' w F I β u} (h:RenV b nr ms ρ v v') (hn:nr≤ρ.length) (hs:SR w F I β ρ) (hv:Rel (cellf w) I ρ.length β v u) :
  Rel (cellf w) (withLiveP (dead b nr ms) I β ρ) (nr+ms.length) (renβ β nr ms) v' u:=by
 induction h generalizing u with
 | drop v=>exact .any _
 | bel v h=>exact (hv.bel h).mono (fun _ _ _ _ h=>h) (fun _ _ h=>h) (fun _ h=>.inl h) (by omega) (fun r hr=>by unfold renβ; rw [if_pos hr])
 | ptr m r i j h =>
  generalize hx:AV.ptr m r j=x at hv
  cases hv <;> cases hx
  rename_i l hr hl
  exact .ptr _ r j l (by have:=(List.getElem?_eq_some_iff.1 h).1; omega) (by unfold renβ; rw [if_neg (by omega),show nr+i - nr=i by omega,h]; exact hl)
 | sl m o n i h =>
  have hi:=(List.getElem?_eq_some_iff.1 h).1
  rcases hv.sl_inv with ⟨cap,l,hr,hl,hn,hc,rfl⟩ | ⟨rfl,aa,rfl,_⟩
  ·exact .sl _ o n cap l (by omega) (by unfold renβ; rw [if_neg (by omega),show nr+i - nr=i by omega,h]; exact hl) hn hc
  ·exact .slz _ o aa (by omega)
 | sub m q j sz n i h =>
  have hi:=(List.getElem?_eq_some_iff.1 h).1
  generalize hx:AV.sub m q j sz n=x at hv
  cases hv <;> cases hx
  ·rename_i cap l hr hl hn
   exact .sub _ q j sz n cap l (by omega) (by unfold renβ; rw [if_neg (by omega),show nr+i - nr=i by omega,h]; exact hl) hn
  ·exact .subz _ _ _ _ _ (by omega)
 | nil i h=>cases hv; exact .slz _ 0 none (by omega)
 | mp m i h =>
  have hi:=(List.getElem?_eq_some_iff.1 h).1
  generalize hx:AV.mp m=x at hv
  cases hv <;> cases hx
  rename_i l hr hl
  exact .mp _ l (by omega) (by unfold renβ; rw [if_neg (by omega),show nr+i - nr=i by omega,h]; exact hl)
 | ifc t v v' h ih =>
  cases hv with
  | ifc _ _ x hv=>exact .ifc t v' x (ih hv)
 | snap v v' h=>exact (h.rel hs hv).mono (fun _ _ _ _ h=>h) (fun _ _ h=>h) (fun _ h=>h) (Nat.zero_le _) (fun r hr=>absurd hr (Nat.not_lt_zero _))
 | agg c c' hl h ih =>
  cases hv with
  | agg _ vs hn hv=>exact .agg _ _ (by omega) (fun j hj=>ih j (by omega) (hv j (by omega)))
 | tup c c' hl h ih =>
  cases hv with
  | tup _ vs hn hv=>exact .tup _ _ (by omega) (fun j hj=>ih j (by omega) (hv j (by omega)))
 | clo fn fs fs' cs cs' hl h hl' h' ih ih' =>
  cases hv with
  | clo _ _ _ us vs hm hu hn hv=>exact .clo fn fs' cs' us vs (by omega) (fun j hj=>ih j (by omega) (hu j (by omega))) (by omega) (fun j hj=>ih' j (by omega) (hv j (by omega)))

inductive RenL (b:Bool) (nr:Nat) (ms:Ms) (ρ:Store):List AV→List AV→Prop
 | nil:RenL b nr ms ρ [] []
 | cons {v v':AV} {A A':List AV} (h:RenV b nr ms ρ v v') (t:RenL b nr ms ρ A A'):RenL b nr ms ρ (v :: A) (v' :: A')
theorem RenL.length {b nr ms ρ A A'} (h:RenL b nr ms ρ A A'):A'.length=A.length:=by
 induction h with
 | nil=>rfl
 | cons _ _ ih=>simp [ih]
theorem RenL.get {b nr ms ρ A A'} (h:RenL b nr ms ρ A A') (i:Nat):RenV b nr ms ρ (A.getD i .any) (A'.getD i .any):=by
 induction h generalizing i with
 | nil=>exact .drop _
 | cons h t ih =>
  cases i with
  | zero=>exact h
  | succ i=>exact ih i
theorem RenV.cells {b nr ms ρ v v'} (h:RenV b nr ms ρ v v') (hv':v'.cells.length=v.cells.length):∀ j,RenV b nr ms ρ (v.cells.getD j .any) (v'.cells.getD j .any):=by
 intro j
 have one:∀ x x':AV,x.cells=[x]→x'.cells=[x']→RenV b nr ms ρ x x'→RenV b nr ms ρ (x.cells.getD j .any) (x'.cells.getD j .any):=fun x x' h1 h2 h=>by
  rw [h1,h2]
  cases j with
  | zero=>exact h
  | succ j=>exact .drop _
 cases h with
 | drop v =>
  have:(AV.any).cells.getD j .any=.any:=by cases j <;> rfl
  rw [this]; exact .drop _
 | bel v h=>exact .bel _ (h.cells j)
 | ptr m r i j' h=>exact one _ _ rfl rfl (.ptr m r i j' h)
 | sl m o n i h=>exact one _ _ rfl rfl (.sl m o n i h)
 | sub m q j' sz n i h=>exact one _ _ rfl rfl (.sub m q j' sz n i h)
 | nil i h=>exact one _ _ rfl rfl (.nil i h)
 | mp m i h=>exact one _ _ rfl rfl (.mp m i h)
 | ifc t v v' h=>exact one _ _ rfl rfl (.ifc t v v' h)
 | agg c c' hl h =>
  by_cases hj:j<c.length
  ·exact h j hj
  ·have:(AV.agg c').cells.getD j .any=.any:=by show c'.getD j .any=_; unfold List.getD; rw [List.getElem?_eq_none (by omega)]; rfl
   rw [this]; exact .drop _
 | tup c c' hl h=>exact one _ _ rfl rfl (.tup c c' hl h)
 | clo fn fs fs' cs cs' hl h hl' h'=>exact one _ _ rfl rfl (.clo fn fs fs' cs cs' hl h hl' h')
 | snap v v' h =>
  cases h with
  | agg c c' hl h =>
   by_cases hj:j<c.length
   ·exact .snap _ _ (h j hj)
   ·have:(AV.agg c').cells.getD j .any=.any:=by show c'.getD j .any=_; unfold List.getD; rw [List.getElem?_eq_none (by omega)]; rfl
    rw [this]; exact .drop _
  | pure _ hp=>exact .snap _ _ (.pure _ (pure_cellsA hp j))
  | ifc t a a' h=>exact one _ _ rfl rfl (.snap _ _ (.ifc t a a' h))
  | nil sz=>exact one _ _ rfl rfl (.snap _ _ (.nil sz))
  | sl r o n R L hR ho hL hz h hm=>exact one _ _ rfl rfl (.snap _ _ (.sl r o n R L hR ho hL hz h hm))
  | ptr r i j' R cs hR hi hl h hm=>exact one _ _ rfl rfl (.snap _ _ (.ptr r i j' R cs hR hi hl h hm))
  | sub r i j' sz n R L hR hi hl hL hz h hm=>exact one _ _ rfl rfl (.snap _ _ (.sub r i j' sz n R L hR hi hl hL hz h hm))
  | tup c c' hl h=>exact one _ _ rfl rfl (.snap _ _ (.tup c c' hl h))
  | clo fn fs fs' cs cs' hl h hl' h'=>exact one _ _ rfl rfl (.snap _ _ (.clo fn fs fs' cs cs' hl h hl' h'))

def RenR (b:Bool) (nr:Nat) (ms:Ms) (ρ:Store) (x y:Option Root):Prop:=match y with
 | none=>True
 | some S=>∃ R,x=some R∧S.sz=R.sz∧S.els.length=R.els.length∧(S.ob=none∨(S.ob=R.ob∧BelQ nr R.ob))∧∀ i,i<R.els.length→(S.els.getD i .any).cells.length=(R.els.getD i .any).cells.length∧RenV b nr ms ρ (R.els.getD i .any) (S.els.getD i .any)
def Norm (C:Ctx) (A:List AV) (ρ:Store) (A':List AV) (ρ':Store):Prop :=
 ∃ (b:Bool) (nr:Nat) (ms:Ms),(b=true→C.own)∧C.n0≤nr∧nr≤ρ.length∧(∀ m,some m ∈ ms→nr≤m∧m<ρ.length)∧(ms.filterMap id).Nodup∧RenL b nr ms ρ A A'∧ρ'.length=nr+ms.length ∧
  (∀ r x y,r<nr→ρ[r]?=some x→ρ'[r]?=some y→RenR b nr ms ρ x y) ∧
  (∀ i y,ρ'[nr+i]?=some y→(∃ m x,ms[i]?=some (some m)∧ρ[m]?=some x∧RenR b nr ms ρ x y)∨(ms[i]?=some none∧∃ sz,y=some ⟨sz,[],none⟩))

def NormD (n0:Nat) (b:Bool) (A:List AV) (ρ:Store) (A':List AV) (ρ':Store):Prop :=
 ∃ (nr:Nat) (ms:Ms),n0≤nr∧nr≤ρ.length∧(∀ m,some m ∈ ms→nr≤m∧m<ρ.length)∧(ms.filterMap id).Nodup∧RenL b nr ms ρ A A'∧ρ'.length=nr+ms.length ∧
  (∀ r x y,r<nr→ρ[r]?=some x→ρ'[r]?=some y→RenR b nr ms ρ x y) ∧
  (∀ i y,ρ'[nr+i]?=some y→(∃ m x,ms[i]?=some (some m)∧ρ[m]?=some x∧RenR b nr ms ρ x y)∨(ms[i]?=some none∧∃ sz,y=some ⟨sz,[],none⟩))
theorem filterMap_nodup {ms:Ms} (h:(ms.filterMap id).Nodup):∀ {i j:Nat} {m:Nat},ms[i]?=some (some m)→ms[j]?=some (some m)→i=j:=by
 induction ms with
 | nil=>intro i j m h1; simp at h1
 | cons x ms ih =>
  intro i j m h1 h2
  have mem:∀ {k:Nat},ms[k]?=some (some m)→m ∈ ms.filterMap id:=fun h=>by
   rw [List.mem_filterMap]; exact ⟨some m,List.mem_of_getElem? h,rfl⟩
  cases x with
  | none =>
   simp only [List.filterMap_cons,id_eq] at h
   cases i with
   | zero=>simp at h1
   | succ i =>
    cases j with
    | zero=>simp at h2
    | succ j =>
     have:i=j:=ih h (m:=m) (by simpa using h1) (by simpa using h2)
     rw [this]
  | some y =>
   simp only [List.filterMap_cons,id_eq,List.nodup_cons] at h
   cases i with
   | zero =>
    simp at h1; subst h1
    cases j with
    | zero=>rfl
    | succ j=>exact absurd (mem (by simpa using h2)) h.1
   | succ i =>
    cases j with
    | zero=>simp at h2; subst h2; exact absurd (mem (by simpa using h1)) h.1
    | succ j =>
     have:i=j:=ih h.2 (m:=m) (by simpa using h1) (by simpa using h2)
     rw [this]

theorem FRel.norm {A A':List AV} {ρ ρ':Store} {a w} {F' I:Nat→Prop} {β:Nat→Option Loc} {b:Bool} {nr:Nat} {ms:Ms} (hnr:nr≤ρ.length) (hms:∀ m,some m ∈ ms→nr≤m∧m<ρ.length) (hnd:(ms.filterMap id).Nodup) (hA:RenL b nr ms ρ A A') (hlen:ρ'.length=nr+ms.length)
  (hlow:∀ r x y,r<nr→ρ[r]?=some x→ρ'[r]?=some y→RenR b nr ms ρ x y)
  (hhi:∀ i y,ρ'[nr+i]?=some y→(∃ m x,ms[i]?=some (some m)∧ρ[m]?=some x∧RenR b nr ms ρ x y)∨(ms[i]?=some none∧∃ sz,y=some ⟨sz,[],none⟩))
  (hf:FRel w F' I β a A ρ):FRel w F' (withLiveP (dead b nr ms) I β ρ) (renβ β nr ms) a A' ρ':=by
 have hsr:=hf.sr
 -- where a row comes from
 have src:∀ (r:Nat) (R:Root) l,ρ'[r]?=some (some R)→renβ β nr ms r=some l→∃ q R0,ρ[q]?=some (some R0)∧β q=some l∧¬ dead b nr ms q∧(∀ r2 R2 l2,ρ'[r2]?=some (some R2)→renβ β nr ms r2=some l2→(∃ R3,ρ[q]?=some (some R3)∧((r2<nr∧r2=q)∨(nr≤r2∧ms[r2 - nr]?=some (some q))))→r2=r) ∧
   ((r<nr∧r=q)∨(nr≤r∧ms[r - nr]?=some (some q)))∧RenR b nr ms ρ (some R0) (some R):=by
  intro r R l h1 h2
  unfold renβ at h2
  by_cases hr:r<nr
  ·rw [if_pos hr] at h2
   obtain ⟨x,hx⟩:∃ x,ρ[r]?=some x:=⟨_,List.getElem?_eq_getElem (by omega)⟩
   have h3:=hlow r x _ hr hx h1
   obtain ⟨R0,rfl,h4⟩:=h3
   refine ⟨r,R0,hx,h2,fun hd=>by have:=hd.2.1; omega,?_,.inl ⟨hr,rfl⟩,⟨R0,rfl,h4⟩⟩
   rintro r2 R2 l2 _ _ ⟨_,_,h5 | h5⟩
   ·exact h5.2
   ·have:=(hms r (List.mem_of_getElem? h5.2)).1; omega
  ·rw [if_neg hr] at h2
   have e:nr+(r - nr)=r:=by omega
   rw [← e] at h1
   rcases hhi _ _ h1 with ⟨m,x,h3,h4,h5⟩ | ⟨h3,sz,h5⟩
   ·simp only [h3] at h2
    obtain ⟨R0,rfl,h6⟩:=h5
    refine ⟨m,R0,h4,h2,fun hd=>hd.2.2 (List.mem_of_getElem? h3),?_,.inr ⟨by omega,h3⟩,⟨R0,rfl,h6⟩⟩
    rintro r2 R2 l2 _ _ ⟨_,_,h7 | h7⟩
    ·have:=(hms m (List.mem_of_getElem? h3)).1; omega
    ·have:=filterMap_nodup hnd h7.2 h3; omega
   ·simp only [h3] at h2; cases h2
 have hlive:∀ b',withLiveP (dead b nr ms) I β ρ b'→b'<w.heap.size:=fun b' hb=>by
  rcases hb with hb | ⟨r,R,l,_,h1,h2,rfl⟩
  ·exact hsr.ilt _ hb
  ·exact (hsr.real r R l h1 h2).2.1
 refine ⟨?_,?_,by rw [hA.length]; exact hf.size,fun i hi=>?_⟩
 ·constructor
  ·intro r R l h1 h2
   obtain ⟨q,R0,h3,h4,h5,_,_,R1,h6,h7,_⟩:=src r R l h1 h2
   cases h6
   obtain ⟨a1,a2,a3,a4⟩:=hsr.real q R0 l h3 h4
   refine ⟨by rw [h7]; exact a1,a2,fun hi=>?_,a4⟩
   rcases hi with hi | ⟨r',R',l',hd,c1,c2,c3⟩
   ·exact a3 hi
   ·have:=hsr.inj r' q R' R0 l' l c1 h3 c2 h4 c3
    subst this; exact h5 hd
  ·intro r R l h1 h2 i hi
   obtain ⟨q,R0,h3,h4,h5,_,_,R1,h6,h7,h8,_,h9⟩:=src r R l h1 h2
   cases h6
   obtain ⟨b1,b2⟩:=hsr.cells q R0 l h3 h4 i (by omega)
   obtain ⟨c1,c2⟩:=h9 i (by omega)
   refine ⟨by rw [c1,h7]; exact b1,fun j hj=>?_⟩
   obtain ⟨v,d1,d2⟩:=b2 j (by rw [← h7]; exact hj)
   refine ⟨v,by rw [h7]; exact d1,?_⟩
   rw [hlen]
   exact (c2.cells c1 j).rel hnr hsr d2
  ·intro r R h1 h2
   unfold renβ at h2
   by_cases hr:r<nr
   ·rw [if_pos hr] at h2
    obtain ⟨x,hx⟩:∃ x,ρ[r]?=some x:=⟨_,List.getElem?_eq_getElem (by omega)⟩
    obtain ⟨R0,rfl,_,h4,_⟩:=hlow r x _ hr hx h1
    have:=hsr.phantom r R0 hx h2
    rw [this] at h4; exact List.eq_nil_of_length_eq_zero h4
   ·rw [if_neg hr] at h2
    have e:nr+(r - nr)=r:=by omega
    rw [← e] at h1
    rcases hhi _ _ h1 with ⟨m,x,h3,h4,h5⟩ | ⟨h3,sz,h5⟩
    ·simp only [h3] at h2
     obtain ⟨R0,rfl,_,h7,_⟩:=h5
     have:=hsr.phantom m R0 h4 h2
     rw [this] at h7; exact List.eq_nil_of_length_eq_zero h7
    ·cases h5; rfl
  ·intro r s R S l m h1 h2 h3 h4 he
   obtain ⟨q,R0,a1,a2,a3,a4,a5,_⟩:=src r R l h1 h3
   obtain ⟨p,S0,b1,b2,b3,b4,b5,_⟩:=src s S m h2 h4
   have:=hsr.inj q p R0 S0 l m a1 b1 a2 b2 he
   subst this
   exact (a4 s S m h2 h4 ⟨R0,a1,b5⟩).symm
  ·exact hlive
  ·exact hsr.flt
  ·intro r R l h1 h2
   obtain ⟨q,R0,h3,h4,_⟩:=src r R l h1 h2
   exact hsr.thaw q R0 l h3 h4
  ·intro r R o h1 h2
   have up:∀ {v u},Rel (cellf w) I nr β v u→Rel (cellf w) (withLiveP (dead b nr ms) I β ρ) (nr+ms.length) (renβ β nr ms) v u:=fun h =>
    h.mono (fun _ _ _ _ h=>h) (fun _ _ h=>h) (fun _ h=>.inl h) (by omega) (fun r hr=>by unfold renβ; rw [if_pos hr])
   have go:∀ q R0,ρ[q]?=some (some R0)→(renβ β nr ms r=β q)→R.els.length=R0.els.length→(R.ob=none∨(R.ob=R0.ob∧BelQ nr R0.ob)) →
     R.els=[]∧∃ l x,renβ β nr ms r=some l∧w.heap[l.b]?=some x∧ObRel (Rel (cellf w) (withLiveP (dead b nr ms) I β ρ) (nr+ms.length) (renβ β nr ms)) o x:=by
    intro q R0 hq hb hl ho
    rcases ho with ho | ⟨ho,hq2⟩
    ·rw [h2] at ho; cases ho
    ·rw [h2] at ho
     obtain ⟨e,l,x,h5,h6,h7⟩:=hsr.obs q R0 o hq ho.symm
     refine ⟨List.eq_nil_of_length_eq_zero (by rw [hl,e]; rfl),l,x,hb.trans h5,h6,(h7.bel (ho ▸ hq2)).mono fun a v=>up⟩
   rw [hlen]
   by_cases hr:r<nr
   ·obtain ⟨x,hx⟩:∃ x,ρ[r]?=some x:=⟨_,List.getElem?_eq_getElem (by omega)⟩
    obtain ⟨R0,rfl,_,h4,h5,_⟩:=hlow r x _ hr hx h1
    exact go r R0 hx (by unfold renβ; rw [if_pos hr]) h4 h5
   ·have e:nr+(r - nr)=r:=by omega
    have h1':=h1
    rw [← e] at h1'
    rcases hhi _ _ h1' with ⟨m,x,h3,h4,h5⟩ | ⟨h3,sz,h5⟩
    ·obtain ⟨R0,rfl,_,h7,h8,_⟩:=h5
     exact go m R0 h4 (by unfold renβ; rw [if_neg hr,h3]) h7 h8
    ·cases h5; cases h2
 ·obtain ⟨Ds,d1,d2,d3⟩:=hf.df
  refine ⟨Ds,d1,d2,fun D hd=>⟨(d3 D hd).1,fun hi=>?_,(d3 D hd).2.2⟩⟩
  rcases hi with hi | ⟨r,R,l,_,h1,h2,rfl⟩
  ·exact (d3 D hd).2.1 hi
  ·exact (hsr.real r R l h1 h2).2.2.2 (d3 _ hd).1
 ·rw [hlen]
  rw [hA.length] at hi
  exact (hA.get i).rel hnr hsr (hf.rel i hi)
theorem SRel.norm {C:Ctx} {A A':List AV} {ρ ρ':Store} {a w} (hs:SRel C a w A ρ) (h:Norm C A ρ A' ρ'):SRel C a w A' ρ':=by
 obtain ⟨b,nr,ms,hown,hn0,hnr,hms,hnd,hA,hlen,hlow,hhi⟩:=h
 obtain ⟨I,β,hk,h0,F',⟨hF,hM⟩,hf⟩:=hs
 have hsr:=hf.sr
 refine ⟨withLiveP (dead b nr ms) I β ρ,renβ β nr ms,hk,?_,F',⟨hF,hM⟩,hf.norm hnr hms hnd hA hlen hlow hhi⟩
 rw [hlen]
 exact ⟨h0.hc,h0.hs,fun b' hb=>.inl (h0.hI _ hb),by omega,fun r hr=>by unfold renβ; rw [if_pos (by omega)]; exact h0.hβ r hr,fun b' hb=>by
  rcases hb with hb | ⟨r,R,l,hd,h1,h2,rfl⟩
  ·exact h0.hI2 _ hb
  ·exact .inr (Nat.le_of_not_lt (fun hlt=>(hsr.real r R l h1 h2).2.2.2 (hF _ (hown hd.1 _ hlt)))),h0.hz⟩
end Go.Lg
namespace Go.Lg
variable {P:Program}
section
variable {C:Ctx} {Q:Exit→List AV→Store→Prop} {A:List AV} {ρ:Store}
end
end Go.Lg

namespace Go.Lg
open Go.RowKit
variable {P:Program}

section
variable {n0:Nat} {ms:List Nat} {ρ:Store}
end

end Go.Lg

set_option linter.unusedSectionVars false
namespace Go.Lg
open Go.RowKit
variable {P:Program}

section
variable {call:CallF} (hC:SoundC P call) {n:Nat} (hn:n≤512)
include hC hn
end

section
variable {call:CallF} {yld:YieldF} (hC:SoundC P call) (hY:SoundY P yld) (hm:P.follows .mixedOrders=true) {E:List LoopE} (hE:∀ x ∈ E,x.n≤512) {n:Nat} (hn:n≤512)

include hC hY hE hn hm
end

section
variable {call:CallF} {yld:YieldF} (hC:SoundC P call) (hY:SoundY P yld) (hm:P.follows .mixedOrders=true) {E:List LoopE} (hE:∀ x ∈ E,x.n≤512) {n:Nat} (hn:n≤512)
include hC hY hm hE hn

end

section
variable {call:CallF} {yld:YieldF} (hC:SoundC P call) (hY:SoundY P yld) (hm:P.follows .mixedOrders=true) {E:List LoopE} (hE:∀ x ∈ E,x.n≤512)
include hC hY hm hE

end

end Go.Lg

namespace Go.Lg
open Go.RowKit
variable {P:Program}

end Go.Lg
