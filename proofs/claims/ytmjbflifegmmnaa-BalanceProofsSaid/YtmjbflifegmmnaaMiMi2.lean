import Derived.Test.YtmjbflifegmmnaaMf
set_option linter.unusedVariables false
set_option linter.unusedSimpArgs false
namespace Go.Lg
open Go.RowKit
variable {P:Program}

inductive Lt (n:Nat):AV→Prop
 | any:Lt n .any
 | sc (v:Value):Lt n (.sc v)
 | ptr (r i j:Nat) (h:r<n):Lt n (.ptr r i j)
 | sl (r o k:Nat) (h:r<n):Lt n (.sl r o k)
 | sub (r i j sz k:Nat) (h:r<n):Lt n (.sub r i j sz k)
 | yld (r:Nat) (h:r<n):Lt n (.yld r)
 | isl (sz:Nat) (L:List AV) (h:∀ i,i<L.length→∀ j,j<sz→Lt n ((L.getD i .any).cells.getD j .any)):Lt n (.isl sz L)
 | iptr (c:List AV) (h:∀ j,j<c.length→Lt n (c.getD j .any)):Lt n (.iptr c)
 | agg (c:List AV) (h:∀ j,j<c.length→Lt n (c.getD j .any)):Lt n (.agg c)
 | tup (c:List AV) (h:∀ j,j<c.length→Lt n (c.getD j .any)):Lt n (.tup c)
 | clo (fn:Fn) (fs cs:List AV) (h:∀ j,j<fs.length→Lt n (fs.getD j .any)) (h':∀ j,j<cs.length→Lt n (cs.getD j .any)):Lt n (.clo fn fs cs)
 | mp (r:Nat) (h:r<n):Lt n (.mp r)
 | sit (r:Nat) (h:r<n):Lt n (.sit r)
 | ifc (t:TypeId) (a:AV) (h:Lt n a):Lt n (.ifc t a)

theorem Rel.lt {c I N β a v} (h:Rel c I N β a v):Lt N a:=by
 induction h with
 | any v=>exact .any
 | sc v=>exact .sc v
 | ptr r i j l hr hl=>exact .ptr r i j hr
 | sl r o n cap l hr hl hn h4=>exact .sl r o n hr
 | slz r o a hr=>exact .sl r o 0 hr
 | isl sz L b off cap vs hb hn hz h1 h2 ih=>exact .isl sz L ih
 | islz sz a=>exact .isl sz [] (fun i hi=>by simp at hi)
 | iptr cs b off vs hb h1 h2 ih=>exact .iptr cs ih
 | agg cs vs hn h1 ih=>exact .agg cs ih
 | tup cs vs hn h1 ih=>exact .tup cs ih
 | clo fn fs cs us vs hm hu hn hv ih1 ih2=>exact .clo fn fs cs ih1 ih2
 | yld r l hr hl=>exact .yld r hr
 | sub r i j sz n cap l hr hl hn=>exact .sub r i j sz n hr
 | subz r i j sz a hr=>exact .sub r i j sz 0 hr
 | mp r l hr hl=>exact .mp r hr
 | sit r l hr hl=>exact .sit r hr
 | ifc t a v h ih=>exact .ifc t a ih
theorem Rel.lower {c I N β a v n} (h:Rel c I N β a v) (hl:Lt n a):Rel c I n β a v:=by
 induction h with
 | any v=>exact .any v
 | sc v=>exact .sc v
 | ptr r i j l hr h=>cases hl with | ptr _ _ _ hr=>exact .ptr r i j l hr h
 | sl r o m cap l hr h hn h4=>cases hl with | sl _ _ _ hr=>exact .sl r o m cap l hr h hn h4
 | slz r o a hr=>cases hl with | sl _ _ _ hr=>exact .slz r o a hr
 | isl sz L b off cap vs hb hn hz h1 h2 ih=>cases hl with | isl _ _ h=>exact .isl sz L b off cap vs hb hn hz h1 (fun i hi j hj=>ih i hi j hj (h i hi j hj))
 | islz sz a=>exact .islz sz a
 | iptr cs b off vs hb h1 h2 ih=>cases hl with | iptr _ h=>exact .iptr cs b off vs hb h1 (fun j hj=>ih j hj (h j hj))
 | agg cs vs hn h1 ih=>cases hl with | agg _ h=>exact .agg cs vs hn (fun j hj=>ih j hj (h j hj))
 | tup cs vs hn h1 ih=>cases hl with | tup _ h=>exact .tup cs vs hn (fun j hj=>ih j hj (h j hj))
 | clo fn fs cs us vs hm hu hn hv ih1 ih2=>cases hl with | clo _ _ _ h h'=>exact .clo fn fs cs us vs hm (fun j hj=>ih1 j hj (h j hj)) hn (fun j hj=>ih2 j hj (h' j hj))
 | yld r l hr h=>cases hl with | yld _ hr=>exact .yld r l hr h
 | sub r i j sz m cap l hr h hn=>cases hl with | sub _ _ _ _ _ hr=>exact .sub r i j sz m cap l hr h hn
 | subz r i j sz a hr=>cases hl with | sub _ _ _ _ _ hr=>exact .subz r i j sz a hr
 | mp r l hr h=>cases hl with | mp _ hr=>exact .mp r l hr h
 | sit r l hr h=>cases hl with | sit _ hr=>exact .sit r l hr h
 | ifc t a v h ih=>cases hl with | ifc _ _ hr=>exact .ifc t a v (ih hr)

theorem SR.back {w w' F I I' β β' ρ ρ'} (h0:SR w F I β ρ) (h:SR w' F I' β' ρ') (g:Grow w w' I I' ρ.length ρ'.length β β')
  (ht:∀ r,r<ρ.length→ρ'[r]?=ρ[r]?∨∀ R,ρ'[r]?=some (some R)→BelL ρ.length R.els∧BelQ ρ.length R.ob):SR w' F I' β' (ρ'.take ρ.length):=by
 have hlen:(ρ'.take ρ.length).length=ρ.length:=by have:=g.hN; simp; omega
 have old:∀ (r:Nat) (x:Option Root),(ρ'.take ρ.length)[r]?=some x→r<ρ.length∧ρ'[r]?=some x:=fun r x hx=>by
  have hr:r<(ρ'.take ρ.length).length:=(List.getElem?_eq_some_iff.1 hx).1
  rw [hlen] at hr
  rw [List.getElem?_take_of_lt hr] at hx
  exact ⟨hr,hx⟩
 constructor
 ·intro r R l h1 h2; exact h.real r R l (old r _ h1).2 h2
 ·intro r R l h1 h2 i hi
  rw [hlen]
  obtain ⟨hr,h3⟩:=old r _ h1
  obtain ⟨b1,b2⟩:=h.cells r R l h3 h2 i hi
  refine ⟨b1,fun j hj=>?_⟩
  obtain ⟨v,h5,h6⟩:=b2 j hj
  rcases ht r hr with he | hb
  ·have h2':β r=some l:=by rw [← g.hβ r hr]; exact h2
   obtain ⟨_,c2⟩:=h0.cells r R l (by rw [← he]; exact h3) h2' i hi
   obtain ⟨_,_,h7⟩:=c2 j hj
   exact ⟨v,h5,h6.lower h7.lt⟩
  ·exact ⟨v,h5,h6.bel (((hb R h3).1.get i).cells j)⟩
 ·intro r R h1; exact h.phantom r R (old r R h1).2
 ·intro r s R S l m h1 h2; exact h.inj r s R S l m (old r R h1).2 (old s _ h2).2
 ·exact h.ilt
 ·exact h.flt
 ·intro r R l h1; exact h.thaw r R l (old r _ h1).2
 ·intro r R o h1 h2
  rw [hlen]
  obtain ⟨hr,h3⟩:=old r _ h1
  obtain ⟨e,l,x,h4,h5,h6⟩:=h.obs r R o h3 h2
  refine ⟨e,l,x,h4,h5,?_⟩
  rcases ht r hr with he | hb
  ·obtain ⟨_,l0,x0,_,_,h7⟩:=h0.obs r R o (by rw [← he]; exact h3) h2
   cases h6 with
   | siter s p=>exact .siter s p
   | map es en n a1 a2 =>
    refine .map es en n a1 fun i e y h8 h9=>(a2 i e y h8 h9).lower ?_
    cases h7 with
    | map _ en0 _ b1 b2 =>
     have hl:en0.toList.length=es.length:=by have:=congrArg List.length b1; simpa using this
     have hi:=(List.getElem?_eq_some_iff.1 h9).1
     exact (b2 i _ y (List.getElem?_eq_getElem (by omega)) h9).lt
  ·exact h6.bel (h2 ▸ (hb R h3).2)

theorem DoesG.back {L f args st ρ v st' ρ'} (h:DoesG P L f args st ρ (fun a s r=>a=v∧s=st'∧r=ρ'))
  (hl:ρ.length≤ρ'.length→∀ r,r<ρ.length→ρ'[r]?=ρ[r]?∨∀ R,ρ'[r]?=some (some R)→BelL ρ.length R.els∧BelQ ρ.length R.ob) (hv:Bel ρ.length v) :
  DoesG P L f args st ρ (fun a s r=>a=v∧s=st'∧r=ρ'.take ρ.length):=by
 intro w F I β vals h1 h2 h3 h4
 refine (h w F I β vals h1 h2 h3 h4).mono ?_
 rintro e w' ⟨u,a,s,r,I',β',he,⟨rfl,rfl,rfl⟩,hk,hg,hs,hd,hr⟩
 have hlen:(r.take ρ.length).length=ρ.length:=by have:=hg.hN; simp; omega
 exact ⟨u,a,s,r.take ρ.length,I',β',he,⟨rfl,rfl,rfl⟩,hk,by rw [hlen]; exact hg.cut _ (Nat.le_refl _),h1.back hs hg (hl hg.hN),hd,by rw [hlen]; exact hr.bel hv⟩

theorem DoesG.toDoes {f args v ρ' v'} {st':List LS} (h:DoesG P [] f args [] [] (fun a s r=>a=v∧s=st'∧r=ρ')) (hs:SnapN 0 ρ' v v'):Does P f false args v':=by
 intro w I vals hI hrel
 have hsr:SR w (fun b=>b<w.heap.size) I noβ []:=⟨fun r R l h=>by simp at h,fun r R l h=>by simp at h,fun r R h=>by simp at h,fun r s R S l m h=>by simp at h,hI,fun b hb=>hb,fun r R l h=>by simp at h,fun r R o h=>by simp at h⟩
 refine (h w _ I noβ vals hsr ⟨List.nodup_nil,fun e he=>by simp at he,fun e he=>by simp at he,fun e he=>by simp at he⟩ ⟨rfl,fun k e s h=>by simp at h⟩ hrel).mono ?_
 rintro e w' ⟨u,a,s,r,I',β',rfl,⟨rfl,rfl,rfl⟩,hk,hg,hs',hd,hr⟩
 refine ⟨u,withLive I' β' r,rfl,hk.sub (fun b hb=>⟨hb,fun ⟨e,he,_⟩=>by simp at he⟩),fun b hb=>?_,fun b hb=>?_,Snap.rel hs hs' hr⟩
 ·rcases hb with hb | ⟨r,R,l,h1,h2,rfl⟩
  ·exact hs'.ilt b hb
  ·exact (hs'.real r R l h1 h2).2.1
 ·rcases hb with hb | ⟨r,R,l,h1,h2,rfl⟩
  ·exact (hg.hI2 b hb).imp (fun h=>⟨rfl,h⟩) id
  ·exact .inr (Nat.le_of_not_lt (hs'.real r R l h1 h2).2.2.2)

theorem allL_spec {α:Type} {f:α→Bool}:∀ {l:List α},allL f l=true→∀ x ∈ l,f x=true
 | [],_,x,hx=>by simp at hx
 | y :: l,h,x,hx=>by
  simp only [allL,Bool.and_eq_true] at h
  rcases List.mem_cons.1 hx with rfl | hx
  ·exact h.1
  ·exact allL_spec h.2 x hx
theorem getD_memA {l:List AV} {i:Nat} (h:i<l.length):l.getD i .any ∈ l:=by
 unfold List.getD; rw [List.getElem?_eq_getElem h]; exact List.getElem_mem _
theorem pure_cellsA {a:AV} (h:Pure a) (j:Nat):Pure (a.cells.getD j .any):=by
 cases a with
 | agg c =>
  show Pure (c.getD j .any)
  cases h with
  | agg _ h =>
   by_cases hj:j<c.length
   ·exact h j hj
   ·have:c.getD j .any=.any:=by unfold List.getD; rw [List.getElem?_eq_none (by omega)]; rfl
    rw [this]; exact .any
 | _ =>
  cases j with
  | zero=>exact h
  | succ j=>exact .any
end Go.Lg

namespace Go.Lg
open Go.RowKit
variable {P:Program}

theorem DoesS.more {f:FuncId} {args:List AV} {ρ:Store} {v:AV} (h:DoesS P f args ρ (fun x s=>x=v∧s=ρ)) (xs:List (Option Root)) (ha:∀ a ∈ args,Bel ρ.length a)
  (hρ:∀ (r:Nat) (R:Root),ρ[r]?=some (some R)→BelL ρ.length R.els∧BelQ ρ.length R.ob):DoesS P f args (ρ ++ xs) (fun x s=>x=v∧s=ρ ++ xs):=by
 intro w F I β vals hs hrel
 have old:∀ (r:Nat) (y:Option Root),ρ[r]?=some y→r<ρ.length∧(ρ ++ xs)[r]?=some y:=fun r y h=>by
  have hr:=(List.getElem?_eq_some_iff.1 h).1
  exact ⟨hr,by rw [List.getElem?_append_left hr]; exact h⟩
 let F':Nat→Prop:=fun b=>F b∨∃ (r:Nat) (R:Root) (l:Loc),ρ.length≤r∧(ρ ++ xs)[r]?=some (some R)∧β r=some l∧l.b=b
 have hs0:SR w F' I β ρ:=by
  constructor
  ·intro r R l h1 h2
   obtain ⟨hr,h3⟩:=old r _ h1
   obtain ⟨a1,a2,a3,a4⟩:=hs.real r R l h3 h2
   refine ⟨a1,a2,a3,fun hF=>?_⟩
   rcases hF with hF | ⟨s,S,m,hge,h4,h5,h6⟩
   ·exact a4 hF
   ·have:=hs.inj s r S R m l h4 h3 h5 h2 h6; omega
  ·intro r R l h1 h2 i hi
   obtain ⟨hr,h3⟩:=old r _ h1
   obtain ⟨b1,b2⟩:=hs.cells r R l h3 h2 i hi
   refine ⟨b1,fun j hj=>?_⟩
   obtain ⟨u,h5,h6⟩:=b2 j hj
   exact ⟨u,h5,h6.bel (((hρ r R h1).1.get i).cells j)⟩
  ·intro r R h1; exact hs.phantom r R (old r _ h1).2
  ·intro r s R S l m h1 h2; exact hs.inj r s R S l m (old r _ h1).2 (old s _ h2).2
  ·exact hs.ilt
  ·intro b hb
   rcases hb with hb | ⟨s,S,m,_,h4,h5,rfl⟩
   ·exact hs.flt b hb
   ·exact (hs.real s S m h4 h5).2.1
  ·intro r R l h1; exact hs.thaw r R l (old r _ h1).2
  ·intro r R o h1 h2
   obtain ⟨e,l,x,h5,h6,h7⟩:=hs.obs r R o (old r _ h1).2 h2
   exact ⟨e,l,x,h5,h6,h7.bel (h2 ▸ (hρ r R h1).2)⟩
 have hrel0:RelL (cellf w) I ρ.length β args vals.toList:=⟨hrel.1,fun j hj=>(hrel.2 j hj).bel (ha _ (getD_memA hj))⟩
 refine (h w F' I β vals hs0 hrel0).mono ?_
 rintro e w' ⟨u,v',s,I',β',he,⟨rfl,rfl⟩,hk,hg,hs',hr'⟩
 have up:∀ {a y},Rel (cellf w') I' s.length β' a y→Rel (cellf w') I' (s ++ xs).length β a y:=fun h=>h.mono (fun _ _ _ _ h=>h) (fun _ _ h=>h) (fun _ h=>h) (by simp) (fun r hr=>(hg.hβ r hr).symm)
 have keep:∀ {a y},Rel (cellf w) I (s ++ xs).length β a y→Rel (cellf w') I' (s ++ xs).length β a y:=fun h=>h.mono hg.hc hg.hs hg.hI (Nat.le_refl _) (fun _ _=>rfl)
 have hβ:∀ r R l,s[r]?=some (some R)→β r=some l→β' r=some l:=fun r R l h1 h2=>by rw [hg.hβ r (old r _ h1).1]; exact h2
 have part:∀ (r:Nat) (R:Root),(s ++ xs)[r]?=some (some R)→s[r]?=some (some R)∨(s.length≤r):=fun r R h=>by
  by_cases hr:r<s.length
  ·left; rwa [List.getElem?_append_left hr] at h
  ·right; omega
 have blk:∀ r R l,s.length≤r→(s ++ xs)[r]?=some (some R)→β r=some l→w'.heap[l.b]?=w.heap[l.b]?:=fun r R l hr h1 h2=>hk.block l.b (.inr ⟨r,R,l,hr,h1,h2,rfl⟩)
 refine ⟨u,v',s ++ xs,I',β,he,⟨rfl,rfl⟩,hk.sub (fun b hb=>.inl hb),⟨hg.hc,hg.hs,hg.hI,Nat.le_refl _,fun _ _=>rfl,hg.hI2,hg.hz⟩,?_,up hr'⟩
 constructor
 ·intro r R l h1 h2
  rcases part r R h1 with h3 | h3
  ·obtain ⟨a1,a2,a3,a4⟩:=hs'.real r R l h3 (hβ r R l h3 h2)
   exact ⟨a1,a2,a3,fun hF=>a4 (.inl hF)⟩
  ·obtain ⟨a1,a2,a3,a4⟩:=hs.real r R l h1 h2
   refine ⟨a1,Nat.lt_of_lt_of_le a2 hg.hz,fun hi=>?_,a4⟩
   rcases hg.hI2 _ hi with hi | hi
   ·exact a3 hi
   ·omega
 ·intro r R l h1 h2 i hi
  rcases part r R h1 with h3 | h3
  ·obtain ⟨b1,b2⟩:=hs'.cells r R l h3 (hβ r R l h3 h2) i hi
   refine ⟨b1,fun j hj=>?_⟩
   obtain ⟨x,h5,h6⟩:=b2 j hj
   exact ⟨x,h5,up h6⟩
  ·obtain ⟨b1,b2⟩:=hs.cells r R l h1 h2 i hi
   refine ⟨b1,fun j hj=>?_⟩
   obtain ⟨x,h5,h6⟩:=b2 j hj
   exact ⟨x,by rw [World.cell?_of_block (w:=w) (a:=⟨l.b,_,none⟩) (blk r R l h3 h1 h2) |> (fun h=>(show cellf w' l.b _=cellf w l.b _ from h))]; exact h5,keep h6⟩
 ·intro r R h1 h2
  rcases part r R h1 with h3 | h3
  ·exact hs.phantom r R h1 h2
  ·exact hs.phantom r R h1 h2
 ·exact fun r q R S l m h1 h2 h3 h4 he=>hs.inj r q R S l m h1 h2 h3 h4 he
 ·exact hs'.ilt
 ·intro b hb; exact hs'.flt b (.inl hb)
 ·intro r R l h1 h2 k
  rcases part r R h1 with h3 | h3
  ·exact hs'.thaw r R l h3 (hβ r R l h3 h2) k
  ·rw [World.frozen?_of_block (w:=w) (a:=⟨l.b,k,none⟩) (blk r R l h3 h1 h2)]; exact hs.thaw r R l h1 h2 k
 ·intro r R o h1 h2
  rcases part r R h1 with h3 | h3
  ·obtain ⟨e,l,x,h5,h6,h7⟩:=hs'.obs r R o h3 h2
   exact ⟨e,l,x,by rw [← hg.hβ r (old r _ h3).1]; exact h5,h6,h7.mono fun _ _=>up⟩
  ·obtain ⟨e,l,x,h5,h6,h7⟩:=hs.obs r R o h1 h2
   exact ⟨e,l,x,h5,by rw [blk r R l h3 h1 h5]; exact h6,h7.mono fun _ _=>keep⟩
end Go.Lg
