import Derived.Test.YtpdcajchppoocaaLfLg
set_option linter.unusedVariables false
set_option linter.unusedSimpArgs false
namespace Go.Lg
variable {P:Program}

theorem cellf_old (w:World) (o:Obj) {b:Nat} (h:b<w.heap.size) (k:Nat):cellf (w.alloc o) b k=cellf w b k:=by
 unfold cellf
 exact World.cell?_of_block (w:=w) (a:=⟨b,k,none⟩) (Go.RowKit.Below.heap_alloc w o b h)
theorem cellf_lt {w:World} {b k:Nat} {x:Value} (h:cellf w b k=some x):b<w.heap.size:=by
 unfold cellf World.cell? at h
 by_cases hb:b<w.heap.size
 ·exact hb
 ·have:w.heap[b]?=none:=by simp; omega
  simp [this] at h
theorem cellf_isSome_lt {w:World} {b k:Nat} (h:(cellf w b k).isSome=true):b<w.heap.size:=by
 obtain ⟨x,hx⟩:=Option.isSome_iff_exists.1 h
 exact cellf_lt hx
theorem heap_new (w:World) (o:Obj):(w.alloc o).heap[w.heap.size]?=some o:=by
 show (w.heap.push o)[w.heap.size]?=_
 simp
theorem cellf_new (w:World) (C:Array Value) (T:TypeId) (k:Nat):cellf (w.alloc (.cells C T)) w.heap.size k=C[k]?:=by
 have h:=heap_new w (.cells C T)
 unfold cellf World.cell?
 simp only [h]
 rfl
theorem alloc_size (w:World) (o:Obj):(w.alloc o).heap.size=w.heap.size+1:=by
 show (w.heap.push o).size=_
 simp
theorem Keeps.alloc {F:Nat→Prop} (w:World) (o:Obj) (hF:∀ b,F b→b<w.heap.size):Keeps F w (w.alloc o) :=
 ⟨rfl,rfl,rfl,by rw [alloc_size]; omega,fun b hb=>Go.RowKit.Below.heap_alloc w o b (hF b hb)⟩
theorem frozen_old (w:World) (o:Obj) {b:Nat} (h:b<w.heap.size) (k:Nat):(w.alloc o).frozen? ⟨b,k,none⟩=w.frozen? ⟨b,k,none⟩ :=
 World.frozen?_of_block (w:=w) (a:=⟨b,k,none⟩) (Go.RowKit.Below.heap_alloc w o b h)

def bext (β:Nat→Option Loc) (N:Nat) (l:Option Loc):Nat→Option Loc:=fun r=>if r=N then l else β r
theorem bext_old {β N l r} (h:r<N):bext β N l r=β r:=by unfold bext; rw [if_neg (by omega)]
theorem bext_new {β N l}:bext β N l N=l:=by simp [bext]

theorem Grow.frame {w w' F I I' β β' a A ρ ρ'} (g:Grow w w' I I' ρ.length ρ'.length β β') (h:FRel w F I β a A ρ) (dst:Option Tmp) {v:AV} {u:Value}
  (hsr:SR w' F I' β' ρ') (hv:Rel (cellf w') I' ρ'.length β' v u) (hk:Keeps F w w'):FRel w' F I' β' (a.put dst u) (putA A dst v) ρ' :=
 h.put dst hsr hv g.hc g.hs g.hI g.hN g.hβ hk.block g.hI2

theorem Grow.alloc_root (w:World) (o:Obj) (I:Nat→Prop) (N:Nat) (β l):Grow w (w.alloc o) I I N (N+1) β (bext β N l) :=
 ⟨fun b k x _ h=>by rw [cellf_old w o (cellf_lt h)]; exact h,fun b k h=>by rw [cellf_old w o (cellf_isSome_lt h)]; exact h,fun _ h=>h,by omega,fun r hr=>bext_old hr,fun _ h=>.inl h,by rw [alloc_size]; omega⟩
theorem Grow.alloc_imm (w:World) (o:Obj) (I:Nat→Prop) (N:Nat) (β):Grow w (w.alloc o) I (fun b=>I b∨b=w.heap.size) N N β β :=
 ⟨fun b k x _ h=>by rw [cellf_old w o (cellf_lt h)]; exact h,fun b k h=>by rw [cellf_old w o (cellf_isSome_lt h)]; exact h,fun _ h=>.inl h,Nat.le_refl _,fun _ _=>rfl,fun b h=>h.imp id (fun e=>by omega),by rw [alloc_size]; omega⟩

theorem getElem?_snoc {α} {l:List α} {x y:α} {r:Nat} (h:(l ++ [x])[r]?=some y):(r<l.length∧l[r]?=some y)∨(r=l.length∧y=x):=by
 by_cases hr:r<l.length
 ·left; exact ⟨hr,by rwa [List.getElem?_append_left hr] at h⟩
 ·right
  rw [List.getElem?_append_right (by omega)] at h
  by_cases e:r - l.length=0
  ·rw [e] at h; simp at h; exact ⟨by omega,h.symm⟩
  ·rw [List.getElem?_eq_none (by simp; omega)] at h; cases h

theorem SR.newRoot {w F I β ρ} (hs:SR w F I β ρ) (C:Array Value) (T:TypeId) (sz:Nat) (els:List AV)
  (hels:∀ i,i<els.length→(els.getD i .any).cells.length=sz∧∀ j,j<sz→∃ v,C[i*sz+j]?=some v∧Rel (cellf w) I ρ.length β ((els.getD i .any).cells.getD j .any) v) :
  SR (w.alloc (.cells C T)) F I (bext β ρ.length (some ⟨w.heap.size,0,sz⟩)) (ρ ++ [some ⟨sz,els,none⟩]):=by
 have g:=Grow.alloc_root w (.cells C T) I ρ.length β (some ⟨w.heap.size,0,sz⟩)
 have hlen:(ρ ++ [some (⟨sz,els,none⟩:Root)]).length=ρ.length+1:=by simp
 have old:∀ r R l,ρ[r]?=some (some R)→bext β ρ.length (some ⟨w.heap.size,0,sz⟩) r=some l→r<ρ.length∧β r=some l:=by
  intro r R l hr hl
  have:r<ρ.length:=(List.getElem?_eq_some_iff.1 hr).1
  exact ⟨this,by rwa [bext_old this] at hl⟩
 constructor
 ·intro r R l hr hl
  rcases getElem?_snoc hr with ⟨h1,h2⟩ | ⟨h1,h2⟩
  ·obtain ⟨a,b,c,d⟩:=hs.real r R l h2 (old r R l h2 hl).2
   exact ⟨a,by rw [alloc_size]; omega,c,d⟩
  ·subst h1; cases h2
   rw [bext_new] at hl; cases hl
   exact ⟨rfl,by rw [alloc_size]; exact Nat.lt_succ_self _,fun h=>Nat.lt_irrefl _ (hs.ilt _ h),fun h=>Nat.lt_irrefl _ (hs.flt _ h)⟩
 ·intro r R l hr hl i hi
  rw [hlen]
  rcases getElem?_snoc hr with ⟨h1,h2⟩ | ⟨h1,h2⟩
  ·obtain ⟨_,hl'⟩:=old r R l h2 hl
   obtain ⟨hz,hc⟩:=hs.cells r R l h2 hl' i hi
   refine ⟨hz,fun j hj=>?_⟩
   obtain ⟨v,h3,h4⟩:=hc j hj
   exact ⟨v,by rw [cellf_old _ _ (hs.real r R l h2 hl').2.1]; exact h3,g.rel h4⟩
  ·subst h1; cases h2
   rw [bext_new] at hl; cases hl
   obtain ⟨hz,hc⟩:=hels i hi
   refine ⟨hz,fun j hj=>?_⟩
   obtain ⟨v,h3,h4⟩:=hc j hj
   exact ⟨v,by rw [cellf_new]; simpa using h3,g.rel h4⟩
 ·intro r R hr hl
  rcases getElem?_snoc hr with ⟨h1,h2⟩ | ⟨h1,h2⟩
  ·rw [bext_old h1] at hl; exact hs.phantom r R h2 hl
  ·subst h1; rw [bext_new] at hl; cases hl
 ·intro r s R S l m hr hsr hl hm he
  rcases getElem?_snoc hr with ⟨h1,h2⟩ | ⟨h1,h2⟩ <;> rcases getElem?_snoc hsr with ⟨h3,h4⟩ | ⟨h3,h4⟩
  ·exact hs.inj r s R S l m h2 h4 (old r R l h2 hl).2 (old s S m h4 hm).2 he
  ·subst h3; rw [bext_new] at hm; cases hm
   have:=(hs.real r R l h2 (old r R l h2 hl).2).2.1
   simp at he; omega
  ·subst h1; rw [bext_new] at hl; cases hl
   have:=(hs.real s S m h4 (old s S m h4 hm).2).2.1
   simp at he; omega
  ·omega
 ·intro b hb; rw [alloc_size]; have:=hs.ilt b hb; omega
 ·intro b hb; rw [alloc_size]; have:=hs.flt b hb; omega
 ·intro r R l hr hl o
  rcases getElem?_snoc hr with ⟨h1,h2⟩ | ⟨h1,h2⟩
  ·obtain ⟨_,hl'⟩:=old r R l h2 hl
   rw [frozen_old _ _ (hs.real r R l h2 hl').2.1]; exact hs.thaw r R l h2 hl' o
  ·subst h1; rw [bext_new] at hl; cases hl
   exact World.frozen?_alloc_new w C T o
 ·intro r R o hr ho
  rw [hlen]
  rcases getElem?_snoc hr with ⟨h1,h2⟩ | ⟨h1,h2⟩
  ·obtain ⟨e,l,x,h3,h4,h5⟩:=hs.obs r R o h2 ho
   exact ⟨e,l,x,by rw [bext_old h1]; exact h3,by rw [Go.RowKit.Below.heap_alloc w _ l.b (hs.real r R l h2 h3).2.1]; exact h4,h5.mono fun a v=>g.rel⟩
  ·cases h2; cases ho

theorem SR.newOb {w F I β ρ} (hs:SR w F I β ρ) (x:Obj) (o:ObjA) (sz:Nat) (hx:ObRel (Rel (cellf w) I ρ.length β) o x) :
  SR (w.alloc x) F I (bext β ρ.length (some ⟨w.heap.size,0,sz⟩)) (ρ ++ [some ⟨sz,[],some o⟩]):=by
 have g:=Grow.alloc_root w x I ρ.length β (some ⟨w.heap.size,0,sz⟩)
 have hlen:(ρ ++ [some (⟨sz,[],some o⟩:Root)]).length=ρ.length+1:=by simp
 have old:∀ r R l,ρ[r]?=some (some R)→bext β ρ.length (some ⟨w.heap.size,0,sz⟩) r=some l→r<ρ.length∧β r=some l:=by
  intro r R l hr hl
  have:r<ρ.length:=(List.getElem?_eq_some_iff.1 hr).1
  exact ⟨this,by rwa [bext_old this] at hl⟩
 constructor
 ·intro r R l hr hl
  rcases getElem?_snoc hr with ⟨h1,h2⟩ | ⟨h1,h2⟩
  ·obtain ⟨a,b,c,d⟩:=hs.real r R l h2 (old r R l h2 hl).2
   exact ⟨a,by rw [alloc_size]; omega,c,d⟩
  ·subst h1; cases h2
   rw [bext_new] at hl; cases hl
   exact ⟨rfl,by rw [alloc_size]; exact Nat.lt_succ_self _,fun h=>Nat.lt_irrefl _ (hs.ilt _ h),fun h=>Nat.lt_irrefl _ (hs.flt _ h)⟩
 ·intro r R l hr hl i hi
  rw [hlen]
  rcases getElem?_snoc hr with ⟨h1,h2⟩ | ⟨h1,h2⟩
  ·obtain ⟨_,hl'⟩:=old r R l h2 hl
   obtain ⟨hz,hc⟩:=hs.cells r R l h2 hl' i hi
   refine ⟨hz,fun j hj=>?_⟩
   obtain ⟨v,h3,h4⟩:=hc j hj
   exact ⟨v,by rw [cellf_old _ _ (hs.real r R l h2 hl').2.1]; exact h3,g.rel h4⟩
  ·subst h1; cases h2; simp at hi
 ·intro r R hr hl
  rcases getElem?_snoc hr with ⟨h1,h2⟩ | ⟨h1,h2⟩
  ·rw [bext_old h1] at hl; exact hs.phantom r R h2 hl
  ·subst h1; rw [bext_new] at hl; cases hl
 ·intro r s R S l m hr hsr hl hm he
  rcases getElem?_snoc hr with ⟨h1,h2⟩ | ⟨h1,h2⟩ <;> rcases getElem?_snoc hsr with ⟨h3,h4⟩ | ⟨h3,h4⟩
  ·exact hs.inj r s R S l m h2 h4 (old r R l h2 hl).2 (old s S m h4 hm).2 he
  ·subst h3; rw [bext_new] at hm; cases hm
   have:=(hs.real r R l h2 (old r R l h2 hl).2).2.1
   simp at he; omega
  ·subst h1; rw [bext_new] at hl; cases hl
   have:=(hs.real s S m h4 (old s S m h4 hm).2).2.1
   simp at he; omega
  ·omega
 ·intro b hb; rw [alloc_size]; have:=hs.ilt b hb; omega
 ·intro b hb; rw [alloc_size]; have:=hs.flt b hb; omega
 ·intro r R l hr hl q
  rcases getElem?_snoc hr with ⟨h1,h2⟩ | ⟨h1,h2⟩
  ·obtain ⟨_,hl'⟩:=old r R l h2 hl
   rw [frozen_old _ _ (hs.real r R l h2 hl').2.1]; exact hs.thaw r R l h2 hl' q
  ·subst h1; rw [bext_new] at hl; cases hl
   unfold World.frozen?
   simp only [heap_new]
   have:=hx.notCells
   split
   ·rename_i c e lo hi h; cases h; exact absurd rfl (this _ _ _)
   ·rfl
 ·intro r R o' hr ho
  rw [hlen]
  rcases getElem?_snoc hr with ⟨h1,h2⟩ | ⟨h1,h2⟩
  ·obtain ⟨e,l,x,h3,h4,h5⟩:=hs.obs r R o' h2 ho
   exact ⟨e,l,x,by rw [bext_old h1]; exact h3,by rw [Go.RowKit.Below.heap_alloc w _ l.b (hs.real r R l h2 h3).2.1]; exact h4,h5.mono fun a v=>g.rel⟩
  ·subst h1; cases h2; cases ho
   exact ⟨rfl,_,x,bext_new,heap_new w x,hx.mono fun a v=>g.rel⟩

theorem SR.newImm {w F I β ρ} (hs:SR w F I β ρ) (o:Obj):SR (w.alloc o) F (fun b=>I b∨b=w.heap.size) β ρ:=by
 have g:=Grow.alloc_imm w o I ρ.length β
 constructor
 ·intro r R l hr hl
  obtain ⟨a,b,c,d⟩:=hs.real r R l hr hl
  exact ⟨a,by rw [alloc_size]; omega,fun h=>h.elim c (fun e=>by omega),d⟩
 ·intro r R l hr hl i hi
  obtain ⟨hz,hc⟩:=hs.cells r R l hr hl i hi
  refine ⟨hz,fun j hj=>?_⟩
  obtain ⟨v,h3,h4⟩:=hc j hj
  exact ⟨v,by rw [cellf_old _ _ (hs.real r R l hr hl).2.1]; exact h3,g.rel h4⟩
 ·exact hs.phantom
 ·exact hs.inj
 ·intro b hb; rw [alloc_size]; rcases hb with hb | hb
  ·have:=hs.ilt b hb; omega
  ·omega
 ·intro b hb; rw [alloc_size]; have:=hs.flt b hb; omega
 ·intro r R l hr hl o'
  rw [frozen_old _ _ (hs.real r R l hr hl).2.1]; exact hs.thaw r R l hr hl o'
 ·intro r R o' hr ho
  obtain ⟨e,l,x,h3,h4,h5⟩:=hs.obs r R o' hr ho
  exact ⟨e,l,x,h3,by rw [Go.RowKit.Below.heap_alloc w _ l.b (hs.real r R l hr h3).2.1]; exact h4,h5.mono fun a v=>g.rel⟩

theorem SR.phantomRoot {w F I β ρ} (hs:SR w F I β ρ) (sz:Nat):SR w F I (bext β ρ.length none) (ρ ++ [some ⟨sz,[],none⟩]):=by
 have g:Grow w w I I ρ.length (ρ.length+1) β (bext β ρ.length none):=⟨fun _ _ _ _ h=>h,fun _ _ h=>h,fun _ h=>h,by omega,fun r hr=>bext_old hr,fun _ h=>.inl h,Nat.le_refl _⟩
 have hlen:(ρ ++ [some (⟨sz,[],none⟩:Root)]).length=ρ.length+1:=by simp
 have old:∀ r R l,(ρ ++ [some (⟨sz,[],none⟩:Root)])[r]?=some (some R)→bext β ρ.length none r=some l→r<ρ.length∧ρ[r]?=some (some R)∧β r=some l:=by
  intro r R l hr hl
  rcases getElem?_snoc hr with ⟨h1,h2⟩ | ⟨h1,h2⟩
  ·exact ⟨h1,h2,by rwa [bext_old h1] at hl⟩
  ·subst h1; rw [bext_new] at hl; cases hl
 constructor
 ·intro r R l hr hl; obtain ⟨_,h2,h3⟩:=old r R l hr hl; exact hs.real r R l h2 h3
 ·intro r R l hr hl i hi
  obtain ⟨_,h2,h3⟩:=old r R l hr hl
  obtain ⟨hz,hc⟩:=hs.cells r R l h2 h3 i hi
  refine ⟨hz,fun j hj=>?_⟩
  obtain ⟨v,h4,h5⟩:=hc j hj
  rw [hlen]
  exact ⟨v,h4,g.rel h5⟩
 ·intro r R hr hl
  rcases getElem?_snoc hr with ⟨h1,h2⟩ | ⟨h1,h2⟩
  ·rw [bext_old h1] at hl; exact hs.phantom r R h2 hl
  ·cases h2; rfl
 ·intro r s R S l m hr hsr hl hm he
  obtain ⟨_,h2,h3⟩:=old r R l hr hl
  obtain ⟨_,h4,h5⟩:=old s S m hsr hm
  exact hs.inj r s R S l m h2 h4 h3 h5 he
 ·exact hs.ilt
 ·exact hs.flt
 ·intro r R l hr hl o; obtain ⟨_,h2,h3⟩:=old r R l hr hl; exact hs.thaw r R l h2 h3 o
 ·intro r R o hr ho
  rw [hlen]
  rcases getElem?_snoc hr with ⟨h1,h2⟩ | ⟨h1,h2⟩
  ·obtain ⟨e,l,x,h3,h4,h5⟩:=hs.obs r R o h2 ho
   exact ⟨e,l,x,by rw [bext_old h1]; exact h3,h4,h5.mono fun a v=>g.rel⟩
  ·cases h2; cases ho

theorem SR.kill {w F I β ρ} (hs:SR w F I β ρ) (r0:Nat):SR w F I β (ρ.set r0 none):=by
 have old:∀ (r:Nat) (R:Root),(ρ.set r0 none)[r]?=some (some R)→ρ[r]?=some (some R):=by
  intro r R h
  by_cases e:r0=r
  ·subst e
   by_cases hl:r0<ρ.length
   ·simp [hl] at h
   ·rw [List.getElem?_eq_none (by simp; omega)] at h; cases h
  ·rwa [List.getElem?_set_ne e] at h
 have hlen:(ρ.set r0 none).length=ρ.length:=by simp
 constructor
 ·intro r R l hr hl; exact hs.real r R l (old r R hr) hl
 ·rw [hlen]; intro r R l hr hl; exact hs.cells r R l (old r R hr) hl
 ·intro r R hr; exact hs.phantom r R (old r R hr)
 ·intro r s R S l m hr hsr; exact hs.inj r s R S l m (old r R hr) (old s S hsr)
 ·exact hs.ilt
 ·exact hs.flt
 ·intro r R l hr; exact hs.thaw r R l (old r R hr)
 ·rw [hlen]; intro r R o hr; exact hs.obs r R o (old r R hr)
end Go.Lg
