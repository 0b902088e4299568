import Derived.WalkKit
import Derived.Orders
import Derived.BigQuiet
import Derived.RangeFuncNested
import Derived.RangeFuncBound
import Derived.RangeFuncCalls
import Derived.RangeFuncLeaves
import Derived.OrdersIn
import Derived.TacticsIn
import Derived.LoopIn
set_option linter.unusedVariables false
set_option linter.unusedSimpArgs false
namespace Go.Lg
inductive AV where
 | any
 | sc (v:Value)
 | ptr (r i j:Nat)
 | sl (r o n:Nat)
 | isl (sz:Nat) (L:List AV)
 | iptr (c:List AV)
 | agg (c:List AV)
 | tup (l:List AV)
 | clo (fn:Fn) (first captured:List AV)
 | yld (r:Nat)
 /-- a slice of cells within an element: n elements of sz cells -/
 | sub (r i j sz n:Nat)
 /-- a map,or an iterator: its row stands for the object -/
 | mp (r:Nat)
 | sit (r:Nat)
 | ifc (t:TypeId) (v:AV)
 deriving Inhabited

def AV.cells:AV→List AV
 | .agg c=>c
 | v=>[v]

structure Loc where
 b:Nat
 off:Nat
 sz:Nat

inductive ObjA where
 | map (es:List (Value × Nat × AV)) (n:Nat)
 | siter (s:ByteArray) (pos:Nat)
structure Root where
 sz:Nat
 els:List AV
 ob:Option ObjA

abbrev Store:=List (Option Root)

def cellf (w:World) (b o:Nat):Option Value:=w.cell? ⟨b,o,none⟩

inductive Rel (c:Nat→Nat→Option Value) (I:Nat→Prop) (N:Nat) (β:Nat→Option Loc):AV→Value→Prop
 | any (v:Value):Rel c I N β .any v
 | sc (v:Value):Rel c I N β (.sc v) v
 | ptr (r i j:Nat) (l:Loc) (hr:r<N) (hl:β r=some l):Rel c I N β (.ptr r i j) (.pointer (some ⟨l.b,l.off+i*l.sz+j,none⟩))
 | sl (r o n cap:Nat) (l:Loc) (hr:r<N) (hl:β r=some l) (hn:n≤cap) (hc:∀ k,k<cap*l.sz→(c l.b (l.off+o*l.sz+k)).isSome=true) :
   Rel c I N β (.sl r o n) (.slice (some ⟨l.b,l.off+o*l.sz,none⟩) n cap)
 | slz (r o:Nat) (a:Option Addr) (hr:r<N):Rel c I N β (.sl r o 0) (.slice a 0 0)
 | isl (sz:Nat) (L:List AV) (b off cap:Nat) (vs:Nat→Nat→Value) (hb:I b) (hn:L.length≤cap) (hz:∀ i,i<L.length→(L.getD i .any).cells.length=sz)
   (hc:∀ i,i<L.length→∀ j,j<sz→c b (off+i*sz+j)=some (vs i j))
   (hv:∀ i,i<L.length→∀ j,j<sz→Rel c I N β ((L.getD i .any).cells.getD j .any) (vs i j)) :
   Rel c I N β (.isl sz L) (.slice (some ⟨b,off,none⟩) L.length cap)
 | islz (sz:Nat) (a:Option Addr):Rel c I N β (.isl sz []) (.slice a 0 0)
 | iptr (cs:List AV) (b off:Nat) (vs:Nat→Value) (hb:I b)
   (hc:∀ j,j<cs.length→c b (off+j)=some (vs j)) (hv:∀ j,j<cs.length→Rel c I N β (cs.getD j .any) (vs j)) :
   Rel c I N β (.iptr cs) (.pointer (some ⟨b,off,none⟩))
 | agg (cs:List AV) (vs:Array Value) (hn:vs.size=cs.length) (hv:∀ j,j<cs.length→Rel c I N β (cs.getD j .any) (vs.getD j undef)) :
   Rel c I N β (.agg cs) (.agg vs)
 | tup (cs:List AV) (vs:Array Value) (hn:vs.size=cs.length) (hv:∀ j,j<cs.length→Rel c I N β (cs.getD j .any) (vs.getD j undef)) :
   Rel c I N β (.tup cs) (.tuple vs)
 | clo (fn:Fn) (fs cs:List AV) (us vs:Array Value) (hm:us.size=fs.length) (hu:∀ j,j<fs.length→Rel c I N β (fs.getD j .any) (us.getD j undef))
   (hn:vs.size=cs.length) (hv:∀ j,j<cs.length→Rel c I N β (cs.getD j .any) (vs.getD j undef)) :
   Rel c I N β (.clo fn fs cs) (.func fn us vs)
 | yld (r:Nat) (l:Loc) (hr:r<N) (hl:β r=some l):Rel c I N β (.yld r) (.func (.yield l.b) #[] #[])
 | sub (r i j sz n cap:Nat) (l:Loc) (hr:r<N) (hl:β r=some l) (hn:n≤cap):Rel c I N β (.sub r i j sz n) (.slice (some ⟨l.b,l.off+i*l.sz+j,none⟩) n cap)
 | subz (r i j sz:Nat) (a:Option Addr) (hr:r<N):Rel c I N β (.sub r i j sz 0) (.slice a 0 0)
 | mp (r:Nat) (l:Loc) (hr:r<N) (hl:β r=some l):Rel c I N β (.mp r) (.map (some l.b))
 | sit (r:Nat) (l:Loc) (hr:r<N) (hl:β r=some l):Rel c I N β (.sit r) (.pointer (some ⟨l.b,0,none⟩))
 | ifc (t:TypeId) (a:AV) (v:Value) (h:Rel c I N β a v):Rel c I N β (.ifc t a) (.iface t v)

theorem Rel.mono {c c':Nat→Nat→Option Value} {I I':Nat→Prop} {N N':Nat} {β β':Nat→Option Loc} {a:AV} {v:Value}
  (h:Rel c I N β a v) (hc:∀ b o x,I b→c b o=some x→c' b o=some x) (hs:∀ b o,(c b o).isSome=true→(c' b o).isSome=true)
  (hI:∀ b,I b→I' b) (hN:N≤N') (hβ:∀ r,r<N→β' r=β r):Rel c' I' N' β' a v:=by
 induction h with
 | any v=>exact .any v
 | sc v=>exact .sc v
 | ptr r i j l hr hl=>exact .ptr r i j l (by omega) (by rw [hβ r hr,hl])
 | sl r o n cap l hr hl hn h4=>exact .sl r o n cap l (by omega) (by rw [hβ r hr,hl]) hn (fun k hk=>hs _ _ (h4 k hk))
 | slz r o a hr=>exact .slz r o a (by omega)
 | isl sz L b off cap vs hb hn hz h1 h2 ih=>exact .isl sz L b off cap vs (hI _ hb) hn hz (fun i hi j hj=>hc _ _ _ hb (h1 i hi j hj)) ih
 | islz sz a=>exact .islz sz a
 | iptr cs b off vs hb h1 h2 ih=>exact .iptr cs b off vs (hI _ hb) (fun j hj=>hc _ _ _ hb (h1 j hj)) ih
 | agg cs vs hn h1 ih=>exact .agg cs vs hn ih
 | tup cs vs hn h1 ih=>exact .tup cs vs hn ih
 | clo fn fs cs us vs hm hu hn hv ih1 ih2=>exact .clo fn fs cs us vs hm ih1 hn ih2
 | yld r l hr hl=>exact .yld r l (by omega) (by rw [hβ r hr,hl])
 | sub r i j sz n cap l hr hl hn=>exact .sub r i j sz n cap l (by omega) (by rw [hβ r hr,hl]) hn
 | subz r i j sz a hr=>exact .subz r i j sz a (by omega)
 | mp r l hr hl=>exact .mp r l (by omega) (by rw [hβ r hr,hl])
 | sit r l hr hl=>exact .sit r l (by omega) (by rw [hβ r hr,hl])
 | ifc t a v h ih=>exact .ifc t a v ih

inductive ObRel (R:AV→Value→Prop):ObjA→Obj→Prop
 | map (es:List (Value × Nat × AV)) (en:Array MapEntry) (n:Nat) (hk:en.toList.map (fun e=>(e.key,e.born))=es.map (fun e=>(e.1,e.2.1))) (hv:∀ (i:Nat) e x,en.toList[i]?=some e→es[i]?=some x→R x.2.2 e.val):ObRel R (.map es n) (.map en n)
 | siter (s:ByteArray) (p:Nat):ObRel R (.siter s p) (.stringIter s p)
theorem ObRel.mono {R R':AV→Value→Prop} {o:ObjA} {x:Obj} (k:ObRel R o x) (h:∀ a v,R a v→R' a v):ObRel R' o x:=by
 cases k with
 | map es en n hk hv=>exact .map es en n hk fun i e x h1 h2=>h _ _ (hv i e x h1 h2)
 | siter s p=>exact .siter s p
theorem ObRel.notCells {R:AV→Value→Prop} {o:ObjA} {x:Obj} (k:ObRel R o x):∀ c e f,x≠.cells c e f:=by
 cases k <;> intros <;> simp
structure SR (w:World) (F I:Nat→Prop) (β:Nat→Option Loc) (ρ:Store):Prop where
 real:∀ r R l,ρ[r]?=some (some R)→β r=some l→l.sz=R.sz∧l.b<w.heap.size∧¬ I l.b∧¬ F l.b
 cells:∀ r R l,ρ[r]?=some (some R)→β r=some l→∀ i,i<R.els.length→(R.els.getD i .any).cells.length=R.sz ∧
  ∀ j,j<R.sz→∃ v,cellf w l.b (l.off+i*R.sz+j)=some v∧Rel (cellf w) I ρ.length β ((R.els.getD i .any).cells.getD j .any) v
 phantom:∀ r R,ρ[r]?=some (some R)→β r=none→R.els=[]
 inj:∀ r s R S l m,ρ[r]?=some (some R)→ρ[s]?=some (some S)→β r=some l→β s=some m→l.b=m.b→r=s
 ilt:∀ b,I b→b<w.heap.size
 flt:∀ b,F b→b<w.heap.size
 thaw:∀ r R l,ρ[r]?=some (some R)→β r=some l→∀ o,w.frozen? ⟨l.b,o,none⟩=false
 obs:∀ r R o,ρ[r]?=some (some R)→R.ob=some o→R.els=[]∧∃ l x,β r=some l∧w.heap[l.b]?=some x∧ObRel (Rel (cellf w) I ρ.length β) o x

structure Keeps (F:Nat→Prop) (w0 w:World):Prop where
 os:w.os=w0.os
 tape:w.tape=w0.tape
 output:w.output=w0.output
 size:w0.heap.size≤w.heap.size
 block:∀ b,F b→w.heap[b]?=w0.heap[b]?

theorem Keeps.refl (F:Nat→Prop) (w:World):Keeps F w w:=⟨rfl,rfl,rfl,Nat.le_refl _,fun _ _=>rfl⟩
theorem Keeps.sub {F G:Nat→Prop} {a b:World} (h:Keeps F a b) (hs:∀ b,G b→F b):Keeps G a b:=⟨h.os,h.tape,h.output,h.size,fun b hb=>h.block b (hs b hb)⟩
theorem Keeps.trans {F:Nat→Prop} {a b c:World} (h:Keeps F a b) (k:Keeps F b c):Keeps F a c :=
 ⟨k.os.trans h.os,k.tape.trans h.tape,k.output.trans h.output,Nat.le_trans h.size k.size,fun b hb=>(k.block b hb).trans (h.block b hb)⟩

def aev (A:List AV):Operand→AV
 | .tmp t=>A.getD t .any
 | .const v=>.sc v
 | .global _=>.any
 | .func f=>.sc (.func (.func f) #[] #[])

def dmark (D:Nat):Deferred:={ target:=.collected D,args:=#[] }
def marks (l:List Deferred):List Nat:=l.filterMap fun d=>match d.target with
 | .collected D=>some D
 | _=>none
theorem marks_map:∀ Ds:List Nat,marks (Ds.map dmark)=Ds
 | []=>rfl
 | D :: Ds=>by
  have:=marks_map Ds
  exact congrArg (D :: ·) this
theorem marks_append (l m:List Deferred):marks (l ++ m)=marks l ++ marks m:=by simp [marks]
def preM (n:Nat) (l0:List Deferred) (l:List Deferred):Prop:=∃ Ds:List Nat,l=Ds.map dmark ++ l0∧∀ D,D ∈ Ds→n≤D
theorem preM_up {n:Nat} {l0:List Deferred} (D:Nat) (l:List Deferred) (h:n≤D) (k:preM n l0 l):preM n l0 (dmark D :: l):=by
 obtain ⟨Ds,rfl,hk⟩:=k
 refine ⟨D :: Ds,rfl,fun E hE=>?_⟩
 rcases List.mem_cons.1 hE with rfl | hE
 ·exact h
 ·exact hk E hE
theorem preM_refl (n:Nat) (l0:List Deferred):preM n l0 l0:=⟨[],rfl,fun D hD=>by cases hD⟩
theorem preM_nil {n:Nat} {l:List Deferred} {Ds:List Nat} (k:preM n [] l) (h:marks l=Ds):l=Ds.map dmark∧∀ D,D ∈ Ds→n≤D:=by
 obtain ⟨Es,rfl,hk⟩:=k
 rw [List.append_nil] at h ⊢
 rw [marks_map] at h
 subst h
 exact ⟨rfl,hk⟩
def Marked (w:World) (F I:Nat→Prop) (a:Act):Prop :=
 ∃ Ds:List Nat,Ds.Nodup∧marks a.defers=Ds∧∀ D,D ∈ Ds→F D∧¬ I D∧w.heap[D]?=some (.deferred (some []))
theorem Marked.keep {w w' F I I' a} (h:Marked w F I a) (hF:∀ b,F b→w'.heap[b]?=w.heap[b]?) (hI:∀ b,I' b→I b∨w.heap.size≤b) (hl:∀ b,F b→b<w.heap.size):Marked w' F I' a:=by
 obtain ⟨Ds,h1,h2,h3⟩:=h
 exact ⟨Ds,h1,h2,fun D hD=>⟨(h3 D hD).1,fun hi=>(hI D hi).elim (h3 D hD).2.1 (fun h=>Nat.lt_irrefl _ (Nat.lt_of_lt_of_le (hl D (h3 D hD).1) h)),(hF D (h3 D hD).1).trans (h3 D hD).2.2⟩⟩
theorem Marked.put {w F I a} (h:Marked w F I a) (d:Option Tmp) (u:Value):Marked w F I (a.put d u):=by
 obtain ⟨Ds,h1,h2,h3⟩:=h
 exact ⟨Ds,h1,by cases d <;> exact h2,h3⟩

structure FRel (w:World) (F I:Nat→Prop) (β:Nat→Option Loc) (a:Act) (A:List AV) (ρ:Store):Prop where
 sr:SR w F I β ρ
 df:Marked w F I a
 size:a.tmps.size=A.length
 rel:∀ i,i<A.length→Rel (cellf w) I ρ.length β (A.getD i .any) (a.tmps.getD i undef)

inductive Pure:AV→Prop
 | any:Pure .any
 | sc (v:Value):Pure (.sc v)
 | isl (sz:Nat) (L:List AV) (h:∀ i,i<L.length→∀ j,j<sz→Pure ((L.getD i .any).cells.getD j .any)):Pure (.isl sz L)
 | iptr (c:List AV) (h:∀ j,j<c.length→Pure (c.getD j .any)):Pure (.iptr c)
 | agg (c:List AV) (h:∀ j,j<c.length→Pure (c.getD j .any)):Pure (.agg c)
 | tup (c:List AV) (h:∀ j,j<c.length→Pure (c.getD j .any)):Pure (.tup c)
 | clo (fn:Fn) (fs cs:List AV) (h:∀ j,j<fs.length→Pure (fs.getD j .any)) (h':∀ j,j<cs.length→Pure (cs.getD j .any)):Pure (.clo fn fs cs)
 | ifc (t:TypeId) (a:AV) (h:Pure a):Pure (.ifc t a)

inductive Bel (n:Nat):AV→Prop
 | pure (a:AV) (h:Pure a):Bel n a
 | ptr (r i j:Nat) (h:r<n):Bel n (.ptr r i j)
 | sl (r o k:Nat) (h:r<n):Bel n (.sl r o k)
 | agg (c:List AV) (h:∀ j,j<c.length→Bel n (c.getD j .any)):Bel n (.agg c)
 | tup (c:List AV) (h:∀ j,j<c.length→Bel n (c.getD j .any)):Bel n (.tup c)
 | clo (fn:Fn) (fs cs:List AV) (h:∀ j,j<fs.length→Bel n (fs.getD j .any)) (h':∀ j,j<cs.length→Bel n (cs.getD j .any)):Bel n (.clo fn fs cs)
 | yld (r:Nat) (h:r<n):Bel n (.yld r)
 | sub (r i j sz k:Nat) (h:r<n):Bel n (.sub r i j sz k)
 | mp (r:Nat) (h:r<n):Bel n (.mp r)
 | sit (r:Nat) (h:r<n):Bel n (.sit r)
 | ifc (t:TypeId) (a:AV) (h:Bel n a):Bel n (.ifc t a)

def BelQ (n:Nat):Option ObjA→Prop
 | some (.map es _)=>∀ x ∈ es,Bel n x.2.2
 | _=>True

structure Grow (w w':World) (I I':Nat→Prop) (N N':Nat) (β β':Nat→Option Loc):Prop where
 hc:∀ b o x,I b→cellf w b o=some x→cellf w' b o=some x
 hs:∀ b o,(cellf w b o).isSome=true→(cellf w' b o).isSome=true
 hI:∀ b,I b→I' b
 hN:N≤N'
 hβ:∀ r,r<N→β' r=β r
 hI2:∀ b,I' b→I b∨w.heap.size≤b
 hz:w.heap.size≤w'.heap.size
theorem Grow.refl (w I N β):Grow w w I I N N β β:=⟨fun _ _ _ _ h=>h,fun _ _ h=>h,fun _ h=>h,Nat.le_refl _,fun _ _=>rfl,fun _ h=>.inl h,Nat.le_refl _⟩
theorem Grow.rel {w w' I I' N N' β β' a v} (g:Grow w w' I I' N N' β β') (h:Rel (cellf w) I N β a v):Rel (cellf w') I' N' β' a v:=h.mono g.hc g.hs g.hI g.hN g.hβ
theorem Grow.trans {w w' w'' I I' I'' N N' N'' β β' β''} (g:Grow w w' I I' N N' β β') (h:Grow w' w'' I' I'' N' N'' β' β''):Grow w w'' I I'' N N'' β β'' :=
 ⟨fun b o x hb hx=>h.hc b o x (g.hI b hb) (g.hc b o x hb hx),fun b o hx=>h.hs b o (g.hs b o hx),fun b hb=>h.hI b (g.hI b hb),Nat.le_trans g.hN h.hN,fun r hr=>(h.hβ r (Nat.lt_of_lt_of_le hr g.hN)).trans (g.hβ r hr),
  fun b hb=>(h.hI2 b hb).elim (fun h=>g.hI2 b h) (fun h=>.inr (Nat.le_trans g.hz h)),Nat.le_trans g.hz h.hz⟩
structure Ctx where
 F:Nat→Prop
 I0:Nat→Prop
 w0:World
 g0:World
 rd:Option Nat
 /-- may it range over functions -/
 rg:Bool
 M:List Deferred→Prop
 up:rg=true→∀ D l,w0.heap.size≤D→M l→M (dmark D :: l)
 n0:Nat
 β0:Nat→Option Loc

def Ctx.own (C:Ctx):Prop:=∀ b,b<C.g0.heap.size→C.F b

def fz (r:Option Nat):Fence:={ Fence.wide with round:=r }

def SRel (C:Ctx) (a:Act) (w:World) (A:List AV) (ρ:Store):Prop :=
 ∃ I β,Keeps C.F C.w0 w∧Grow C.g0 w C.I0 I C.n0 ρ.length C.β0 β∧∃ F',((∀ b,C.F b→F' b)∧C.M a.defers)∧FRel w F' I β a A ρ

theorem FRel.eval {w F I β a A ρ} (h:FRel w F I β a A ρ) (x:Operand):Rel (cellf w) I ρ.length β (aev A x) (a.eval x):=by
 cases x with
 | tmp t =>
  by_cases ht:t<A.length
  ·exact h.rel t ht
  ·have:A.getD t .any=.any:=by simp [List.getD,List.getElem?_eq_none (Nat.le_of_not_lt ht)]
   show Rel _ _ _ _ (A.getD t .any) _
   rw [this]; exact .any _
 | const v=>exact .sc v
 | global g=>exact .any _
 | func f=>exact .sc _

def putA (A:List AV):Option Tmp→AV→List AV
 | none,_=>A
 | some d,v=>A.set d v

theorem FRel.put {w w' F I I' β β' a A ρ ρ'} (h:FRel w F I β a A ρ) (dst:Option Tmp) {v:AV} {u:Value}
  (hsr:SR w' F I' β' ρ') (hv:Rel (cellf w') I' ρ'.length β' v u)
  (hc:∀ b o x,I b→cellf w b o=some x→cellf w' b o=some x) (hs:∀ b o,(cellf w b o).isSome=true→(cellf w' b o).isSome=true)
  (hI:∀ b,I b→I' b) (hN:ρ.length≤ρ'.length) (hβ:∀ r,r<ρ.length→β' r=β r) (hF:∀ b,F b→w'.heap[b]?=w.heap[b]?) (hI2:∀ b,I' b→I b∨w.heap.size≤b) :
  FRel w' F I' β' (a.put dst u) (putA A dst v) ρ':=by
 have hold:∀ i,i<A.length→Rel (cellf w') I' ρ'.length β' (A.getD i .any) (a.tmps.getD i undef):=fun i hi=>(h.rel i hi).mono hc hs hI hN hβ
 cases dst with
 | none=>exact ⟨hsr,(h.df.keep hF hI2 h.sr.flt).put none u,h.size,hold⟩
 | some d =>
  refine ⟨hsr,(h.df.keep hF hI2 h.sr.flt).put (some d) u,by simp [Act.put,putA,h.size],fun i hi=>?_⟩
  have hi':i<A.length:=by simpa [putA] using hi
  simp only [putA,Act.put]
  by_cases e:d=i
  ·subst e
   have e1:(A.set d v).getD d .any=v:=by simp [List.getD,hi']
   have e2:(a.tmps.setIfInBounds d u).getD d undef=u:=by simp [Array.getD,h.size,hi']
   rw [e1,e2]; exact hv
  ·have e1:(A.set d v).getD i .any=A.getD i .any:=by simp [List.getD,List.getElem?_set_ne e]
   have e2:(a.tmps.setIfInBounds d u).getD i undef=a.tmps.getD i undef:=by
    by_cases hs':i<a.tmps.size <;> simp [Array.getD,hs',Array.getElem_setIfInBounds_ne,e]
   rw [e1,e2]; exact hold i hi'

theorem FRel.put0 {w F I β a A ρ} (h:FRel w F I β a A ρ) (dst:Option Tmp) {v:AV} {u:Value} (hv:Rel (cellf w) I ρ.length β v u) :
  FRel w F I β (a.put dst u) (putA A dst v) ρ :=
 h.put dst h.sr hv (fun _ _ _ _ h=>h) (fun _ _ h=>h) (fun _ h=>h) (Nat.le_refl _) (fun _ _=>rfl) (fun _ _=>rfl) (fun _ h=>.inl h)
end Go.Lg

namespace Go.Lg
variable {P:Program}

def aggB (P:Program) (t:TypeId):Bool:=match P.underlying t with
 | some (.struct _) | some (.array _ _)=>true
 | _=>false
def known (P:Program) (t:TypeId):Bool:=(P.underlying t).isSome

theorem info_of_known {t:TypeId} (h:known P t=true):∃ i,P.info? t=some i:=by
 unfold known Program.underlying at h
 cases hi:P.info? t with
 | none=>simp [hi] at h
 | some i=>exact ⟨i,rfl⟩

theorem run_sizeOf' {t:TypeId} (h:known P t=true) (w:World):(sizeOf t).run P w=.ok (P.cellsOf t) w:=by
 obtain ⟨i,hi⟩:=info_of_known h
 simp [sizeOf,typeInfo,hi,Program.cellsOf]

theorem run_isAgg' {t:TypeId} (h:known P t=true) (w:World):(isAgg t).run P w=.ok (aggB P t) w:=by
 unfold known at h
 obtain ⟨d,hd⟩:=Option.isSome_iff_exists.1 h
 unfold isAgg aggB
 simp only [Sem.run_bind,run_underlying hd,Result.andThen_ok,hd]
 cases d <;> rfl

theorem add_none (b o n:Nat):(⟨b,o,none⟩:Addr).add n=⟨b,o+n,none⟩:=by unfold Addr.add; split <;> simp_all

def pack (P:Program) (t:TypeId) (cs:List AV):Option AV :=
 if known P t then
  if aggB P t then (if P.cellsOf t≤cs.length then some (.agg (cs.take (P.cellsOf t))) else none)
  else cs.head?
 else none

theorem getD_take (cs:List AV) (n j:Nat) (h:j<n):(cs.take n).getD j .any=cs.getD j .any:=by
 simp [List.getD,List.getElem?_take_of_lt h]

theorem run_loadVar' {t:TypeId} {w:World} {I N β} {b o:Nat} {cs:List AV} {av:AV} (hp:pack P t cs=some av)
  (h:∀ j,j<cs.length→∃ v,cellf w b (o+j)=some v∧Rel (cellf w) I N β (cs.getD j .any) v) :
  ∃ u,(loadVar t ⟨b,o,none⟩).run P w=.ok u w∧Rel (cellf w) I N β av u:=by
 unfold pack at hp
 by_cases hk:known P t=true
 ·simp only [hk,if_true] at hp
  by_cases ha:aggB P t=true
  ·simp only [ha,if_true] at hp
   split at hp
   ·rename_i hn
    cases hp
    let f:Nat→Value:=fun j=>if hj:j<cs.length then (h j hj).choose else undef
    have hf:∀ j,j<P.cellsOf t→w.cell? ((⟨b,o,none⟩:Addr).add j)=some (f j):=fun j hj=>by
     have hj':j<cs.length:=by omega
     rw [add_none]; simp only [f,hj',dif_pos]
     exact (h j hj').choose_spec.1
    refine ⟨.agg ((List.range (P.cellsOf t)).map f).toArray,?_,?_⟩
    ·simp only [loadVar,Sem.run_bind,run_isAgg' hk,Result.andThen_ok,ha,if_true,run_sizeOf' hk,run_loadCells w _ _ f hf,Sem.run_pure]
    ·refine .agg _ _ (by simp; omega) (fun j hj=>?_)
     have hj1:j<P.cellsOf t:=by simp at hj; omega
     have hj':j<cs.length:=by omega
     have e:((List.range (P.cellsOf t)).map f).toArray.getD j undef=f j:=by simp [Array.getD,hj1]
     rw [e,getD_take _ _ _ hj1]; simp only [f,hj',dif_pos]
     exact (h j hj').choose_spec.2
   ·cases hp
  ·simp only [ha] at hp
   cases cs with
   | nil=>simp at hp
   | cons x r =>
    simp at hp; subst hp
    obtain ⟨v,h1,h2⟩:=h 0 (by simp)
    refine ⟨v,?_,by simpa using h2⟩
    have h1':w.cell? ⟨b,o,none⟩=some v:=by simpa [cellf] using h1
    have ha':aggB P t=false:=by simpa using ha
    simp [loadVar,run_isAgg' hk,ha',h1']
 ·simp [hk] at hp

def scs:List AV→Option (List Value)
 | []=>some []
 | .sc v :: r=>(scs r).map (v :: ·)
 | _=>none
def toV:AV→Option Value
 | .sc v=>some v
 | .agg c=>(scs c).map fun l=>.agg l.toArray
 | _=>none
def ofV:Value→AV
 | .agg cs=>.agg (cs.toList.map .sc)
 | v=>.sc v

theorem scs_spec {c I N β}:∀ {cs:List AV} {l:List Value},scs cs=some l→∀ {vs:Array Value},vs.size=cs.length →
  (∀ j,j<cs.length→Rel c I N β (cs.getD j .any) (vs.getD j undef))→vs.toList=l:=by
 intro cs
 induction cs with
 | nil=>intro l h vs hn hv; simp [scs] at h; subst h; simpa using hn
 | cons x r ih =>
  intro l h vs hn hv
  cases x <;> simp [scs] at h
  rename_i v
  obtain ⟨l',h',rfl⟩:=h
  obtain ⟨L⟩:=vs
  cases L with
  | nil=>simp at hn
  | cons u L =>
   have h0:=hv 0 (by simp)
   simp [Array.getD] at h0
   cases h0
   have:=ih h' (vs:=L.toArray) (by simpa using hn) (fun j hj=>by
    have:=hv (j+1) (by simpa using hj)
    simp at hn
    have hj2:j<L.length:=by omega
    simpa [Array.getD,hj2] using this)
   simp at this
   simp [this]

theorem toV_spec {c I N β a u v} (h:toV a=some u) (hr:Rel c I N β a v):v=u:=by
 cases a <;> simp [toV] at h
 ·subst h; cases hr; rfl
 ·obtain ⟨l,hl,rfl⟩:=h
  cases hr with
  | agg cs vs hn hv =>
   have:=scs_spec hl hn hv
   rw [← this]

theorem ofV_rel (c I N β) (v:Value):Rel c I N β (ofV v) v:=by
 cases v with
 | agg cs=>exact .agg _ _ (by simp) (fun j hj=>by
   have hj':j<cs.size:=by simpa using hj
   have:(cs.toList.map AV.sc).getD j .any=.sc cs[j]:=by simp [List.getD,hj']
   rw [this]; simp [Array.getD,hj']; exact .sc _)
 | _=>exact .sc _

def _root_.Go.Sem.pv {α:Type} (P:Program):Sem α→Option α
 | .pure a=>some a
 | .program k=>(k P).pv P
 | .mark _ k=>k.pv P
 | _=>none
theorem run_of_pv {α:Type} {s:Sem α} {a:α} (h:s.pv P=some a) (w:World):s.run P w=.ok a w:=by
 induction s <;> simp_all [Sem.pv,Sem.run]

end Go.Lg

namespace Go.Lg
variable {P:Program}

def inR (k:IntKind) (z:Int):Prop:=k.min≤z∧z≤k.max
theorem wrap_inR {k:IntKind} {z:Int} (h:inR k z):k.wrap z=z:=by
 unfold inR at h
 cases k <;> simp [IntKind.min,IntKind.max,IntKind.signed,IntKind.bits] at h
 ·exact IntWalk.i8_in _ (by omega)
 ·exact IntWalk.i16_in _ (by omega)
 ·exact IntWalk.i32_in _ (by omega)
 ·exact IntWalk.i64_in _ (by omega)
 ·exact IntWalk.u8_in _ (by omega)
 ·exact IntWalk.u16_in _ (by omega)
 ·exact IntWalk.u32_in _ (by omega)
 ·exact IntWalk.u64_in _ (by omega)

def aBinGen (P:Program) (op:BinOp) (t:TypeId) (x y:Operand) (a b:AV) (v:AV):Prop :=
 ∃ va vb u,toV a=some va∧toV b=some vb∧(do eqGuard op t x y va vb; binOp op t va vb:Sem Value).pv P=some u∧v=ofV u

def aBinInt (P:Program) (op:BinOp) (t:TypeId) (x y:Operand) (k:IntKind) (m:Int) (k':IntKind) (n:Int) (v:AV):Prop :=
 match op with
 | .add=>k'=k∧v=.sc (.int k (k.wrap (m+n)))
 | .sub=>k'=k∧v=.sc (.int k (k.wrap (m - n)))
 | .mul=>k'=k∧v=.sc (.int k (k.wrap (m*n)))
 | .quo=>k'=k∧n≠0∧inR k (m.tdiv n)∧v=.sc (.int k (m.tdiv n))
 | .rem=>k'=k∧n≠0∧v=.sc (.int k (m.tmod n))
 | .eql=>k'=k∧v=.sc (.bool (decide (m=n)))
 | .neq=>k'=k∧v=.sc (.bool (!decide (m=n)))
 | .lss=>k'=k∧v=.sc (.bool (decide (m<n)))
 | .leq=>k'=k∧v=.sc (.bool (decide (m≤n)))
 | .gtr=>k'=k∧v=.sc (.bool (decide (n<m)))
 | .geq=>k'=k∧v=.sc (.bool (decide (n≤m)))
 | op=>aBinGen P op t x y (.sc (.int k m)) (.sc (.int k' n)) v

def aBin (P:Program) (op:BinOp) (t:TypeId) (x y:Operand) (a b:AV) (v:AV):Prop :=
 match a,b with
 | .sc (.int k m),.sc (.int k' n)=>aBinInt P op t x y k m k' n v
 | a,b=>aBinGen P op t x y a b v

theorem eqGuard_int (op:BinOp) (t:TypeId) (x y:Operand) (k k':IntKind) (m n:Int) (w:World) :
  (eqGuard op t x y (.int k m) (.int k' n)).run P w=.ok () w:=by
 unfold eqGuard
 cases op <;> rfl

theorem aBinGen_run {op t x y a b v} {c I N β va vb} (h:aBinGen P op t x y a b v) (ha:Rel c I N β a va) (hb:Rel c I N β b vb) (w:World) :
  ∃ u,(do eqGuard op t x y va vb; binOp op t va vb:Sem Value).run P w=.ok u w∧∀ c I N β,Rel c I N β v u:=by
 obtain ⟨va',vb',u,h1,h2,h3,rfl⟩:=h
 have e1:=toV_spec h1 ha
 have e2:=toV_spec h2 hb
 subst e1 e2
 exact ⟨u,run_of_pv h3 w,fun _ _ _ _=>ofV_rel _ _ _ _ _⟩

theorem aBin_run {op t x y a b v} {c I N β va vb} (h:aBin P op t x y a b v) (ha:Rel c I N β a va) (hb:Rel c I N β b vb) (w:World) :
  ∃ u,(do eqGuard op t x y va vb; binOp op t va vb:Sem Value).run P w=.ok u w∧∀ c I N β,Rel c I N β v u:=by
 unfold aBin at h
 split at h
 ·rename_i k m k' n
  cases ha; cases hb
  cases op <;> simp only [aBinInt] at h
  case add=>obtain ⟨rfl,rfl⟩:=h; exact ⟨_,by simp [eqGuard_int,binOp,Op.intArith],fun _ _ _ _=>.sc _⟩
  case sub=>obtain ⟨rfl,rfl⟩:=h; exact ⟨_,by simp [eqGuard_int,binOp,Op.intArith],fun _ _ _ _=>.sc _⟩
  case mul=>obtain ⟨rfl,rfl⟩:=h; exact ⟨_,by simp [eqGuard_int,binOp,Op.intArith],fun _ _ _ _=>.sc _⟩
  case quo=>obtain ⟨rfl,hn,hr,rfl⟩:=h; exact ⟨_,by simp [eqGuard_int,binOp,Op.intDiv,hn,wrap_inR hr],fun _ _ _ _=>.sc _⟩
  case rem=>obtain ⟨rfl,hn,rfl⟩:=h; exact ⟨_,by simp [eqGuard_int,binOp,Op.intDiv,hn],fun _ _ _ _=>.sc _⟩
  case eql=>obtain ⟨rfl,rfl⟩:=h; exact ⟨.bool (decide (m=n)),by simp [eqGuard_int,binOp,Op.intCmp]; rfl,fun _ _ _ _=>.sc _⟩
  case neq=>obtain ⟨rfl,rfl⟩:=h; exact ⟨.bool (!decide (m=n)),by simp [eqGuard_int,binOp,Op.intCmp]; rfl,fun _ _ _ _=>.sc _⟩
  case lss=>obtain ⟨rfl,rfl⟩:=h; exact ⟨.bool (decide (m<n)),by simp [eqGuard_int,binOp,Op.intCmp],fun _ _ _ _=>.sc _⟩
  case leq=>obtain ⟨rfl,rfl⟩:=h; exact ⟨.bool (decide (m≤n)),by simp [eqGuard_int,binOp,Op.intCmp],fun _ _ _ _=>.sc _⟩
  case gtr=>obtain ⟨rfl,rfl⟩:=h; exact ⟨.bool (decide (n<m)),by simp [eqGuard_int,binOp,Op.intCmp],fun _ _ _ _=>.sc _⟩
  case geq=>obtain ⟨rfl,rfl⟩:=h; exact ⟨.bool (decide (n≤m)),by simp [eqGuard_int,binOp,Op.intCmp],fun _ _ _ _=>.sc _⟩
  all_goals exact aBinGen_run (c:=c) (I:=I) (N:=N) (β:=β) h (.sc _) (.sc _) w
 ·exact aBinGen_run h ha hb w

def aLoad (P:Program) (t:TypeId) (x:AV) (ρ:Store) (v:AV):Prop :=
 match x with
 | .ptr r i j=>∃ R,ρ[r]?=some (some R)∧i<R.els.length∧pack P t ((R.els.getD i .any).cells.drop j)=some v
 | .iptr cs=>pack P t cs=some v
 | _=>False

def aFieldAddr (P:Program) (s:TypeId) (x:AV) (f:Nat) (v:AV):Prop :=
 match P.underlying s with
 | some (.struct fs)=>match fs[f]? with
  | some fd=>known P fd.type=true∧P.cellsOf fd.type≠0∧(match x with
   | .ptr r i j=>v=.ptr r i (j+fd.offset)
   | .iptr cs=>v=.iptr (cs.drop fd.offset)
   | _=>False)
  | none=>False
 | _=>False

def aField (P:Program) (s:TypeId) (x:AV) (f:Nat) (v:AV):Prop :=
 match P.underlying s with
 | some (.struct fs)=>match fs[f]? with
  | some fd=>(match x with
   | .agg cs=>pack P fd.type (cs.drop fd.offset)=some v
   | _=>False)
  | none=>False
 | _=>False

def aIndexAddr (P:Program) (t:TypeId) (x i:AV) (ρ:Store) (v:AV):Prop :=
 match i with
 | .sc (.int _ n)=>match P.underlying t with
  | some (.slice e)=>known P e=true∧(match x with
   | .isl sz L=>P.cellsOf e=sz∧0≤n∧n<L.length∧v=.iptr (L.getD n.toNat .any).cells
   | .sl r o m=>∃ R,ρ[r]?=some (some R)∧R.sz=P.cellsOf e∧0≤n∧n<m∧v=.ptr r (o+n.toNat) 0
   | .sub r i j sz m=>P.cellsOf e=sz∧0≤n∧n<m∧v=.ptr r i (j+n.toNat*sz)
   | _=>False)
  | some (.array len e)=>known P e=true∧0≤n∧n<len∧(match x with
   | .ptr r i j=>v=.ptr r i (j+n.toNat*P.cellsOf e)
   | .iptr cs=>v=.iptr (cs.drop (n.toNat*P.cellsOf e))
   | _=>False)
  | _=>False
 | _=>False

def aIndex (P:Program) (t:TypeId) (x i:AV) (v:AV):Prop :=
 match i with
 | .sc (.int _ n)=>match P.underlying t with
  | some (.array len e)=>known P e=true∧0≤n∧n<len∧(match x with
   | .agg cs=>pack P e (cs.drop (n.toNat*P.cellsOf e))=some v
   | _=>False)
  | some .string=>(match x with
   | .sc (.string s)=>∃ b,0≤n∧s[n.toNat]?=some b∧v=.sc (.int .u8 b.toNat)
   | _=>False)
  | _=>False
 | _=>False

def boundOf (b:Option AV) (dflt:Int):Option Int:=match b with
 | none=>some dflt
 | some (.sc (.int _ n))=>some n
 | _=>none

def aSlice (P:Program) (t:TypeId) (x:AV) (lo hi:Option AV) (v:AV):Prop :=
 match P.underlying t with
 | some (.slice e)=>known P e=true∧(match x with
  | .isl sz L=>P.cellsOf e=sz∧∃ l h,boundOf lo 0=some l∧boundOf hi L.length=some h∧0≤l∧l≤h∧h≤L.length∧v=.isl sz ((L.take h.toNat).drop l.toNat)
  | .sl r o n=>∃ l h,boundOf lo 0=some l∧boundOf hi n=some h∧0≤l∧l≤h∧h≤n∧v=.sl r (o+l.toNat) (h - l).toNat
  | .sub r i j sz n=>P.cellsOf e=sz∧∃ l h,boundOf lo 0=some l∧boundOf hi n=some h∧0≤l∧l≤h∧h≤n∧v=.sub r i (j+l.toNat*sz) sz (h - l).toNat
  | _=>False)
 | some (.array len e)=>known P e=true∧∃ l h,boundOf lo 0=some l∧boundOf hi len=some h∧0≤l∧l≤h∧h≤len∧(match x with
  | .ptr r i j=>v=.sub r i (j+l.toNat*P.cellsOf e) (P.cellsOf e) (h - l).toNat
  | .iptr cs=>len*P.cellsOf e≤cs.length∧v=.isl (P.cellsOf e) ((List.range (h - l).toNat).map fun k=>.agg ((cs.drop ((l.toNat+k)*P.cellsOf e)).take (P.cellsOf e)))
  | _=>False)
 | _=>False

def sl3 (P:Program) (t:TypeId) (hi mx:Option AV):Prop :=
 (∃ e,P.underlying t=some (.slice e))∧∃ k k' z,hi=some (.sc (.int k z))∧mx=some (.sc (.int k' z))

theorem cells_of_ptr {w F I β ρ} (hs:SR w F I β ρ) {r i R l} (hr:ρ[r]?=some (some R)) (hl:β r=some l) (hi:i<R.els.length) (j:Nat) :
  ∀ k,k<((R.els.getD i .any).cells.drop j).length→∃ v,cellf w l.b (l.off+i*l.sz+j+k)=some v∧Rel (cellf w) I ρ.length β (((R.els.getD i .any).cells.drop j).getD k .any) v:=by
 intro k hk
 obtain ⟨hz,hc⟩:=hs.cells r R l hr hl i hi
 have e:=(hs.real r R l hr hl).1
 simp at hk
 obtain ⟨v,h1,h2⟩:=hc (j+k) (by simp at hz; omega)
 refine ⟨v,?_,?_⟩
 ·rw [e,Nat.add_assoc]; exact h1
 ·have:((R.els.getD i .any).cells.drop j).getD k .any=(R.els.getD i .any).cells.getD (j+k) .any:=by simp [List.getD,List.getElem?_drop]
  rw [this]; exact h2

theorem aLoad_run {t x ρ v} {w F I β vx} (h:aLoad P t x ρ v) (hs:SR w F I β ρ) (hx:Rel (cellf w) I ρ.length β x vx) :
  ∃ u,(Instr.loadAt t vx).run P w=.ok u w∧Rel (cellf w) I ρ.length β v u:=by
 unfold aLoad at h
 split at h
 ·rename_i r i j
  obtain ⟨R,hR,hi,hp⟩:=h
  cases hx with
  | ptr _ _ _ l hr hl =>
   have:=run_loadVar' (P:=P) hp (cells_of_ptr hs hR hl hi j)
   simpa [Instr.loadAt,Instr.sureAddr] using this
 ·rename_i cs
  cases hx with
  | iptr _ b off vs hb hc hv =>
   have:=run_loadVar' (P:=P) (w:=w) (b:=b) (o:=off) h (fun j hj=>⟨vs j,hc j hj,hv j hj⟩)
   simpa [Instr.loadAt,Instr.sureAddr] using this
 ·exact h.elim

theorem aFieldAddr_run {s x f v} {w:World} {I N β vx} (h:aFieldAddr P s x f v) (hx:Rel (cellf w) I N β x vx) :
  ∃ u,(Instr.fieldAt s vx f).run P w=.ok u w∧Rel (cellf w) I N β v u:=by
 unfold aFieldAddr at h
 split at h
 ·rename_i fs hu
  split at h
  ·rename_i fd hf
   obtain ⟨hk,hz,h⟩:=h
   have key:∀ b o,(Instr.fieldAt s (.pointer (some ⟨b,o,none⟩)) f).run P w=.ok (.pointer (some ⟨b,o+fd.offset,none⟩)) w:=by
    intro b o
    simp [Instr.fieldAt,run_underlying hu,hf,Instr.sureAddr,fieldPlace,run_sizeOf' hk,hz,add_none]
   split at h
   ·subst h
    cases hx with
    | ptr _ _ _ l hr hl=>exact ⟨_,key _ _,by rw [Nat.add_assoc]; exact .ptr _ _ _ l hr hl⟩
   ·subst h
    cases hx with
    | iptr cs b off vs hb hc hv =>
     refine ⟨_,key _ _,?_⟩
     refine .iptr _ b (off+fd.offset) (fun j=>vs (fd.offset+j)) hb (fun j hj=>?_) (fun j hj=>?_)
     ·simp at hj; rw [Nat.add_assoc]; exact hc _ (by omega)
     ·simp at hj
      have:=hv (fd.offset+j) (by omega)
      simpa [List.getD,List.getElem?_drop] using this
   ·exact h.elim
  ·exact h.elim
 ·exact h.elim

theorem run_part' {t:TypeId} {w:World} {c I N β} {cs:List AV} {vs:Array Value} {off:Nat} {av:AV} (hn:vs.size=cs.length)
  (hv:∀ j,j<cs.length→Rel c I N β (cs.getD j .any) (vs.getD j undef)) (hp:pack P t (cs.drop off)=some av) :
  ∃ u,(part t vs off).run P w=.ok u w∧Rel c I N β av u:=by
 unfold pack at hp
 by_cases hk:known P t=true
 ·simp only [hk,if_true] at hp
  by_cases ha:aggB P t=true
  ·simp only [ha,if_true] at hp
   split at hp
   ·rename_i hl
    cases hp
    refine ⟨.agg (vs.extract off (off+P.cellsOf t)),by simp [part,run_isAgg' hk,ha,run_sizeOf' hk],?_⟩
    simp at hl
    by_cases h0:P.cellsOf t=0
    ·rw [h0]; exact .agg _ _ (by simp; omega) (fun j hj=>by simp at hj)
    refine .agg _ _ (by simp; omega) (fun j hj=>?_)
    simp at hj
    have:=hv (off+j) (by omega)
    have e1:((cs.drop off).take (P.cellsOf t)).getD j .any=cs.getD (off+j) .any:=by
     rw [getD_take _ _ _ (by omega)]; simp [List.getD,List.getElem?_drop]
    have e2:(vs.extract off (off+P.cellsOf t)).getD j undef=vs.getD (off+j) undef:=by
     have a1:j<(vs.extract off (off+P.cellsOf t)).size:=by simp; omega
     have a2:off+j<vs.size:=by omega
     unfold Array.getD
     rw [dif_pos a1,dif_pos a2]
     simp
    rw [e1,e2]; exact this
   ·cases hp
  ·have ha':aggB P t=false:=by simpa using ha
   simp only [ha'] at hp
   have hlt:off<cs.length:=by
    by_cases hlt:off<cs.length
    ·exact hlt
    ·rw [List.drop_eq_nil_of_le (by omega)] at hp; simp at hp
   have hp':cs[off]?=some av:=by simpa [List.head?_drop] using hp
   have:=hv off hlt
   have e1:cs.getD off .any=av:=by simp [List.getD,hp']
   have hlt2:off<vs.size:=by omega
   refine ⟨vs[off],by simp [part,run_isAgg' hk,ha',hlt2],?_⟩
   rw [e1] at this
   simpa [Array.getD,hlt2] using this
 ·simp [hk] at hp

theorem aField_run {s x f v} {w:World} {c I N β vx} (h:aField P s x f v) (hx:Rel c I N β x vx) :
  ∃ u,(Instr.field s vx f).run P w=.ok u w∧Rel c I N β v u:=by
 unfold aField at h
 split at h
 ·rename_i fs hu
  split at h
  ·rename_i fd hf
   split at h
   ·cases hx with
    | agg cs vs hn hv =>
     have:=run_part' (w:=w) hn hv h
     simpa [Instr.field,run_underlying hu,hf,asAgg] using this
   ·exact h.elim
  ·exact h.elim
 ·exact h.elim

end Go.Lg
