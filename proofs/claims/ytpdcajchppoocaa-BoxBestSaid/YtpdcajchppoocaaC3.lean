import Derived.Test.YtpdcajchppoocaaC1
set_option linter.unusedVariables false
set_option linter.unusedSimpArgs false
namespace Go.Lg

inductive Dg where
 | d0 | d1 | d2 | d3 | d4 | d5 | d6 | d7
 deriving DecidableEq
inductive Tr (α:Type) where
 | nil
 | leaf (v:α)
 | node (a0 a1 a2 a3 a4 a5 a6 a7:Tr α)

def dg (n:Nat):Dg:=match n with
 | 0=>.d0 | 1=>.d1 | 2=>.d2 | 3=>.d3 | 4=>.d4 | 5=>.d5 | 6=>.d6 | _=>.d7
def path:Nat→Nat→List Dg
 | 0,_=>[]
 | D+1,n=>dg (Nat.mod n 8) :: path D (Nat.div n 8)
theorem dg_inj {a b:Nat} (ha:a<8) (hb:b<8) (h:dg a=dg b):a=b:=by
 have e:∀ x,x<8→x=0∨x=1∨x=2∨x=3∨x=4∨x=5∨x=6∨x=7:=by omega
 rcases e a ha with rfl | rfl | rfl | rfl | rfl | rfl | rfl | rfl <;> rcases e b hb with rfl | rfl | rfl | rfl | rfl | rfl | rfl | rfl <;> first | rfl | cases h
theorem path_length:∀ (D n:Nat),(path D n).length=D
 | 0,_=>rfl
 | D+1,n=>by simp [path,path_length D]
theorem path_inj:∀ {D a b:Nat},a<8 ^ D→b<8 ^ D→path D a=path D b→a=b
 | 0,a,b,ha,hb,_=>by simp at ha hb; omega
 | D+1,a,b,ha,hb,h=>by
  rw [Nat.pow_succ] at ha hb
  simp only [path,List.cons.injEq] at h
  have h1:=dg_inj (Nat.mod_lt _ (by omega)) (Nat.mod_lt _ (by omega)) h.1
  have h2:=path_inj (D:=D) (a:=a / 8) (b:=b / 8) (by omega) (by omega) h.2
  have h1:a % 8=b % 8:=h1
  omega

variable {α:Type}
noncomputable def Dg.pick (c:Dg) (a0 a1 a2 a3 a4 a5 a6 a7:Tr α):Tr α:=Dg.rec (motive:=fun _=>Tr α) a0 a1 a2 a3 a4 a5 a6 a7 c
noncomputable def Tr.get (d:α) (p:List Dg):Tr α→α :=
 List.rec (motive:=fun _=>Tr α→α) (fun t=>Tr.rec (motive:=fun _=>α) d (fun v=>v) (fun _ _ _ _ _ _ _ _ _ _ _ _ _ _ _ _=>d) t)
  (fun c _ ih t=>Tr.rec (motive:=fun _=>α) d (fun _=>d) (fun a0 a1 a2 a3 a4 a5 a6 a7 _ _ _ _ _ _ _ _=>ih (Dg.rec (motive:=fun _=>Tr α) a0 a1 a2 a3 a4 a5 a6 a7 c)) t) p
noncomputable def Dg.put (c:Dg) (x:Tr α) (a0 a1 a2 a3 a4 a5 a6 a7:Tr α):Tr α:=Dg.rec (motive:=fun _=>Tr α)
 (.node x a1 a2 a3 a4 a5 a6 a7)
 (.node a0 x a2 a3 a4 a5 a6 a7)
 (.node a0 a1 x a3 a4 a5 a6 a7)
 (.node a0 a1 a2 x a4 a5 a6 a7)
 (.node a0 a1 a2 a3 x a5 a6 a7)
 (.node a0 a1 a2 a3 a4 x a6 a7)
 (.node a0 a1 a2 a3 a4 a5 x a7)
 (.node a0 a1 a2 a3 a4 a5 a6 x) c
noncomputable def Tr.set (v:α) (p:List Dg):Tr α→Tr α :=
 List.rec (motive:=fun _=>Tr α→Tr α) (fun _=>.leaf v)
  (fun c _ ih t=>Tr.rec (motive:=fun _=>Tr α)
   (Dg.put c (ih .nil) .nil .nil .nil .nil .nil .nil .nil .nil)
   (fun _=>Dg.put c (ih .nil) .nil .nil .nil .nil .nil .nil .nil .nil)
   (fun a0 a1 a2 a3 a4 a5 a6 a7 _ _ _ _ _ _ _ _=>Dg.put c (ih (Dg.pick c a0 a1 a2 a3 a4 a5 a6 a7)) a0 a1 a2 a3 a4 a5 a6 a7) t) p
noncomputable def Dg.putK {β:Type} (c:Dg) (x:Tr α) (k:Tr α→β) (a0 a1 a2 a3 a4 a5 a6 a7:Tr α):β:=Dg.rec (motive:=fun _=>β)
  (k (.node x a1 a2 a3 a4 a5 a6 a7))
  (k (.node a0 x a2 a3 a4 a5 a6 a7))
  (k (.node a0 a1 x a3 a4 a5 a6 a7))
  (k (.node a0 a1 a2 x a4 a5 a6 a7))
  (k (.node a0 a1 a2 a3 x a5 a6 a7))
  (k (.node a0 a1 a2 a3 a4 x a6 a7))
  (k (.node a0 a1 a2 a3 a4 a5 x a7))
  (k (.node a0 a1 a2 a3 a4 a5 a6 x)) c
noncomputable def Tr.setK {β:Type} (v:α) (p:List Dg):Tr α→(Tr α→β)→β :=
 List.rec (motive:=fun _=>Tr α→(Tr α→β)→β) (fun _ k=>k (.leaf v))
  (fun c _ ih t k=>Tr.rec (motive:=fun _=>β)
   (ih .nil fun x=>Dg.putK c x k .nil .nil .nil .nil .nil .nil .nil .nil)
   (fun _=>ih .nil fun x=>Dg.putK c x k .nil .nil .nil .nil .nil .nil .nil .nil)
   (fun a0 a1 a2 a3 a4 a5 a6 a7 _ _ _ _ _ _ _ _=>ih (Dg.rec (motive:=fun _=>Tr α) a0 a1 a2 a3 a4 a5 a6 a7 c) fun x=>Dg.putK c x k a0 a1 a2 a3 a4 a5 a6 a7) t) p
theorem putK_eq {β:Type} (c:Dg) (x:Tr α) (k:Tr α→β) (a0 a1 a2 a3 a4 a5 a6 a7:Tr α):Dg.putK c x k a0 a1 a2 a3 a4 a5 a6 a7=k (Dg.put c x a0 a1 a2 a3 a4 a5 a6 a7):=by cases c <;> rfl
theorem Tr.setK_eq {β:Type} (v:α):∀ (p:List Dg) (t:Tr α) (k:Tr α→β),Tr.setK v p t k=k (Tr.set v p t)
 | [],t,k=>rfl
 | c :: p,t,k=>by
  have ih:=Tr.setK_eq (β:=β) v p
  cases t with
  | nil =>
   show Tr.setK v p .nil (fun x=>Dg.putK c x k .nil .nil .nil .nil .nil .nil .nil .nil)=k (Dg.put c (Tr.set v p .nil) .nil .nil .nil .nil .nil .nil .nil .nil)
   rw [ih,putK_eq]
  | leaf a =>
   show Tr.setK v p .nil (fun x=>Dg.putK c x k .nil .nil .nil .nil .nil .nil .nil .nil)=k (Dg.put c (Tr.set v p .nil) .nil .nil .nil .nil .nil .nil .nil .nil)
   rw [ih,putK_eq]
  | node a0 a1 a2 a3 a4 a5 a6 a7 =>
   show Tr.setK v p (Dg.pick c a0 a1 a2 a3 a4 a5 a6 a7) (fun x=>Dg.putK c x k a0 a1 a2 a3 a4 a5 a6 a7)=k (Dg.put c (Tr.set v p (Dg.pick c a0 a1 a2 a3 a4 a5 a6 a7)) a0 a1 a2 a3 a4 a5 a6 a7)
   rw [ih,putK_eq]
theorem Tr.get_nil (d:α) (p:List Dg):Tr.get d p .nil=d:=by cases p <;> rfl
theorem Tr.get_node (d:α) (c:Dg) (p:List Dg) (a0 a1 a2 a3 a4 a5 a6 a7:Tr α):Tr.get d (c :: p) (.node a0 a1 a2 a3 a4 a5 a6 a7)=Tr.get d p (Dg.pick c a0 a1 a2 a3 a4 a5 a6 a7):=rfl
theorem Tr.get_put (d:α) (c e:Dg) (p:List Dg) (x:Tr α) (a0 a1 a2 a3 a4 a5 a6 a7:Tr α):Tr.get d (c :: p) (Dg.put e x a0 a1 a2 a3 a4 a5 a6 a7)=if c=e then Tr.get d p x else Tr.get d p (Dg.pick c a0 a1 a2 a3 a4 a5 a6 a7):=by
 cases e <;> cases c <;> rfl
theorem Dg.pick_nil (c:Dg):Dg.pick c .nil .nil .nil .nil .nil .nil .nil .nil=(.nil:Tr α):=by cases c <;> rfl
theorem Tr.get_setP (d:α) (v:α):∀ (p q:List Dg) (t:Tr α),p.length=q.length→Tr.get d q (Tr.set v p t)=if q=p then v else Tr.get d q t
 | [],[],t,_=>by simp; rfl
 | [],_ :: _,t,h=>by simp at h
 | _ :: _,[],t,h=>by simp at h
 | c :: p,e :: q,t,h=>by
  have hl:p.length=q.length:=by simpa using h
  have ih:=fun t=>Tr.get_setP d v p q t hl
  have fresh:Tr.get d (e :: q) (Dg.put c (Tr.set v p .nil) .nil .nil .nil .nil .nil .nil .nil .nil)=if e :: q=c :: p then v else d:=by
   rw [Tr.get_put,ih,Tr.get_nil,Dg.pick_nil,Tr.get_nil]
   by_cases h1:e=c <;> by_cases h2:q=p <;> simp [h1,h2]
  cases t with
  | nil=>rw [Tr.get_nil]; exact fresh
  | leaf a=>exact fresh
  | node a0 a1 a2 a3 a4 a5 a6 a7 =>
   show Tr.get d (e :: q) (Dg.put c (Tr.set v p (Dg.pick c a0 a1 a2 a3 a4 a5 a6 a7)) a0 a1 a2 a3 a4 a5 a6 a7)=_
   rw [Tr.get_put,Tr.get_node,ih]
   by_cases h1:e=c
   ·subst h1
    by_cases h2:q=p <;> simp [h2]
   ·simp [h1]
theorem Tr.get_set (d:α) (v:α) (D:Nat) (t:Tr α) (n i:Nat) (hn:n<8 ^ D) (hi:i<8 ^ D):Tr.get d (path D i) (Tr.set v (path D n) t)=if i=n then v else Tr.get d (path D i) t:=by
 rw [Tr.get_setP d v _ _ _ (by rw [path_length,path_length])]
 by_cases h:i=n
 ·subst h; simp
 ·rw [if_neg (fun e=>h (path_inj hi hn e)),if_neg h]

def forceNat {β:Type} (n:Nat) (k:Nat→β):β:=match n with
 | 0=>k 0
 | m+1=>k (Nat.succ m)
theorem forceNat_eq {β:Type} (n:Nat) (k:Nat→β):forceNat n k=k n:=by cases n <;> rfl

def dep (n:Nat):Nat:=if Nat.ble n 64 then 2 else 3
theorem dep_spec {n:Nat} (h:n≤512):n≤8 ^ dep n:=by
 unfold dep
 split
 ·rename_i h1; simp at h1; simpa using h1
 ·simpa using h
noncomputable def fget (n:Nat) (t:Tr AV) (i:Nat):AV:=Bool.rec (motive:=fun _=>AV) .any (Tr.get .any (path (dep n) i) t) (Nat.blt i n)
noncomputable def fset (n:Nat) (t:Tr AV) (i:Nat) (v:AV):Tr AV:=Bool.rec (motive:=fun _=>Tr AV) t (Tr.set v (path (dep n) i) t) (Nat.blt i n)
noncomputable def fL (n:Nat) (t:Tr AV):List AV:=(List.range n).map (fget n t)
theorem blt_iff (a b:Nat):Nat.blt a b=decide (a<b):=by
 rw [Bool.eq_iff_iff]; simp [Nat.blt_eq]
theorem fget_ge {n i:Nat} (t:Tr AV) (h:n≤i):fget n t i=.any:=by
 unfold fget; rw [blt_iff,show decide (i<n)=false by simp; omega]
theorem fL_get (n:Nat) (t:Tr AV) (i:Nat):(fL n t).getD i .any=fget n t i:=by
 by_cases h:i<n
 ·simp [fL,List.getD,h]
 ·rw [fget_ge t (by omega)]; simp [fL,List.getD,h]
theorem fL_set {n:Nat} (hn:n≤512) (t:Tr AV) (i:Nat) (v:AV):(fL n t).set i v=fL n (fset n t i v):=by
 apply List.ext_getElem
 ·simp [fL]
 ·intro j h1 h2
  have hj:j<n:=by simpa [fL] using h2
  have hd:=dep_spec hn
  have e1:(fL n (fset n t i v))[j]=fget n (fset n t i v) j:=by simp [fL]
  rw [e1]
  by_cases hi:i<n
  ·have hset:fset n t i v=Tr.set v (path (dep n) i) t:=by unfold fset; rw [blt_iff,decide_eq_true hi]
   have hget:∀ t:Tr AV,fget n t j=Tr.get .any (path (dep n) j) t:=fun t=>by unfold fget; rw [blt_iff,decide_eq_true hj]
   rw [hset,hget,Tr.get_set .any v (dep n) t i j (by omega) (by omega)]
   by_cases e:i=j
   ·subst e; simp
   ·rw [List.getElem_set_ne e,if_neg (fun h=>e h.symm),← hget]; simp [fL]
  ·have hset:fset n t i v=t:=by unfold fset; rw [blt_iff,show decide (i<n)=false by simpa using hi]
   rw [hset,List.getElem_set_ne (by omega)]; simp [fL]

noncomputable def frm (n:Nat) (args:List AV) (i:Nat) (t:Tr AV):Tr AV:=List.rec (motive:=fun _=>Nat→Tr AV→Tr AV) (fun _ t=>t) (fun x _ ih i t=>ih (i+1) (fset n t i x)) args i t
theorem frm_spec {n:Nat} (hn:n≤512):∀ (args:List AV) (pre:List AV) (t:Tr AV),(pre.length+args.length≤n)→fL n t=pre ++ List.replicate (n - pre.length) .any →
  fL n (frm n args pre.length t)=pre ++ args ++ List.replicate (n - pre.length - args.length) .any
 | [],pre,t,h,ht=>by show fL n t=_; simpa using ht
 | x :: args,pre,t,h,ht=>by
  simp only [List.length_cons] at h
  show fL n (frm n args (pre.length+1) (fset n t pre.length x))=_
  have:=frm_spec hn args (pre ++ [x]) (fset n t pre.length x) (by simp; omega) (by
   rw [← fL_set hn,ht]
   rw [show n - pre.length=n - (pre ++ [x]).length+1 by simp; omega,List.replicate_succ]
   simp)
  simp only [List.length_append,List.length_singleton] at this
  rw [this]
  simp only [List.append_assoc,List.singleton_append,List.length_cons]
  rw [show n - (pre.length+1) - args.length=n - pre.length - (args.length+1) by omega]
theorem frm_eq {n:Nat} (hn:n≤512) (args:List AV) (h:args.length≤n):fL n (frm n args 0 .nil)=args ++ List.replicate (n - args.length) .any:=by
 have:=frm_spec hn args [] .nil (by simpa using h) (by
  apply List.ext_getElem
  ·simp [fL]
  ·intro i h1 h2
   simp only [fL,List.getElem_map,List.getElem_range]
   simp only [List.nil_append,List.length_nil,Nat.sub_zero,List.getElem_replicate]
   unfold fget
   rw [Tr.get_nil]
   cases Nat.blt i n <;> rfl)
 simpa using this

structure RowT where
 n:Nat
 lo:Nat
 t:Tr (Option Root)
noncomputable def RowT.L (S:RowT):Store:=(List.range S.n).map (fun r=>Tr.get none (path 3 r) S.t)
noncomputable def RowT.row (S:RowT) (r:Nat):Option Root:=Bool.rec (motive:=fun _=>Option Root) none (Tr.get none (path 3 r) S.t) (Nat.blt r S.n)
theorem RowT.length (S:RowT):S.L.length=S.n:=by simp [RowT.L]
theorem RowT.row_lt {S:RowT} {r:Nat} {R:Root} (h:S.row r=some R):r<S.n:=by
 unfold RowT.row at h
 rw [blt_iff] at h
 by_cases hr:r<S.n
 ·exact hr
 ·rw [decide_eq_false hr] at h; cases h
theorem RowT.get {S:RowT} {r:Nat} {R:Root} (h:S.row r=some R):S.L[r]?=some (some R):=by
 have hr:=RowT.row_lt h
 unfold RowT.row at h
 rw [blt_iff,decide_eq_true hr] at h
 simp [RowT.L,hr]; exact h
noncomputable def minN (a b:Nat):Nat:=Bool.rec (motive:=fun _=>Nat) b a (Nat.ble a b)
noncomputable def RowT.set (S:RowT) (r:Nat) (x:Option Root):RowT:=⟨S.n,minN S.lo r,Tr.set x (path 3 r) S.t⟩
theorem RowT.set_L {S:RowT} (hn:S.n≤512) {r:Nat} (hr:r<S.n) (x:Option Root):(S.set r x).L=S.L.set r x:=by
 apply List.ext_getElem
 ·simp [RowT.L,RowT.set]
 ·intro i h1 h2
  have hi:i<S.n:=by simpa [RowT.L,RowT.set] using h1
  simp only [RowT.L,RowT.set,List.getElem_map,List.getElem_range]
  rw [Tr.get_set none x 3 S.t r i (by omega) (by omega)]
  by_cases e:r=i
  ·subst e; simp
  ·rw [if_neg (fun h=>e h.symm),List.getElem_set_ne e]; simp
noncomputable def RowT.push (S:RowT) (x:Option Root):RowT:=⟨Nat.succ S.n,S.lo,Tr.set x (path 3 S.n) S.t⟩
theorem RowT.push_L {S:RowT} (hn:S.n<512) (x:Option Root):(S.push x).L=S.L ++ [x]:=by
 apply List.ext_getElem
 ·simp [RowT.L,RowT.push]
 ·intro i h1 h2
  have hi:i<S.n+1:=by simpa [RowT.L,RowT.push] using h1
  simp only [RowT.L,RowT.push,List.getElem_map,List.getElem_range]
  rw [Tr.get_set none x 3 S.t S.n i (by omega) (by omega)]
  by_cases e:i=S.n
  ·subst e; simp
  ·rw [if_neg e,List.getElem_append_left (by simp; omega)]; simp

structure Good (X Y:RowT):Prop where
 le:X.n≤Y.n
 lo:Y.lo≤X.lo
 same:∀ r,r<X.n→r<Y.lo→Tr.get none (path 3 r) Y.t=Tr.get none (path 3 r) X.t
 ok:Y.n≤512
end Go.Lg

namespace Go.Lg
open Go.RowKit
variable {P:Program}


section force
variable {β:Type}
def forceL {α:Type} (f:α→(α→β)→β):List α→(List α→β)→β
 | [],k=>k []
 | x :: xs,k=>f x fun x=>forceL f xs fun xs=>k (x :: xs)
theorem forceL_eq {α:Type} {f:α→(α→β)→β} (hf:∀ x k,f x k=k x):∀ (l:List α) (k:List α→β),forceL f l k=k l
 | [],k=>rfl
 | x :: xs,k=>by simp [forceL,hf,forceL_eq hf xs]
end force

def inRb (K:IntKind) (z:Int):Bool:=match K with
 | .i64=>(match z with
  | .ofNat n=>Nat.blt n 9223372036854775808
  | .negSucc n=>Nat.blt n 9223372036854775808)
 | K=>decide (K.min≤z) && decide (z≤K.max)
def kindEq (K K':IntKind):Bool:=match K,K' with
 | .i64,.i64=>true
 | K,K'=>decide (K=K')
theorem kindEq_spec {K K'} (h:kindEq K K'=true):K=K':=by
 unfold kindEq at h
 split at h
 ·rfl
 ·simpa using h

end Go.Lg

namespace Go.Lg
open Go.RowKit
variable {P:Program} {β:Type}

end Go.Lg

namespace Go.Lg
open Go.RowKit
variable {P:Program} {β:Type}

end Go.Lg
