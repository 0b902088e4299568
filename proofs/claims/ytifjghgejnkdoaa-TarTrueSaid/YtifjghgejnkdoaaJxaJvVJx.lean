import Derived.Test.YtifjghgejnkdoaaJuJjJvJwKaKaVKbKc
set_option linter.unusedVariables false
set_option linter.unusedSimpArgs false
set_option linter.unusedSectionVars false
namespace Go.Proofs.Ytifjghgejnkdoaa
open Go Go.Lg
section
variable {Y:Yd} (h:okYd Y) {p:Nat→Int} (hp:okPl Y.m Y.sti Y.m p)
include h hp
omit h hp in
theorem st_0 {z:Nat} (hz:z=0) {L:Prop} (hL:¬ L) {a b:Nat}:iv0 Y p ⟨0,a,b,Y.st,z,L⟩:=by
 refine ⟨Nat.zero_le _,fun j hj=>?_,by simp only; omega,fun x=>absurd x hL⟩
 show (if j<Y.g then (⟨Y.st j,Y.st j⟩:Tw) else ⟨0,0⟩).lo≤Y.st j∧Y.st j≤(if j<Y.g then (⟨Y.st j,Y.st j⟩:Tw) else ⟨0,0⟩).hi
 rw [if_pos hj]
 exact ⟨Int.le_refl _,Int.le_refl _⟩
theorem st_2 {x:Tx} (hx:iv0 Y p x) (hi:x.i<Y.m) {b:Nat}:iv2 Y p ⟨x.i,0,b,x.f,x.z,x.L⟩:=by
 have q:=hp.h x.i hi
 unfold okNb at q
 refine ⟨hi,q.1,fun j hj=>?_,by have:=hx.c; simp only; omega,fun l=>(sh_zero h hp hi).2 (hx.d l)⟩
 show (btF _ _ 0 j).lo≤_∧_≤(btF _ _ 0 j).hi
 rw [btF_zero]
 exact hx.b j hj
theorem inn_g {i:Nat} (hi:i<Y.m):0≤(Y.sti i).inn∧(Y.sti i).inn<(Y.g:Int)∧(Y.sti i).inn.toNat<Y.g:=by
 have s:=(h.s.b i hi).2
 have:=s.i0
 have:=s.i1
 omega
theorem f_bd {x:Tx} (hx:iv2 Y p x) {j:Nat} (hj:j<Y.g):-600000000≤x.f j∧x.f j≤600000000:=by
 have q:=hp.h x.i hx.a
 have k:=hx.k
 have m1:=(h.s.b x.i hx.a).2.m1
 unfold okNb at q
 have B:=bt_bd h hp hx.a (k:=x.k) (by omega) hj
 have b:=hx.b j hj
 omega
theorem sh_more {x:Tx} (hx:iv2 Y p x) (hl:x.f (Y.sti x.i).inn.toNat<(Y.sti x.i).takes):shT Y p x.i (x.k+1):=by
 have b:=hx.b _ (inn_g h hp hx.a).2.2
 exact (sh_succ h hp hx.a).2 (.inr (by omega))
theorem sh_up {x:Tx} (hx:iv2 Y p x) (hl:x.L):shT Y p x.i (x.k+1):=(sh_succ h hp hx.a).2 (.inl (hx.d hl))
theorem st_4 {x:Tx} (hx:iv2 Y p x) (hk:(x.k:Int)<p x.i) {L:Prop} (hL:L→shT Y p x.i (x.k+1)) {f:Nat→Int} (hf:∀ j,f j=if j=(Y.sti x.i).inn.toNat then x.f (Y.sti x.i).inn.toNat - (Y.sti x.i).takes else x.f j):iv4 Y p ⟨x.i,x.k,0,f,x.z,L⟩:=by
 refine ⟨hx.a,hk,Nat.zero_le _,fun j hj=>?_,hx.c,hL⟩
 have b:=hx.b j hj
 have t:=bm_in h (p:=p) (k:=x.k) (j:=j) hx.a
 show (bmF _ _ _ 0 j).lo≤f j∧f j≤(bmF _ _ _ 0 j).hi
 rw [bmF_zero,hf]
 simp only
 rw [← t.1,← t.2]
 by_cases e:j=(Y.sti x.i).inn.toNat
 ·rw [if_pos e,if_pos e,if_pos e,← e]; omega
 ·rw [if_neg e,if_neg e,if_neg e]; exact b
theorem st_5 {x:Tx} (hx:iv4 Y p x) (hj:x.j<Y.g) {f:Nat→Int} {t:Int} (ht:0≤t∧t≤((Y.sti x.i).out x.j).hi - ((Y.sti x.i).out x.j).lo) (hf:∀ j,f j=if j=x.j then x.f x.j+((Y.sti x.i).out x.j).lo+t else x.f j):iv4 Y p ⟨x.i,x.k,x.j+1,f,x.z+1,x.L⟩:=by
 refine ⟨hx.a,hx.k,hj,fun j hjg=>?_,by have:=hx.c; simp only; omega,hx.d⟩
 have b:=hx.b j hjg
 show (bmF _ _ _ (x.j+1) j).lo≤f j∧f j≤(bmF _ _ _ (x.j+1) j).hi
 rw [bmF_step,hf]
 by_cases e:j=x.j
 ·rw [if_pos e,if_pos e,← e]
  rw [← e] at ht
  simp only
  rw [← e] at b
  omega
 ·rw [if_neg e,if_neg e]; exact b
theorem st_6 {x:Tx} (hx:iv4 Y p x) (hj:x.j=Y.g) {b:Nat}:iv2 Y p ⟨x.i,x.k+1,b,x.f,x.z,x.L⟩:=by
 have g6:=h.g.b
 have k:=hx.k
 refine ⟨hx.a,by simp only; omega,fun j hjg=>?_,by have:=hx.c; simp only; omega,hx.d⟩
 have b:=hx.b j hjg
 rw [bmF_last (by omega)] at b
 exact b
theorem st_7 {x:Tx} (hx:iv2 Y p x) (hk:(x.k:Int)=p x.i) {a b:Nat}:iv0 Y p ⟨x.i+1,a,b,x.f,x.z,x.L⟩:=by
 have q:=hp.h x.i hx.a
 have m1:=(h.s.b x.i hx.a).2.m1
 unfold okNb at q
 have hi:=hx.a
 have ek:(p x.i).toNat=x.k:=by omega
 refine ⟨hi,fun j hjg=>?_,by have:=hx.c; simp only; omega,fun l=>?_⟩
 ·have b:=hx.b j hjg
  show ((plX Y p (x.i+1)).l j).lo≤_∧_≤((plX Y p (x.i+1)).l j).hi
  rw [← pl_succ h hp hi hjg,ek]
  exact b
 ·rw [← sh_last h hp hi,ek]
  exact hx.d l
theorem pl_row {i k j:Nat} (hi:i<Y.m) (hk:(k:Int)=p i) (hj:j<Y.g):btF (plX Y p i).l (Y.sti i) k j=(plX Y p (i+1)).l j:=by
 rw [← pl_succ h hp hi hj,show (p i).toNat=k by omega]
omit h hp in
theorem lh_0 (j:Nat):lhF Y p 0 j=(plX Y p Y.m).l j:=by
 have e:sumJ (fun k=>if (Y.sal k).good.toNat=j then (inS Y p).s k else 0) 0=0:=rfl
 unfold lhF lsF
 rw [e,Int.sub_zero,Int.sub_zero]
theorem su_0 {x:Tx} (hx:iv0 Y p x) (hm:x.i=Y.m) {b:Nat} (hb:b=0):ivS Y p Y.g 0 (b,x.f):=by
 refine ⟨by simp only; omega,fun j hj=>?_⟩
 have b:=hx.b j hj
 rw [hm] at b
 rw [lh_0]
 exact b
omit h hp in
theorem lh_lo (i j:Nat):(lhF Y p i j).lo=lsF Y p i j:=rfl
omit h hp in
theorem ls_succ (i j:Nat):lsF Y p (i+1) j=lsF Y p i j - (if (Y.sal i).good.toNat=j then (inS Y p).s i else 0):=by
 show ((plX Y p Y.m).l j).lo - (sumJ _ i+(if (Y.sal i).good.toNat=j then (inS Y p).s i else 0))=((plX Y p Y.m).l j).lo - sumJ _ i - _
 omega
omit h hp in
theorem lh_succ (i j:Nat):lhF Y p (i+1) j=⟨lsF Y p i j - (if (Y.sal i).good.toNat=j then (inS Y p).s i else 0),(lhF Y p i j).hi - (if (Y.sal i).good.toNat=j then (inS Y p).s i else 0)⟩:=by
 show (⟨lsF Y p (i+1) j,((plX Y p Y.m).l j).hi - (sumJ _ i+(if (Y.sal i).good.toNat=j then (inS Y p).s i else 0))⟩:Tw)=⟨_,((plX Y p Y.m).l j).hi - sumJ _ i - _⟩
 rw [ls_succ]
 congr 1
 omega
omit h hp in
theorem su_s {q i:Nat} {x:Nat × (Nat→Int)} (hx:ivS Y p q i x) {f:Nat→Int} (hf:∀ j,f j=if j=(Y.sal i).good.toNat then x.2 (Y.sal i).good.toNat - (inS Y p).s i else x.2 j) {k:Nat} (hk:k≤q):ivS Y p q (i+1) (k,f):=by
 refine ⟨hk,fun j hj=>?_⟩
 have b:=hx.b j hj
 rw [lh_lo] at b
 rw [lh_succ]
 show lsF Y p i j - (if (Y.sal i).good.toNat=j then (inS Y p).s i else 0)≤f j∧f j≤(lhF Y p i j).hi - (if (Y.sal i).good.toNat=j then (inS Y p).s i else 0)
 rw [hf]
 by_cases e:j=(Y.sal i).good.toNat
 ·rw [if_pos e,if_pos e.symm,← e]
  omega
 ·rw [if_neg e,if_neg fun y=>e y.symm,Int.sub_zero,Int.sub_zero]
  exact b
omit h hp in
theorem su_k {q q' i:Nat} {x:Nat × (Nat→Int)} (hx:ivS Y p q i x) {k:Nat} (hk:k≤q'):ivS Y p q' i (k,x.2):=⟨hk,hx.b⟩
omit h hp in
theorem sf_succ (i:Nat):suF Y p (i+1)=suF Y p i+(inS Y p).s i*(Y.sal i).price:=by
 show -(plX Y p Y.m).c+(sumJ _ i+(inS Y p).s i*(Y.sal i).price)=-(plX Y p Y.m).c+sumJ _ i+_
 omega
end
section
variable {Y:Yd} (h:okYd Y) {p:Nat→Int} (hp:okPl Y.m Y.sti Y.m p) (hc:canL Y p Y.m)
include h hp hc
theorem t_bd {q i:Nat} (hi:i≤Y.q) {x:Nat × (Nat→Int)} (hx:ivS Y p q i x) {j:Nat} (hj:j<Y.g):0≤x.2 j∧x.2 j≤10000000000∧0≤lsF Y p i j∧lsF Y p i j≤10000000000:=by
 have b:=hx.b j hj
 have j6:j<6:=by have:=h.g.b; omega
 have n0:=ls_nn h hp hc hj
 have l:=ls_le h hp hc j6 i hi
 have B:=(pl_bd h hp Y.m (Nat.le_refl _)).1 j j6
 have m4:=h.s.a
 have s0:0≤sumJ (fun k=>if (Y.sal k).good.toNat=j then (inS Y p).s k else 0) i:=by
  unfold lsF at l; omega
 have e:(lhF Y p i j).hi=((plX Y p Y.m).l j).hi - sumJ (fun k=>if (Y.sal k).good.toNat=j then (inS Y p).s k else 0) i:=rfl
 rw [lh_lo] at b
 omega
theorem su_end:suF Y p Y.q=(inS Y p).c - (plX Y p Y.m).c:=by
 unfold suF
 rw [← in_c h hp hc]
 omega
end
end Go.Proofs.Ytifjghgejnkdoaa

set_option maxRecDepth 100000
namespace Go.Proofs.Ytifjghgejnkdoaa
open Go Go.Lg
noncomputable def ttG5 (Y:Yd):Prop:=(∀ (i:Nat),i<Y.3→rE ((Y.sti i).sv.den)∧True∧True∧(∀ (i_1:Nat),i_1<(Y.sti i).3→True∧True∧True)∧True∧True∧True)
noncomputable def ttG7 (Y:Yd):Prop:=(∀ (i:Nat),i<Y.5→rE ((Y.sal i).sv.den)∧True∧True∧True∧True)
noncomputable def ttG8 (Y:Yd) (n:Nat) (p:Nat→Int):Prop:=(∀ (i:Nat),i<inN Y n p→rE ((SV.agg [i6 ((inS Y p).s i)]).den)∧True∧True)
noncomputable def ttG12 (Y:Yd) (n:Nat) (p:Nat→Int):Prop:=(∀ (i:Nat),i<lfN Y n p→rE (((plX Y p Y.m).l i).sv.den)∧True∧True∧True)
noncomputable def ttG14 (m:Nat) (b:Nat→Int):Prop:=(∀ (i:Nat),i<m→rE ((SV.int IntKind.u16 (b i)).den)∧True)
noncomputable def ttG1 (Y:Yd) (n:Nat) (p:Nat→Int) (m:Nat) (b:Nat→Int) (zp2_2:Tx) (zp2_3:Tx):Prop:=((↑zp2_3.3:Int)<(↑Y.1:Int)→(0:Nat)<(1:Nat)∧(0:Int)≤(↑zp2_3.3:Int)∧(↑zp2_3.3:Int)<(↑(Y.sti zp2_3.i).3:Int)∧(True∧True∧True∧True∧True∧True∧True∧True∧True∧True∧True∧True∧True∧True∧(0:Int)≤(↑zp2_3.3:Int)∧(↑zp2_3.3:Int)<(↑Y.1:Int)∧True∧True∧(0:Nat)+(↑zp2_3.3:Int).toNat<Y.1∧True∧True∧True∧True∧(0:Nat)<(1:Nat)∧True∧True∧rI (zp2_3.4 ((0:Nat)+(↑zp2_3.j:Int).toNat)+((Y.sti zp2_3.i).out (↑zp2_3.j:Int).toNat).1)∧True∧True∧True∧True∧True∧True∧True∧True∧True∧True∧((↑m:Int)=(0:Int)→False)∧True∧True∧(0:Int)≤(↑zp2_3.5:Int).tmod (↑m:Int)∧(↑zp2_3.5:Int).tmod (↑m:Int)<(↑m:Int)∧True∧True∧True∧True∧rI (b ((↑zp2_3.5:Int).tmod (↑m:Int)).toNat)∧True∧True∧True∧True∧rI (b ((↑zp2_3.5:Int).tmod (↑m:Int)).toNat+(↑zp2_3.5:Int))∧True∧True∧True∧True∧(0:Nat)<(1:Nat)∧True∧True∧True∧True∧(0:Nat)<(1:Nat)∧True∧True∧rI (((Y.sti zp2_3.i).out (↑zp2_3.j:Int).toNat).2 - ((Y.sti zp2_3.i).out (↑zp2_3.j:Int).toNat).1)∧True∧True∧rI (((Y.sti zp2_3.i).out (↑zp2_3.j:Int).toNat).2 - ((Y.sti zp2_3.i).out (↑zp2_3.j:Int).toNat).1+(1:Int))∧True∧True∧(((Y.sti zp2_3.i).out (↑zp2_3.j:Int).toNat).2 - ((Y.sti zp2_3.i).out (↑zp2_3.j:Int).toNat).1+(1:Int)=(0:Int)→False)∧True∧True∧rI (zp2_3.4 ((0:Nat)+(↑zp2_3.j:Int).toNat)+((Y.sti zp2_3.i).out (↑zp2_3.j:Int).toNat).1+(b ((↑zp2_3.5:Int).tmod (↑m:Int)).toNat+(↑zp2_3.5:Int)).tmod (((Y.sti zp2_3.i).out (↑zp2_3.j:Int).toNat).2 - ((Y.sti zp2_3.i).out (↑zp2_3.j:Int).toNat).1+(1:Int)))∧True∧True∧True∧True∧True∧True∧True∧True∧(0:Nat)<(1:Nat)∧(True∧True∧(0:Int)≤(↑zp2_3.3:Int)∧(↑zp2_3.3:Int)<(↑Y.1:Int)∧True∧True∧(0:Nat)+(↑zp2_3.3:Int).toNat<Y.1∧True∧True∧rI ((bmF (plX Y p zp2_3.i).l (Y.sti zp2_3.i) zp2_3.k zp2_3.j ((0:Nat)+(↑zp2_3.j:Int).toNat)).1+((Y.sti zp2_3.i).out (↑zp2_3.j:Int).toNat).1)∧True∧True∧(0:Int)≤(↑zp2_3.3:Int)∧(↑zp2_3.3:Int)<(↑Y.1:Int)∧True∧True∧(0:Nat)+(1:Nat)≤(1:Nat)∧(0:Nat)+(↑zp2_3.3:Int).toNat<Y.1∧(∀ (i':Nat),rE true)∧True∧True∧(0:Int)≤(↑zp2_3.3:Int)∧(↑zp2_3.3:Int)<(↑Y.1:Int)∧True∧True∧(0:Nat)+(1:Nat)≤(1:Nat)∧(0:Nat)+(↑zp2_3.3:Int).toNat<Y.1∧(∀ (i':Nat),rE true)∧(((↑zp2_3.3:Int).toNat<Y.1∧iv4 Y p (Tx.mk (↑zp2_3.i:Int).toNat (↑zp2_3.k:Int).toNat ((↑zp2_3.j:Int).toNat+(1:Nat)) (fun i=>prI (putR (fun j=>i6 (zp2_3.f j)) ((0:Nat)+(↑zp2_3.j:Int).toNat) (0:Nat) (SV.int IntKind.i64 (zp2_3.f ((0:Nat)+(↑zp2_3.j:Int).toNat)+((Y.sti zp2_3.i).out (↑zp2_3.j:Int).toNat).lo+(b ((↑zp2_3.z:Int).tmod (↑m:Int)).toNat+(↑zp2_3.z:Int)).tmod (((Y.sti zp2_3.i).out (↑zp2_3.j:Int).toNat).hi - ((Y.sti zp2_3.i).out (↑zp2_3.j:Int).toNat).lo+(1:Int)))) i)) ((↑zp2_3.z:Int).toNat+(1:Nat)) zp2_3.L))∧rE (((↑zp2_3.1:Int).toNat*(64:Nat)+(↑zp2_3.2:Int).toNat)*(64:Nat)+(↑zp2_3.3:Int).toNat))∧n=n∧(∀ (i:Nat),i<n→rE ((i6 (p i)).den)∧True)∧m=m∧(ttG14 m b)∧rE (0:Nat)∧rE (0:Nat)∧rE (lfN Y n p)∧(ttG12 Y n p)∧rE (erP Y n p)∧rE (inI Y n p)∧rE (inN Y n p)∧(ttG8 Y n p)∧rE (0:Nat)∧Y.1=Y.1∧rE (0:Nat)∧Y.1=Y.1∧(↑zp2_3.5:Int)=(↑(↑zp2_3.5:Int).toNat:Int)∧(zp2_3.6↔zp2_3.6)∧(shT Y p zp2_3.i (zp2_3.k+(1:Nat))↔shT Y p (↑zp2_3.i:Int).toNat ((↑zp2_3.k:Int).toNat+(1:Nat)))∧(plX Y p zp2_3.i).3+(↑zp2_3.2:Int)*(Y.sti zp2_3.i).5=(plX Y p (↑zp2_3.i:Int).toNat).3+(↑(↑zp2_3.2:Int).toNat:Int)*(Y.sti (↑zp2_3.i:Int).toNat).5∧(↑zp2_3.1:Int)=(↑(↑zp2_3.1:Int).toNat:Int)∧rE (0:Nat)∧rE (0:Nat)∧(↑zp2_3.2:Int)=(↑(↑zp2_3.2:Int).toNat:Int)∧(↑zp2_3.3:Int)=(↑(↑zp2_3.3:Int).toNat:Int)∧Y.1=Y.1∧(∀ (i:Nat),i<Y.1→rE ((i6 (Y.st i)).den)∧True)∧Y.3=Y.3∧(ttG5 Y)∧Y.5=Y.5∧(ttG7 Y)∧Y.1=Y.1∧(∀ (i_4:Nat),i_4<Y.1→rE (1:Nat)∧((if i_4=(0:Nat)+(↑zp2_3.3:Int).toNat then zp2_3.4 ((0:Nat)+(↑zp2_3.j:Int).toNat)+((Y.sti zp2_3.i).out (↑zp2_3.j:Int).toNat).1+(b ((↑zp2_3.5:Int).tmod (↑m:Int)).toNat+(↑zp2_3.5:Int)).tmod (((Y.sti zp2_3.i).out (↑zp2_3.j:Int).toNat).2 - ((Y.sti zp2_3.i).out (↑zp2_3.j:Int).toNat).1+(1:Int)) else zp2_3.4 i_4)=if i_4=(0:Nat)+(↑zp2_3.3:Int).toNat then zp2_3.4 ((0:Nat)+(↑zp2_3.j:Int).toNat)+((Y.sti zp2_3.i).out (↑zp2_3.j:Int).toNat).1+(b ((↑zp2_3.5:Int).tmod (↑m:Int)).toNat+(↑zp2_3.5:Int)).tmod (((Y.sti zp2_3.i).out (↑zp2_3.j:Int).toNat).2 - ((Y.sti zp2_3.i).out (↑zp2_3.j:Int).toNat).1+(1:Int)) else zp2_3.4 i_4)∧True)∧Y.1=Y.1∧(∀ (i_4:Nat),i_4<Y.1→rE (1:Nat)∧(if i_4=(0:Nat)+(↑zp2_3.3:Int).toNat then (bmF (plX Y p zp2_3.i).l (Y.sti zp2_3.i) zp2_3.k zp2_3.j ((0:Nat)+(↑zp2_3.j:Int).toNat)).1+((Y.sti zp2_3.i).out (↑zp2_3.j:Int).toNat).1 else (bmF (plX Y p zp2_3.i).l (Y.sti zp2_3.i) zp2_3.k zp2_3.j i_4).1)=(bmF (plX Y p (↑zp2_3.i:Int).toNat).l (Y.sti (↑zp2_3.i:Int).toNat) (↑zp2_3.k:Int).toNat ((↑zp2_3.j:Int).toNat+(1:Nat)) i_4).1∧True)∧(Y.sti zp2_3.i).1=(Y.sti (↑zp2_3.i:Int).toNat).1∧(Y.sti zp2_3.i).2=(Y.sti (↑zp2_3.i:Int).toNat).2∧(Y.sti zp2_3.i).3=(Y.sti (↑zp2_3.i:Int).toNat).3∧(∀ (i_4:Nat),i_4<(Y.sti (↑zp2_3.i:Int).toNat).3→((Y.sti zp2_3.i).out i_4).sv.den=((Y.sti (↑zp2_3.i:Int).toNat).out i_4).sv.den∧True∧True∧True)∧(Y.sti zp2_3.i).5=(Y.sti (↑zp2_3.i:Int).toNat).5∧(Y.sti zp2_3.i).6=(Y.sti (↑zp2_3.i:Int).toNat).6∧True)∧True)∧∀ (zp2_4:Tx),(zp2_4.3<Y.1∧iv4 Y p (Tx.mk zp2_4.i zp2_4.k (zp2_4.j+(1:Nat)) zp2_4.f (zp2_4.z+(1:Nat)) zp2_4.L))∧(zp2_4.1*(64:Nat)+zp2_4.2)*(64:Nat)+zp2_4.3=((↑zp2_3.1:Int).toNat*(64:Nat)+(↑zp2_3.2:Int).toNat)*(64:Nat)+(↑zp2_3.3:Int).toNat→rI ((↑zp2_4.5:Int)+(1:Int))∧rI ((↑zp2_4.3:Int)+(1:Int))∧(iv4 Y p (Tx.mk (↑zp2_4.i:Int).toNat (↑zp2_4.k:Int).toNat ((↑zp2_4.j:Int)+(1:Int)).toNat (fun i=>prI (i6 (zp2_4.f i))) ((↑zp2_4.z:Int)+(1:Int)).toNat zp2_4.L)∧(↑zp2_4.1:Int).toNat*(64:Nat)+(↑zp2_4.2:Int).toNat=(↑zp2_2.1:Int).toNat*(64:Nat)+(↑zp2_2.2:Int).toNat)∧Y.1 - ((↑zp2_4.3:Int)+(1:Int)).toNat<Y.1 - zp2_3.3∧n=n∧(∀ (i:Nat),i<n→rE ((i6 (p i)).den)∧True)∧m=m∧(ttG14 m b)∧rE (0:Nat)∧rE (0:Nat)∧rE (lfN Y n p)∧(ttG12 Y n p)∧rE (erP Y n p)∧rE (inI Y n p)∧rE (inN Y n p)∧(ttG8 Y n p)∧rE (0:Nat)∧Y.1=Y.1∧rE (0:Nat)∧Y.1=Y.1∧(↑zp2_4.5:Int)+(1:Int)=(↑((↑zp2_4.5:Int)+(1:Int)).toNat:Int)∧(zp2_4.6↔zp2_4.6)∧(shT Y p zp2_4.i (zp2_4.k+(1:Nat))↔shT Y p (↑zp2_4.i:Int).toNat ((↑zp2_4.k:Int).toNat+(1:Nat)))∧(plX Y p zp2_4.i).3+(↑zp2_4.2:Int)*(Y.sti zp2_4.i).5=(plX Y p (↑zp2_4.i:Int).toNat).3+(↑(↑zp2_4.2:Int).toNat:Int)*(Y.sti (↑zp2_4.i:Int).toNat).5∧(↑zp2_4.1:Int)=(↑(↑zp2_4.1:Int).toNat:Int)∧rE (0:Nat)∧rE (0:Nat)∧(↑zp2_4.2:Int)=(↑(↑zp2_4.2:Int).toNat:Int)∧(↑zp2_4.3:Int)+(1:Int)=(↑((↑zp2_4.3:Int)+(1:Int)).toNat:Int)∧Y.1=Y.1∧(∀ (i:Nat),i<Y.1→rE ((i6 (Y.st i)).den)∧True)∧Y.3=Y.3∧(ttG5 Y)∧Y.5=Y.5∧(ttG7 Y)∧Y.1=Y.1∧(∀ (i_5:Nat),i_5<Y.1→rE (1:Nat)∧rE (zp2_4.4 i_5)∧True)∧Y.1=Y.1∧(∀ (i_5:Nat),i_5<Y.1→rE (1:Nat)∧(bmF (plX Y p zp2_4.i).l (Y.sti zp2_4.i) zp2_4.k (zp2_4.j+(1:Nat)) i_5).1=(bmF (plX Y p (↑zp2_4.i:Int).toNat).l (Y.sti (↑zp2_4.i:Int).toNat) (↑zp2_4.k:Int).toNat ((↑zp2_4.j:Int)+(1:Int)).toNat i_5).1∧True)∧(Y.sti zp2_4.i).1=(Y.sti (↑zp2_4.i:Int).toNat).1∧(Y.sti zp2_4.i).2=(Y.sti (↑zp2_4.i:Int).toNat).2∧(Y.sti zp2_4.i).3=(Y.sti (↑zp2_4.i:Int).toNat).3∧(∀ (i_5:Nat),i_5<(Y.sti (↑zp2_4.i:Int).toNat).3→((Y.sti zp2_4.i).out i_5).sv.den=((Y.sti (↑zp2_4.i:Int).toNat).out i_5).sv.den∧True∧True∧True)∧(Y.sti zp2_4.i).5=(Y.sti (↑zp2_4.i:Int).toNat).5∧(Y.sti zp2_4.i).6=(Y.sti (↑zp2_4.i:Int).toNat).6∧True)
noncomputable def ttG2 (Y:Yd) (n:Nat) (p:Nat→Int) (m:Nat) (b:Nat→Int) (zp2_0:Tx) (zp2_1:Tx) (zp2_3:Tx):Prop:=(¬(↑zp2_3.3:Int)<(↑Y.1:Int)→(0:Nat)<(1:Nat)∧rI ((plX Y p zp2_3.i).3+(↑zp2_3.2:Int)*(Y.sti zp2_3.i).5+(Y.sti zp2_3.i).5)∧rI ((↑zp2_3.2:Int)+(1:Int))∧(iv2 Y p (Tx.mk (↑zp2_3.i:Int).toNat ((↑zp2_3.k:Int)+(1:Int)).toNat ((↑zp2_3.k:Int)+(1:Int)).toNat (fun i=>prI (i6 (zp2_3.f i))) (↑zp2_3.z:Int).toNat zp2_3.L)∧(↑zp2_3.1:Int).toNat=(↑zp2_0.1:Int).toNat)∧(p (↑zp2_3.1:Int).toNat).toNat - ((↑zp2_3.2:Int)+(1:Int)).toNat<(p zp2_1.1).toNat - zp2_1.2∧n=n∧(∀ (i:Nat),i<n→rE ((i6 (p i)).den)∧True)∧m=m∧(ttG14 m b)∧rE (0:Nat)∧rE (0:Nat)∧rE (lfN Y n p)∧(ttG12 Y n p)∧rE (erP Y n p)∧rE (inI Y n p)∧rE (inN Y n p)∧(ttG8 Y n p)∧rE (0:Nat)∧Y.1=Y.1∧rE (0:Nat)∧Y.1=Y.1∧(↑zp2_3.5:Int)=(↑(↑zp2_3.5:Int).toNat:Int)∧(zp2_3.6↔zp2_3.6)∧(shT Y p zp2_3.i (zp2_3.k+(1:Nat))↔shT Y p (↑zp2_3.i:Int).toNat ((↑zp2_3.k:Int)+(1:Int)).toNat)∧(plX Y p zp2_3.i).3+(↑zp2_3.2:Int)*(Y.sti zp2_3.i).5+(Y.sti zp2_3.i).5=(plX Y p (↑zp2_3.i:Int).toNat).3+(↑((↑zp2_3.2:Int)+(1:Int)).toNat:Int)*(Y.sti (↑zp2_3.i:Int).toNat).5∧(↑zp2_3.1:Int)=(↑(↑zp2_3.1:Int).toNat:Int)∧rE (0:Nat)∧rE (0:Nat)∧(↑zp2_3.2:Int)+(1:Int)=(↑((↑zp2_3.2:Int)+(1:Int)).toNat:Int)∧Y.1=Y.1∧(∀ (i:Nat),i<Y.1→rE ((i6 (Y.st i)).den)∧True)∧Y.3=Y.3∧(ttG5 Y)∧Y.5=Y.5∧(ttG7 Y)∧Y.1=Y.1∧(∀ (i_4:Nat),i_4<Y.1→rE (1:Nat)∧rE (zp2_3.4 i_4)∧True)∧Y.1=Y.1∧(∀ (i_4:Nat),i_4<Y.1→rE (1:Nat)∧(bmF (plX Y p zp2_3.i).l (Y.sti zp2_3.i) zp2_3.k zp2_3.j i_4).1=((plX Y p (↑zp2_3.i:Int).toNat).l i_4).1+(↑((↑zp2_3.2:Int)+(1:Int)).toNat:Int)*(((Y.sti (↑zp2_3.i:Int).toNat).out i_4).1 - tkI (Y.sti (↑zp2_3.i:Int).toNat) i_4)∧True)∧(Y.sti zp2_3.i).1=(Y.sti (↑zp2_3.i:Int).toNat).1∧(Y.sti zp2_3.i).2=(Y.sti (↑zp2_3.i:Int).toNat).2∧(Y.sti zp2_3.i).3=(Y.sti (↑zp2_3.i:Int).toNat).3∧(∀ (i_4:Nat),i_4<(Y.sti (↑zp2_3.i:Int).toNat).3→((Y.sti zp2_3.i).out i_4).sv.den=((Y.sti (↑zp2_3.i:Int).toNat).out i_4).sv.den∧True∧True∧True)∧(Y.sti zp2_3.i).5=(Y.sti (↑zp2_3.i:Int).toNat).5∧(Y.sti zp2_3.i).6=(Y.sti (↑zp2_3.i:Int).toNat).6∧True)
noncomputable def ttG3 (Y:Yd) (n:Nat) (p:Nat→Int) (m:Nat) (b:Nat→Int) (zp2_2:Tx):Prop:=((iv4 Y p (Tx.mk (↑zp2_2.i:Int).toNat (↑zp2_2.k:Int).toNat (Int.toNat (0:Int)) (fun i=>prI (i6 (zp2_2.f i))) (↑zp2_2.z:Int).toNat zp2_2.L)∧rE ((↑zp2_2.1:Int).toNat*(64:Nat)+(↑zp2_2.2:Int).toNat))∧n=n∧(∀ (i:Nat),i<n→rE ((i6 (p i)).den)∧True)∧m=m∧(ttG14 m b)∧rE (0:Nat)∧rE (0:Nat)∧rE (lfN Y n p)∧(ttG12 Y n p)∧rE (erP Y n p)∧rE (inI Y n p)∧rE (inN Y n p)∧(ttG8 Y n p)∧rE (0:Nat)∧Y.1=Y.1∧rE (0:Nat)∧Y.1=Y.1∧(↑zp2_2.5:Int)=(↑(↑zp2_2.5:Int).toNat:Int)∧(zp2_2.6↔zp2_2.6)∧(shT Y p zp2_2.i (zp2_2.k+(1:Nat))↔shT Y p (↑zp2_2.i:Int).toNat ((↑zp2_2.k:Int).toNat+(1:Nat)))∧(plX Y p zp2_2.i).3+(↑zp2_2.2:Int)*(Y.sti zp2_2.i).5=(plX Y p (↑zp2_2.i:Int).toNat).3+(↑(↑zp2_2.2:Int).toNat:Int)*(Y.sti (↑zp2_2.i:Int).toNat).5∧(↑zp2_2.1:Int)=(↑(↑zp2_2.1:Int).toNat:Int)∧rE (0:Nat)∧rE (0:Nat)∧(↑zp2_2.2:Int)=(↑(↑zp2_2.2:Int).toNat:Int)∧(0:Int)=(↑(0:Nat):Int)∧Y.1=Y.1∧(∀ (i:Nat),i<Y.1→rE ((i6 (Y.st i)).den)∧True)∧Y.3=Y.3∧(ttG5 Y)∧Y.5=Y.5∧(ttG7 Y)∧Y.1=Y.1∧(∀ (i_3:Nat),i_3<Y.1→rE (1:Nat)∧rE (zp2_2.4 i_3)∧True)∧Y.1=Y.1∧(∀ (i_3:Nat),i_3<Y.1→rE (1:Nat)∧((plX Y p zp2_2.i).l i_3).1+(↑zp2_2.2:Int)*(((Y.sti zp2_2.i).out i_3).1 - tkI (Y.sti zp2_2.i) i_3) - tkI (Y.sti zp2_2.i) i_3=((plX Y p (↑zp2_2.i:Int).toNat).l i_3).1+(↑(↑zp2_2.2:Int).toNat:Int)*(((Y.sti (↑zp2_2.i:Int).toNat).out i_3).1 - tkI (Y.sti (↑zp2_2.i:Int).toNat) i_3) - tkI (Y.sti (↑zp2_2.i:Int).toNat) i_3∧True)∧(Y.sti zp2_2.i).1=(Y.sti (↑zp2_2.i:Int).toNat).1∧(Y.sti zp2_2.i).2=(Y.sti (↑zp2_2.i:Int).toNat).2∧(Y.sti zp2_2.i).3=(Y.sti (↑zp2_2.i:Int).toNat).3∧(∀ (i_3:Nat),i_3<(Y.sti (↑zp2_2.i:Int).toNat).3→((Y.sti zp2_2.i).out i_3).sv.den=((Y.sti (↑zp2_2.i:Int).toNat).out i_3).sv.den∧True∧True∧True)∧(Y.sti zp2_2.i).5=(Y.sti (↑zp2_2.i:Int).toNat).5∧(Y.sti zp2_2.i).6=(Y.sti (↑zp2_2.i:Int).toNat).6∧True)
noncomputable def ttG16 (Y:Yd) (p:Nat→Int):Prop:=(∀ (i:Nat),i<Y.1→rE (1:Nat)∧rE (lsF Y p Y.5 i)∧True)
noncomputable def ttG25 (Y:Yd) (z:Nat) (zp9_1:Nat × Nat):Prop:=(((↑zp9_1.1:Int).toNat<Y.5∧((↑zp9_1.2:Int)+(1:Int)).toNat≤Y.5)∧(↑zp9_1.1:Int).toNat=(↑z:Int).toNat)
noncomputable def ttG4 (Y:Yd) (n:Nat) (p:Nat→Int) (z:Nat) (zp9_1:Nat × Nat):Prop:=((↑zp9_1.2:Int)<(↑(inN Y n p):Int)→(0:Nat)<(1:Nat)∧(0:Int)≤(↑zp9_1.1:Int)∧(↑zp9_1.1:Int)<(↑Y.5:Int)∧(0:Nat)<(1:Nat)∧(0:Int)≤(↑zp9_1.2:Int)∧(↑zp9_1.2:Int)<(↑Y.5:Int)∧((Y.sal (↑zp9_1.fst:Int).toNat).1=(Y.sal (↑zp9_1.snd:Int).toNat).1→(0:Nat)<(1:Nat)∧(0:Int)≤(↑zp9_1.1:Int)∧(↑zp9_1.1:Int)<(↑Y.5:Int)∧(0:Nat)<(1:Nat)∧(0:Int)≤(↑zp9_1.2:Int)∧(↑zp9_1.2:Int)<(↑Y.5:Int)∧((Y.sal (↑zp9_1.snd:Int).toNat).3<(Y.sal (↑zp9_1.fst:Int).toNat).3→(0:Int)≤(↑zp9_1.1:Int)∧(↑zp9_1.1:Int)<(↑(inN Y n p):Int)∧(0:Nat)<(1:Nat)∧(0:Int)≤(↑zp9_1.1:Int)∧(↑zp9_1.1:Int)<(↑Y.5:Int)∧((inS Y p).2 (↑zp9_1.fst:Int).toNat<(Y.sal (↑zp9_1.fst:Int).toNat).2→(0:Int)≤(↑zp9_1.2:Int)∧(↑zp9_1.2:Int)<(↑(inN Y n p):Int)∧((0:Int)<(inS Y p).2 (↑zp9_1.snd:Int).toNat→false=true∧True)∧(¬(0:Int)<(inS Y p).2 (↑zp9_1.snd:Int).toNat→rI ((↑zp9_1.2:Int)+(1:Int))∧(ttG25 Y z zp9_1)∧Y.5 - ((↑zp9_1.2:Int)+(1:Int)).toNat<Y.5 - zp9_1.2∧rE (0:Nat)∧rE (0:Nat)∧rE (inI Y n p)∧rE (inN Y n p)∧(ttG8 Y n p)∧rE (0:Nat)∧Y.1=Y.1∧rE (suF Y p Y.5)∧(↑zp9_1.1:Int)=(↑(↑zp9_1.1:Int).toNat:Int)∧(↑zp9_1.2:Int)+(1:Int)=(↑((↑zp9_1.2:Int)+(1:Int)).toNat:Int)∧Y.1=Y.1∧(∀ (i:Nat),i<Y.1→rE ((i6 (Y.st i)).den)∧True)∧Y.3=Y.3∧(ttG5 Y)∧Y.5=Y.5∧(ttG7 Y)∧Y.1=Y.1∧(ttG16 Y p)∧True))∧(¬(inS Y p).2 (↑zp9_1.fst:Int).toNat<(Y.sal (↑zp9_1.fst:Int).toNat).2→rI ((↑zp9_1.2:Int)+(1:Int))∧(ttG25 Y z zp9_1)∧Y.5 - ((↑zp9_1.2:Int)+(1:Int)).toNat<Y.5 - zp9_1.2∧rE (0:Nat)∧rE (0:Nat)∧rE (inI Y n p)∧rE (inN Y n p)∧(ttG8 Y n p)∧rE (0:Nat)∧Y.1=Y.1∧rE (suF Y p Y.5)∧(↑zp9_1.1:Int)=(↑(↑zp9_1.1:Int).toNat:Int)∧(↑zp9_1.2:Int)+(1:Int)=(↑((↑zp9_1.2:Int)+(1:Int)).toNat:Int)∧Y.1=Y.1∧(∀ (i:Nat),i<Y.1→rE ((i6 (Y.st i)).den)∧True)∧Y.3=Y.3∧(ttG5 Y)∧Y.5=Y.5∧(ttG7 Y)∧Y.1=Y.1∧(ttG16 Y p)∧True))∧(¬(Y.sal (↑zp9_1.snd:Int).toNat).3<(Y.sal (↑zp9_1.fst:Int).toNat).3→rI ((↑zp9_1.2:Int)+(1:Int))∧(ttG25 Y z zp9_1)∧Y.5 - ((↑zp9_1.2:Int)+(1:Int)).toNat<Y.5 - zp9_1.2∧rE (0:Nat)∧rE (0:Nat)∧rE (inI Y n p)∧rE (inN Y n p)∧(ttG8 Y n p)∧rE (0:Nat)∧Y.1=Y.1∧rE (suF Y p Y.5)∧(↑zp9_1.1:Int)=(↑(↑zp9_1.1:Int).toNat:Int)∧(↑zp9_1.2:Int)+(1:Int)=(↑((↑zp9_1.2:Int)+(1:Int)).toNat:Int)∧Y.1=Y.1∧(∀ (i:Nat),i<Y.1→rE ((i6 (Y.st i)).den)∧True)∧Y.3=Y.3∧(ttG5 Y)∧Y.5=Y.5∧(ttG7 Y)∧Y.1=Y.1∧(ttG16 Y p)∧True))∧(¬(Y.sal (↑zp9_1.fst:Int).toNat).1=(Y.sal (↑zp9_1.snd:Int).toNat).1→rI ((↑zp9_1.2:Int)+(1:Int))∧(ttG25 Y z zp9_1)∧Y.5 - ((↑zp9_1.2:Int)+(1:Int)).toNat<Y.5 - zp9_1.2∧rE (0:Nat)∧rE (0:Nat)∧rE (inI Y n p)∧rE (inN Y n p)∧(ttG8 Y n p)∧rE (0:Nat)∧Y.1=Y.1∧rE (suF Y p Y.5)∧(↑zp9_1.1:Int)=(↑(↑zp9_1.1:Int).toNat:Int)∧(↑zp9_1.2:Int)+(1:Int)=(↑((↑zp9_1.2:Int)+(1:Int)).toNat:Int)∧Y.1=Y.1∧(∀ (i:Nat),i<Y.1→rE ((i6 (Y.st i)).den)∧True)∧Y.3=Y.3∧(ttG5 Y)∧Y.5=Y.5∧(ttG7 Y)∧Y.1=Y.1∧(ttG16 Y p)∧True))
noncomputable def ttG23 (Y:Yd):Prop:=(∀ (i:Nat),i<Y.1→rE (1:Nat)∧(if i<(0:Nat) then (0:Int) else Y.2 (i - (0:Nat)))=Y.2 i∧True)
noncomputable def ttG6 (Y:Yd) (n:Nat) (p:Nat→Int) (m:Nat) (b:Nat→Int):Prop:=(True∧True∧True∧True∧(∀ (i:Nat),i<Y.1→rE true)∧rE (0:Nat)∧rE (0:Nat)∧(∀ (i:Nat),rE true)∧((0:Nat)+Y.1)*(8:Nat)≤(140737488355328:Nat)∧(0:Nat)+Y.1≤(4611686018427387904:Nat)∧True∧True∧(∀ (i:Nat),i<Y.1→rE true)∧rE (0:Nat)∧rE (0:Nat)∧(∀ (i:Nat),rE true)∧((0:Nat)+Y.1)*(8:Nat)≤(140737488355328:Nat)∧(0:Nat)+Y.1≤(4611686018427387904:Nat)∧True∧True∧True∧True∧True∧n=n∧(∀ (i:Nat),i<n→rE ((i6 (p i)).den)∧True)∧m=m∧(ttG14 m b)∧rE (0:Nat)∧rE (0:Nat)∧lfN (ydOf Y.g (fun i=>i6 (Y.st i)) Y.m (fun i=>(Y.sti i).sv) Y.q fun i=>(Y.sal i).sv) n (iOf fun i=>i6 (p i))=lfN Y n p∧(∀ (i:Nat),i<lfN Y n p→((plX (ydOf Y.g (fun i=>i6 (Y.st i)) Y.m (fun i=>(Y.sti i).sv) Y.q fun i=>(Y.sal i).sv) (iOf fun i=>i6 (p i)) (ydOf Y.g (fun i=>i6 (Y.st i)) Y.m (fun i=>(Y.sti i).sv) Y.q fun i=>(Y.sal i).sv).m).l i).sv.den=((plX Y p Y.m).l i).sv.den∧True∧True∧True)∧erP (ydOf Y.g (fun i=>i6 (Y.st i)) Y.m (fun i=>(Y.sti i).sv) Y.q fun i=>(Y.sal i).sv) n (iOf fun i=>i6 (p i))=erP Y n p∧inI (ydOf Y.g (fun i=>i6 (Y.st i)) Y.m (fun i=>(Y.sti i).sv) Y.q fun i=>(Y.sal i).sv) n (iOf fun i=>i6 (p i))=inI Y n p∧inN (ydOf Y.g (fun i=>i6 (Y.st i)) Y.m (fun i=>(Y.sti i).sv) Y.q fun i=>(Y.sal i).sv) n (iOf fun i=>i6 (p i))=inN Y n p∧(∀ (i:Nat),i<inN Y n p→(SV.agg [i6 ((inS (ydOf Y.g (fun i=>i6 (Y.st i)) Y.m (fun i=>(Y.sti i).sv) Y.q fun i=>(Y.sal i).sv) (iOf fun i=>i6 (p i))).s i)]).den=(SV.agg [i6 ((inS Y p).s i)]).den∧True∧True)∧rE (0:Nat)∧(0:Nat)+Y.1=Y.1∧rE (0:Nat)∧(0:Nat)+Y.1=Y.1∧Y.1=Y.1∧(∀ (i:Nat),i<Y.1→rE ((i6 (Y.st i)).den)∧True)∧Y.3=Y.3∧(ttG5 Y)∧Y.5=Y.5∧(ttG7 Y)∧Y.1=(0:Nat)+Y.1∧(ttG23 Y)∧Y.1=(0:Nat)+Y.1∧(ttG23 Y)∧True)
noncomputable def ttG10 (Y:Yd) (p:Nat→Int) (zp2_1:Tx):Prop:=(∀ (i_2:Nat),i_2<Y.1→rE (1:Nat)∧(if i_2=(0:Nat)+(Y.sti zp2_1.i).1.toNat then ((plX Y p zp2_1.i).l ((0:Nat)+(Y.sti zp2_1.i).inn.toNat)).1+(↑zp2_1.2:Int)*(((Y.sti zp2_1.i).out ((0:Nat)+(Y.sti zp2_1.i).inn.toNat)).1 - tkI (Y.sti zp2_1.i) ((0:Nat)+(Y.sti zp2_1.i).1.toNat)) - (Y.sti zp2_1.i).2 else ((plX Y p zp2_1.i).l i_2).1+(↑zp2_1.2:Int)*(((Y.sti zp2_1.i).out i_2).1 - tkI (Y.sti zp2_1.i) i_2))=((plX Y p (↑zp2_1.i:Int).toNat).l i_2).1+(↑(↑zp2_1.2:Int).toNat:Int)*(((Y.sti (↑zp2_1.i:Int).toNat).out i_2).1 - tkI (Y.sti (↑zp2_1.i:Int).toNat) i_2) - tkI (Y.sti (↑zp2_1.i:Int).toNat) i_2∧True)
noncomputable def ttG11 (Y:Yd) (zp2_1:Tx):Prop:=(∀ (i_2:Nat),i_2<Y.1→rE (1:Nat)∧((if i_2=(0:Nat)+(Y.sti zp2_1.i).1.toNat then zp2_1.4 ((0:Nat)+(Y.sti zp2_1.i).inn.toNat) - (Y.sti zp2_1.i).2 else zp2_1.4 i_2)=if i_2=(0:Nat)+(Y.sti zp2_1.i).1.toNat then zp2_1.4 ((0:Nat)+(Y.sti zp2_1.i).inn.toNat) - (Y.sti zp2_1.i).2 else zp2_1.4 i_2)∧True)
noncomputable def ttG17 (Y:Yd) (zp2_1:Tx):Prop:=(∀ (i_2:Nat),i_2<(Y.sti (↑zp2_1.i:Int).toNat).3→((Y.sti zp2_1.i).out i_2).sv.den=((Y.sti (↑zp2_1.i:Int).toNat).out i_2).sv.den∧True∧True∧True)
noncomputable def ttG18 (Y:Yd) (n:Nat) (p:Nat→Int) (z:Nat) (zp9_1:Nat × Nat):Prop:=(¬(↑zp9_1.2:Int)<(↑(inN Y n p):Int)→rI ((↑zp9_1.1:Int)+(1:Int))∧∃ (z_2:Nat),z_2≤Y.5∧Y.5 - z_2<Y.5 - z∧rE (0:Nat)∧rE (0:Nat)∧rE (inI Y n p)∧rE (inN Y n p)∧(ttG8 Y n p)∧rE (0:Nat)∧Y.1=Y.1∧rE (suF Y p Y.5)∧(↑zp9_1.1:Int)+(1:Int)=(↑z_2:Int)∧Y.1=Y.1∧(∀ (i:Nat),i<Y.1→rE ((i6 (Y.st i)).den)∧True)∧Y.3=Y.3∧(ttG5 Y)∧Y.5=Y.5∧(ttG7 Y)∧Y.1=Y.1∧(ttG16 Y p)∧True)
noncomputable def ttG19 (Y:Yd) (p:Nat→Int) (zp17_0:Nat × (Nat→Int)):Prop:=(∀ (i_1:Nat),i_1<Y.1→rE (1:Nat)∧((if i_1=(0:Nat)+(Y.sal (↑zp17_0.fst:Int).toNat).1.toNat then zp17_0.2 ((0:Nat)+(Y.sal (↑zp17_0.fst:Int).toNat).good.toNat) - (inS Y p).2 (↑zp17_0.fst:Int).toNat else zp17_0.2 i_1)=if i_1=(0:Nat)+(Y.sal (↑zp17_0.fst:Int).toNat).1.toNat then zp17_0.2 ((0:Nat)+(Y.sal (↑zp17_0.fst:Int).toNat).good.toNat) - (inS Y p).2 (↑zp17_0.fst:Int).toNat else zp17_0.2 i_1)∧True)
noncomputable def ttG20 (Y:Yd) (p:Nat→Int) (zp2_1:Tx):Prop:=(iv4 Y p (Tx.mk (↑zp2_1.i:Int).toNat (↑zp2_1.k:Int).toNat (0:Nat) (fun i=>prI (putR (fun j=>i6 (zp2_1.f j)) ((0:Nat)+(Y.sti zp2_1.i).inn.toNat) (0:Nat) (SV.int IntKind.i64 (zp2_1.f ((0:Nat)+(Y.sti zp2_1.i).inn.toNat) - (Y.sti zp2_1.i).takes)) i)) (↑zp2_1.z:Int).toNat (zp2_1.f ((0:Nat)+(Y.sti zp2_1.i).inn.toNat)<(Y.sti zp2_1.i).takes))∧rE ((↑zp2_1.1:Int).toNat*(64:Nat)+(↑zp2_1.2:Int).toNat))
noncomputable def ttG21 (Y:Yd) (n:Nat) (p:Nat→Int) (z:Nat):Prop:=(((z<Y.5∧(0:Nat)≤Y.5)∧z=(↑z:Int).toNat)∧rE (0:Nat)∧rE (0:Nat)∧rE (inI Y n p)∧rE (inN Y n p)∧(ttG8 Y n p)∧rE (0:Nat)∧Y.1=Y.1∧rE (suF Y p Y.5)∧rE (↑z:Int)∧(0:Int)=(↑(0:Nat):Int)∧Y.1=Y.1∧(∀ (i:Nat),i<Y.1→rE ((i6 (Y.st i)).den)∧True)∧Y.3=Y.3∧(ttG5 Y)∧Y.5=Y.5∧(ttG7 Y)∧Y.1=Y.1∧(ttG16 Y p)∧True)
noncomputable def ttG22 (Y:Yd) (p:Nat→Int) (zp17_0:Nat × (Nat→Int)):Prop:=(((↑zp17_0.1:Int).toNat<Y.5∧ivS Y p Y.q ((↑zp17_0.fst:Int).toNat+(1:Nat)) ((↑zp17_0.fst:Int).toNat,fun i=>prI (putR (fun j=>i6 (zp17_0.snd j)) ((0:Nat)+(Y.sal (↑zp17_0.fst:Int).toNat).good.toNat) (0:Nat) (SV.int IntKind.i64 (zp17_0.snd ((0:Nat)+(Y.sal (↑zp17_0.fst:Int).toNat).good.toNat) - (inS Y p).s (↑zp17_0.fst:Int).toNat)) i)))∧rE ((↑zp17_0.1:Int).toNat))
noncomputable def ttG24 (Y:Yd) (p:Nat→Int) (zp2_1:Tx):Prop:=(iv4 Y p (Tx.mk (↑zp2_1.i:Int).toNat (↑zp2_1.k:Int).toNat (0:Nat) (fun i=>prI (putR (fun j=>i6 (zp2_1.f j)) ((0:Nat)+(Y.sti zp2_1.i).inn.toNat) (0:Nat) (SV.int IntKind.i64 (zp2_1.f ((0:Nat)+(Y.sti zp2_1.i).inn.toNat) - (Y.sti zp2_1.i).takes)) i)) (↑zp2_1.z:Int).toNat (rE true))∧rE ((↑zp2_1.1:Int).toNat*(64:Nat)+(↑zp2_1.2:Int).toNat))
noncomputable def ttG0 (Y:Yd) (n:Nat) (p:Nat→Int) (m:Nat) (b:Nat→Int):Prop:=(¬¬okYd (ydOf Y.g (fun i=>i6 (Y.st i)) Y.m (fun i=>(Y.sti i).sv) Y.q fun i=>(Y.sal i).sv)→(0:Nat)<(1:Nat)∧(¬(↑n:Int)=(↑Y.3:Int)→false=true∧True)∧(¬¬(↑n:Int)=(↑Y.3:Int)→(True∧True∧True∧True∧(0:Nat)<(1:Nat)∧True∧True∧True∧True∧(0:Nat)<(1:Nat)∧(True∧True∧(True∧True∧(∀ (i:Nat),i<Y.1→rE true)∧rE (0:Nat)∧rE (0:Nat)∧(∀ (i:Nat),rE true)∧((0:Nat)+Y.1)*(8:Nat)≤(140737488355328:Nat)∧(0:Nat)+Y.1≤(4611686018427387904:Nat)∧True∧True∧True∧True∧(∀ (i:Nat),i<Y.1→rE true)∧rE (0:Nat)∧rE (0:Nat)∧(∀ (i:Nat),rE true)∧((0:Nat)+Y.1)*(8:Nat)≤(140737488355328:Nat)∧(0:Nat)+Y.1≤(4611686018427387904:Nat)∧True∧True∧True∧True∧True∧n=n∧(∀ (i:Nat),i<n→rE ((i6 (p i)).den)∧True)∧m=m∧(ttG14 m b)∧rE (0:Nat)∧rE (0:Nat)∧lfN (ydOf Y.g (fun i=>i6 (Y.st i)) Y.m (fun i=>(Y.sti i).sv) Y.q fun i=>(Y.sal i).sv) n (iOf fun i=>i6 (p i))=lfN Y n p∧(∀ (i:Nat),i<lfN Y n p→((plX (ydOf Y.g (fun i=>i6 (Y.st i)) Y.m (fun i=>(Y.sti i).sv) Y.q fun i=>(Y.sal i).sv) (iOf fun i=>i6 (p i)) (ydOf Y.g (fun i=>i6 (Y.st i)) Y.m (fun i=>(Y.sti i).sv) Y.q fun i=>(Y.sal i).sv).m).l i).sv.den=((plX Y p Y.m).l i).sv.den∧True∧True∧True)∧erP (ydOf Y.g (fun i=>i6 (Y.st i)) Y.m (fun i=>(Y.sti i).sv) Y.q fun i=>(Y.sal i).sv) n (iOf fun i=>i6 (p i))=erP Y n p∧inI (ydOf Y.g (fun i=>i6 (Y.st i)) Y.m (fun i=>(Y.sti i).sv) Y.q fun i=>(Y.sal i).sv) n (iOf fun i=>i6 (p i))=inI Y n p∧inN (ydOf Y.g (fun i=>i6 (Y.st i)) Y.m (fun i=>(Y.sti i).sv) Y.q fun i=>(Y.sal i).sv) n (iOf fun i=>i6 (p i))=inN Y n p∧(∀ (i:Nat),i<inN Y n p→(SV.agg [i6 ((inS (ydOf Y.g (fun i=>i6 (Y.st i)) Y.m (fun i=>(Y.sti i).sv) Y.q fun i=>(Y.sal i).sv) (iOf fun i=>i6 (p i))).s i)]).den=(SV.agg [i6 ((inS Y p).s i)]).den∧True∧True)∧rE (0:Nat)∧(0:Nat)+Y.1=Y.1∧rE (0:Nat)∧(0:Nat)+Y.1=Y.1∧Y.1=Y.1∧(∀ (i:Nat),i<Y.1→rE ((i6 (Y.st i)).den)∧True)∧Y.3=Y.3∧(ttG5 Y)∧Y.5=Y.5∧(ttG7 Y)∧Y.1=(0:Nat)+Y.1∧(ttG23 Y)∧Y.1=(0:Nat)+Y.1∧(ttG23 Y)∧True)∧(ttG6 Y n p m b)∧True)∧(True∧True∧(ttG6 Y n p m b)∧True)∧True)∧∀ (zp4_0:Unit),True→(iv0 Y p (Tx.mk (Int.toNat (0:Int)) (Int.toNat (0:Int)) (Int.toNat (0:Int)) (fun i=>prI (i6 (Y.st i))) (Int.toNat (0:Int)) (false=true))∧n=n∧(∀ (i:Nat),i<n→rE ((i6 (p i)).den)∧True)∧m=m∧(ttG14 m b)∧rE (0:Nat)∧rE (0:Nat)∧rE (lfN Y n p)∧(ttG12 Y n p)∧rE (erP Y n p)∧rE (inI Y n p)∧rE (inN Y n p)∧(ttG8 Y n p)∧rE (0:Nat)∧Y.1=Y.1∧rE (0:Nat)∧Y.1=Y.1∧(0:Int)=(↑(0:Nat):Int)∧(false=true↔false=true)∧(false=true↔¬canL Y p (Int.toNat (0:Int)))∧rE (0:Int)∧(0:Int)=(↑(0:Nat):Int)∧Y.1=Y.1∧(∀ (i:Nat),i<Y.1→rE ((i6 (Y.st i)).den)∧True)∧Y.3=Y.3∧(ttG5 Y)∧Y.5=Y.5∧(ttG7 Y)∧Y.1=Y.1∧(∀ (i:Nat),i<Y.1→rE (1:Nat)∧rE (Y.2 i)∧True)∧Y.1=Y.1∧(∀ (i:Nat),i<Y.1→rE (1:Nat)∧Y.2 i=((plX Y p (Int.toNat (0:Int))).l i).1∧True)∧True)∧∀ (zp2_0:Tx),iv0 Y p zp2_0→((↑zp2_0.1:Int)<(↑n:Int)→(0:Nat)<(1:Nat)∧(0:Int)≤(↑zp2_0.1:Int)∧(↑zp2_0.1:Int)<(↑Y.3:Int)∧((iv2 Y p (Tx.mk (↑zp2_0.i:Int).toNat (Int.toNat (0:Int)) (Int.toNat (0:Int)) (fun i=>prI (i6 (zp2_0.f i))) (↑zp2_0.z:Int).toNat zp2_0.L)∧rE ((↑zp2_0.1:Int).toNat))∧n=n∧(∀ (i:Nat),i<n→rE ((i6 (p i)).den)∧True)∧m=m∧(ttG14 m b)∧rE (0:Nat)∧rE (0:Nat)∧rE (lfN Y n p)∧(ttG12 Y n p)∧rE (erP Y n p)∧rE (inI Y n p)∧rE (inN Y n p)∧(ttG8 Y n p)∧rE (0:Nat)∧Y.1=Y.1∧rE (0:Nat)∧Y.1=Y.1∧(↑zp2_0.5:Int)=(↑(↑zp2_0.5:Int).toNat:Int)∧(zp2_0.6↔zp2_0.6)∧(¬canL Y p zp2_0.i↔shT Y p (↑zp2_0.i:Int).toNat (Int.toNat (0:Int)))∧(plX Y p zp2_0.i).3=(plX Y p (↑zp2_0.i:Int).toNat).3+(↑(0:Nat):Int)*(Y.sti (↑zp2_0.i:Int).toNat).5∧(↑zp2_0.1:Int)=(↑(↑zp2_0.1:Int).toNat:Int)∧rE (0:Nat)∧rE (0:Nat)∧(0:Int)=(↑(0:Nat):Int)∧Y.1=Y.1∧(∀ (i:Nat),i<Y.1→rE ((i6 (Y.st i)).den)∧True)∧Y.3=Y.3∧(ttG5 Y)∧Y.5=Y.5∧(ttG7 Y)∧Y.1=Y.1∧(∀ (i_1:Nat),i_1<Y.1→rE (1:Nat)∧rE (zp2_0.4 i_1)∧True)∧Y.1=Y.1∧(∀ (i_1:Nat),i_1<Y.1→rE (1:Nat)∧((plX Y p zp2_0.i).l i_1).1=((plX Y p (↑zp2_0.i:Int).toNat).l i_1).1+(↑(0:Nat):Int)*(((Y.sti (↑zp2_0.i:Int).toNat).out i_1).1 - tkI (Y.sti (↑zp2_0.i:Int).toNat) i_1)∧True)∧rE ((Y.sti (↑zp2_0.i:Int).toNat).1)∧rE ((Y.sti (↑zp2_0.i:Int).toNat).2)∧rE ((Y.sti (↑zp2_0.i:Int).toNat).3)∧(∀ (i_1:Nat),i_1<(Y.sti (↑zp2_0.i:Int).toNat).3→rE (((Y.sti (↑zp2_0.i:Int).toNat).out i_1).sv.den)∧True∧True∧True)∧rE ((Y.sti (↑zp2_0.i:Int).toNat).5)∧rE ((Y.sti (↑zp2_0.i:Int).toNat).6)∧True)∧∀ (zp2_1:Tx),iv2 Y p zp2_1∧zp2_1.1=(↑zp2_0.1:Int).toNat→(0:Int)≤(↑zp2_1.1:Int)∧(↑zp2_1.1:Int)<(↑n:Int)∧((↑zp2_1.2:Int)<p (↑zp2_1.1:Int).toNat→(zp2_1.6→(shT Y p zp2_1.i zp2_1.k→(True∧True∧True∧True∧True∧True∧(0:Nat)<(1:Nat)∧True∧True∧True∧True∧True∧True∧(0:Nat)<(1:Nat)∧True∧True∧True∧True∧True∧True∧(0:Nat)<(1:Nat)∧True∧True∧(0:Int)≤(Y.sti zp2_1.i).1∧(Y.sti zp2_1.i).1<(↑Y.1:Int)∧True∧True∧(0:Nat)+(Y.sti zp2_1.i).1.toNat<Y.1∧True∧True∧True∧True∧(0:Nat)<(1:Nat)∧True∧True∧rI (zp2_1.4 ((0:Nat)+(Y.sti zp2_1.i).inn.toNat) - (Y.sti zp2_1.i).2)∧True∧True∧True∧True∧True∧True∧(0:Nat)<(1:Nat)∧True∧True∧True∧True∧(0:Nat)<(1:Nat)∧(True∧True∧(0:Int)≤(Y.sti zp2_1.i).1∧(Y.sti zp2_1.i).1<(↑Y.1:Int)∧True∧True∧(0:Nat)+(Y.sti zp2_1.i).1.toNat<Y.1∧True∧True∧rI (((plX Y p zp2_1.i).l ((0:Nat)+(Y.sti zp2_1.i).inn.toNat)).1+(↑zp2_1.2:Int)*(((Y.sti zp2_1.i).out ((0:Nat)+(Y.sti zp2_1.i).inn.toNat)).1 - tkI (Y.sti zp2_1.i) ((0:Nat)+(Y.sti zp2_1.i).1.toNat)) - (Y.sti zp2_1.i).2)∧True∧True∧(0:Int)≤(Y.sti zp2_1.i).1∧(Y.sti zp2_1.i).1<(↑Y.1:Int)∧True∧True∧(0:Nat)+(1:Nat)≤(1:Nat)∧(0:Nat)+(Y.sti zp2_1.i).1.toNat<Y.1∧(∀ (i':Nat),rE true)∧True∧True∧(0:Int)≤(Y.sti zp2_1.i).1∧(Y.sti zp2_1.i).1<(↑Y.1:Int)∧True∧True∧(0:Nat)+(1:Nat)≤(1:Nat)∧(0:Nat)+(Y.sti zp2_1.i).1.toNat<Y.1∧(∀ (i':Nat),rE true)∧(ttG24 Y p zp2_1)∧n=n∧(∀ (i:Nat),i<n→rE ((i6 (p i)).den)∧True)∧m=m∧(ttG14 m b)∧rE (0:Nat)∧rE (0:Nat)∧rE (lfN Y n p)∧(ttG12 Y n p)∧rE (erP Y n p)∧rE (inI Y n p)∧rE (inN Y n p)∧(ttG8 Y n p)∧rE (0:Nat)∧Y.1=Y.1∧rE (0:Nat)∧Y.1=Y.1∧(↑zp2_1.5:Int)=(↑(↑zp2_1.5:Int).toNat:Int)∧(rE true↔true=true)∧(rE true↔shT Y p (↑zp2_1.i:Int).toNat ((↑zp2_1.k:Int).toNat+(1:Nat)))∧(plX Y p zp2_1.i).3+(↑zp2_1.2:Int)*(Y.sti zp2_1.i).5=(plX Y p (↑zp2_1.i:Int).toNat).3+(↑(↑zp2_1.2:Int).toNat:Int)*(Y.sti (↑zp2_1.i:Int).toNat).5∧(↑zp2_1.1:Int)=(↑(↑zp2_1.1:Int).toNat:Int)∧rE (0:Nat)∧rE (0:Nat)∧(↑zp2_1.2:Int)=(↑(↑zp2_1.2:Int).toNat:Int)∧Y.1=Y.1∧(∀ (i:Nat),i<Y.1→rE ((i6 (Y.st i)).den)∧True)∧Y.3=Y.3∧(ttG5 Y)∧Y.5=Y.5∧(ttG7 Y)∧Y.1=Y.1∧(ttG11 Y zp2_1)∧Y.1=Y.1∧(ttG10 Y p zp2_1)∧(Y.sti zp2_1.i).1=(Y.sti (↑zp2_1.i:Int).toNat).1∧(Y.sti zp2_1.i).2=(Y.sti (↑zp2_1.i:Int).toNat).2∧(Y.sti zp2_1.i).3=(Y.sti (↑zp2_1.i:Int).toNat).3∧(ttG17 Y zp2_1)∧(Y.sti zp2_1.i).5=(Y.sti (↑zp2_1.i:Int).toNat).5∧(Y.sti zp2_1.i).6=(Y.sti (↑zp2_1.i:Int).toNat).6∧True)∧True)∧∀ (zp2_2:Tx),iv4 Y p (Tx.mk zp2_2.i zp2_2.k (0:Nat) zp2_2.f zp2_2.z zp2_2.L)∧zp2_2.1*(64:Nat)+zp2_2.2=(↑zp2_1.1:Int).toNat*(64:Nat)+(↑zp2_1.2:Int).toNat→(ttG3 Y n p m b zp2_2)∧∀ (zp2_3:Tx),iv4 Y p zp2_3∧zp2_3.1*(64:Nat)+zp2_3.2=(↑zp2_2.1:Int).toNat*(64:Nat)+(↑zp2_2.2:Int).toNat→(ttG1 Y n p m b zp2_2 zp2_3)∧(ttG2 Y n p m b zp2_0 zp2_1 zp2_3))∧(¬shT Y p zp2_1.i zp2_1.k→(0:Nat)<(1:Nat)∧(0:Int)≤(Y.sti zp2_1.i).1∧(Y.sti zp2_1.i).1<(↑Y.1:Int)∧(0:Nat)+(Y.sti zp2_1.i).1.toNat<Y.1∧(0:Nat)<(1:Nat)∧(True∧True∧True∧True∧True∧True∧(0:Nat)<(1:Nat)∧True∧True∧True∧True∧True∧True∧(0:Nat)<(1:Nat)∧True∧True∧True∧True∧True∧True∧(0:Nat)<(1:Nat)∧True∧True∧(0:Int)≤(Y.sti zp2_1.i).1∧(Y.sti zp2_1.i).1<(↑Y.1:Int)∧True∧True∧(0:Nat)+(Y.sti zp2_1.i).1.toNat<Y.1∧True∧True∧True∧True∧(0:Nat)<(1:Nat)∧True∧True∧rI (zp2_1.4 ((0:Nat)+(Y.sti zp2_1.i).inn.toNat) - (Y.sti zp2_1.i).2)∧True∧True∧True∧True∧True∧True∧(0:Nat)<(1:Nat)∧True∧True∧True∧True∧(0:Nat)<(1:Nat)∧(True∧True∧(0:Int)≤(Y.sti zp2_1.i).1∧(Y.sti zp2_1.i).1<(↑Y.1:Int)∧True∧True∧(0:Nat)+(Y.sti zp2_1.i).1.toNat<Y.1∧True∧True∧rI (((plX Y p zp2_1.i).l ((0:Nat)+(Y.sti zp2_1.i).inn.toNat)).1+(↑zp2_1.2:Int)*(((Y.sti zp2_1.i).out ((0:Nat)+(Y.sti zp2_1.i).inn.toNat)).1 - tkI (Y.sti zp2_1.i) ((0:Nat)+(Y.sti zp2_1.i).1.toNat)) - (Y.sti zp2_1.i).2)∧True∧True∧(0:Int)≤(Y.sti zp2_1.i).1∧(Y.sti zp2_1.i).1<(↑Y.1:Int)∧True∧True∧(0:Nat)+(1:Nat)≤(1:Nat)∧(0:Nat)+(Y.sti zp2_1.i).1.toNat<Y.1∧(∀ (i':Nat),rE true)∧True∧True∧(0:Int)≤(Y.sti zp2_1.i).1∧(Y.sti zp2_1.i).1<(↑Y.1:Int)∧True∧True∧(0:Nat)+(1:Nat)≤(1:Nat)∧(0:Nat)+(Y.sti zp2_1.i).1.toNat<Y.1∧(∀ (i':Nat),rE true)∧(ttG24 Y p zp2_1)∧n=n∧(∀ (i:Nat),i<n→rE ((i6 (p i)).den)∧True)∧m=m∧(ttG14 m b)∧rE (0:Nat)∧rE (0:Nat)∧rE (lfN Y n p)∧(ttG12 Y n p)∧rE (erP Y n p)∧rE (inI Y n p)∧rE (inN Y n p)∧(ttG8 Y n p)∧rE (0:Nat)∧Y.1=Y.1∧rE (0:Nat)∧Y.1=Y.1∧(↑zp2_1.5:Int)=(↑(↑zp2_1.5:Int).toNat:Int)∧(rE true↔true=true)∧(((plX Y p zp2_1.i).l ((0:Nat)+(Y.sti zp2_1.i).inn.toNat)).1+(↑zp2_1.2:Int)*(((Y.sti zp2_1.i).out ((0:Nat)+(Y.sti zp2_1.i).inn.toNat)).1 - tkI (Y.sti zp2_1.i) ((0:Nat)+(Y.sti zp2_1.i).1.toNat))<(Y.sti zp2_1.i).2↔shT Y p (↑zp2_1.i:Int).toNat ((↑zp2_1.k:Int).toNat+(1:Nat)))∧(plX Y p zp2_1.i).3+(↑zp2_1.2:Int)*(Y.sti zp2_1.i).5=(plX Y p (↑zp2_1.i:Int).toNat).3+(↑(↑zp2_1.2:Int).toNat:Int)*(Y.sti (↑zp2_1.i:Int).toNat).5∧(↑zp2_1.1:Int)=(↑(↑zp2_1.1:Int).toNat:Int)∧rE (0:Nat)∧rE (0:Nat)∧(↑zp2_1.2:Int)=(↑(↑zp2_1.2:Int).toNat:Int)∧Y.1=Y.1∧(∀ (i:Nat),i<Y.1→rE ((i6 (Y.st i)).den)∧True)∧Y.3=Y.3∧(ttG5 Y)∧Y.5=Y.5∧(ttG7 Y)∧Y.1=Y.1∧(ttG11 Y zp2_1)∧Y.1=Y.1∧(ttG10 Y p zp2_1)∧(Y.sti zp2_1.i).1=(Y.sti (↑zp2_1.i:Int).toNat).1∧(Y.sti zp2_1.i).2=(Y.sti (↑zp2_1.i:Int).toNat).2∧(Y.sti zp2_1.i).3=(Y.sti (↑zp2_1.i:Int).toNat).3∧(ttG17 Y zp2_1)∧(Y.sti zp2_1.i).5=(Y.sti (↑zp2_1.i:Int).toNat).5∧(Y.sti zp2_1.i).6=(Y.sti (↑zp2_1.i:Int).toNat).6∧True)∧True)∧∀ (zp2_2:Tx),iv4 Y p (Tx.mk zp2_2.i zp2_2.k (0:Nat) zp2_2.f zp2_2.z zp2_2.L)∧zp2_2.1*(64:Nat)+zp2_2.2=(↑zp2_1.1:Int).toNat*(64:Nat)+(↑zp2_1.2:Int).toNat→(ttG3 Y n p m b zp2_2)∧∀ (zp2_3:Tx),iv4 Y p zp2_3∧zp2_3.1*(64:Nat)+zp2_3.2=(↑zp2_2.1:Int).toNat*(64:Nat)+(↑zp2_2.2:Int).toNat→(ttG1 Y n p m b zp2_2 zp2_3)∧(ttG2 Y n p m b zp2_0 zp2_1 zp2_3)))∧(¬zp2_1.6→(0:Nat)<(1:Nat)∧(0:Int)≤(Y.sti zp2_1.i).1∧(Y.sti zp2_1.i).1<(↑Y.1:Int)∧(0:Nat)+(Y.sti zp2_1.i).1.toNat<Y.1∧(0:Nat)<(1:Nat)∧(shT Y p zp2_1.i zp2_1.k→(True∧True∧True∧True∧True∧True∧(0:Nat)<(1:Nat)∧True∧True∧True∧True∧True∧True∧(0:Nat)<(1:Nat)∧True∧True∧True∧True∧True∧True∧(0:Nat)<(1:Nat)∧True∧True∧(0:Int)≤(Y.sti zp2_1.i).1∧(Y.sti zp2_1.i).1<(↑Y.1:Int)∧True∧True∧(0:Nat)+(Y.sti zp2_1.i).1.toNat<Y.1∧True∧True∧True∧True∧(0:Nat)<(1:Nat)∧True∧True∧rI (zp2_1.4 ((0:Nat)+(Y.sti zp2_1.i).inn.toNat) - (Y.sti zp2_1.i).2)∧True∧True∧True∧True∧True∧True∧(0:Nat)<(1:Nat)∧True∧True∧True∧True∧(0:Nat)<(1:Nat)∧(True∧True∧(0:Int)≤(Y.sti zp2_1.i).1∧(Y.sti zp2_1.i).1<(↑Y.1:Int)∧True∧True∧(0:Nat)+(Y.sti zp2_1.i).1.toNat<Y.1∧True∧True∧rI (((plX Y p zp2_1.i).l ((0:Nat)+(Y.sti zp2_1.i).inn.toNat)).1+(↑zp2_1.2:Int)*(((Y.sti zp2_1.i).out ((0:Nat)+(Y.sti zp2_1.i).inn.toNat)).1 - tkI (Y.sti zp2_1.i) ((0:Nat)+(Y.sti zp2_1.i).1.toNat)) - (Y.sti zp2_1.i).2)∧True∧True∧(0:Int)≤(Y.sti zp2_1.i).1∧(Y.sti zp2_1.i).1<(↑Y.1:Int)∧True∧True∧(0:Nat)+(1:Nat)≤(1:Nat)∧(0:Nat)+(Y.sti zp2_1.i).1.toNat<Y.1∧(∀ (i':Nat),rE true)∧True∧True∧(0:Int)≤(Y.sti zp2_1.i).1∧(Y.sti zp2_1.i).1<(↑Y.1:Int)∧True∧True∧(0:Nat)+(1:Nat)≤(1:Nat)∧(0:Nat)+(Y.sti zp2_1.i).1.toNat<Y.1∧(∀ (i':Nat),rE true)∧(ttG20 Y p zp2_1)∧n=n∧(∀ (i:Nat),i<n→rE ((i6 (p i)).den)∧True)∧m=m∧(ttG14 m b)∧rE (0:Nat)∧rE (0:Nat)∧rE (lfN Y n p)∧(ttG12 Y n p)∧rE (erP Y n p)∧rE (inI Y n p)∧rE (inN Y n p)∧(ttG8 Y n p)∧rE (0:Nat)∧Y.1=Y.1∧rE (0:Nat)∧Y.1=Y.1∧(↑zp2_1.5:Int)=(↑(↑zp2_1.5:Int).toNat:Int)∧(zp2_1.4 ((0:Nat)+(Y.sti zp2_1.i).inn.toNat)<(Y.sti zp2_1.i).2↔((Y.sti zp2_1.i).takes - (zp2_1.f ((0:Nat)+(Y.sti zp2_1.i).inn.toNat)+(1:Int))).NonNeg)∧(rE true↔shT Y p (↑zp2_1.i:Int).toNat ((↑zp2_1.k:Int).toNat+(1:Nat)))∧(plX Y p zp2_1.i).3+(↑zp2_1.2:Int)*(Y.sti zp2_1.i).5=(plX Y p (↑zp2_1.i:Int).toNat).3+(↑(↑zp2_1.2:Int).toNat:Int)*(Y.sti (↑zp2_1.i:Int).toNat).5∧(↑zp2_1.1:Int)=(↑(↑zp2_1.1:Int).toNat:Int)∧rE (0:Nat)∧rE (0:Nat)∧(↑zp2_1.2:Int)=(↑(↑zp2_1.2:Int).toNat:Int)∧Y.1=Y.1∧(∀ (i:Nat),i<Y.1→rE ((i6 (Y.st i)).den)∧True)∧Y.3=Y.3∧(ttG5 Y)∧Y.5=Y.5∧(ttG7 Y)∧Y.1=Y.1∧(ttG11 Y zp2_1)∧Y.1=Y.1∧(ttG10 Y p zp2_1)∧(Y.sti zp2_1.i).1=(Y.sti (↑zp2_1.i:Int).toNat).1∧(Y.sti zp2_1.i).2=(Y.sti (↑zp2_1.i:Int).toNat).2∧(Y.sti zp2_1.i).3=(Y.sti (↑zp2_1.i:Int).toNat).3∧(ttG17 Y zp2_1)∧(Y.sti zp2_1.i).5=(Y.sti (↑zp2_1.i:Int).toNat).5∧(Y.sti zp2_1.i).6=(Y.sti (↑zp2_1.i:Int).toNat).6∧True)∧True)∧∀ (zp2_2:Tx),iv4 Y p (Tx.mk zp2_2.i zp2_2.k (0:Nat) zp2_2.f zp2_2.z zp2_2.L)∧zp2_2.1*(64:Nat)+zp2_2.2=(↑zp2_1.1:Int).toNat*(64:Nat)+(↑zp2_1.2:Int).toNat→(ttG3 Y n p m b zp2_2)∧∀ (zp2_3:Tx),iv4 Y p zp2_3∧zp2_3.1*(64:Nat)+zp2_3.2=(↑zp2_2.1:Int).toNat*(64:Nat)+(↑zp2_2.2:Int).toNat→(ttG1 Y n p m b zp2_2 zp2_3)∧(ttG2 Y n p m b zp2_0 zp2_1 zp2_3))∧(¬shT Y p zp2_1.i zp2_1.k→(0:Nat)<(1:Nat)∧(0:Int)≤(Y.sti zp2_1.i).1∧(Y.sti zp2_1.i).1<(↑Y.1:Int)∧(0:Nat)+(Y.sti zp2_1.i).1.toNat<Y.1∧(0:Nat)<(1:Nat)∧(True∧True∧True∧True∧True∧True∧(0:Nat)<(1:Nat)∧True∧True∧True∧True∧True∧True∧(0:Nat)<(1:Nat)∧True∧True∧True∧True∧True∧True∧(0:Nat)<(1:Nat)∧True∧True∧(0:Int)≤(Y.sti zp2_1.i).1∧(Y.sti zp2_1.i).1<(↑Y.1:Int)∧True∧True∧(0:Nat)+(Y.sti zp2_1.i).1.toNat<Y.1∧True∧True∧True∧True∧(0:Nat)<(1:Nat)∧True∧True∧rI (zp2_1.4 ((0:Nat)+(Y.sti zp2_1.i).inn.toNat) - (Y.sti zp2_1.i).2)∧True∧True∧True∧True∧True∧True∧(0:Nat)<(1:Nat)∧True∧True∧True∧True∧(0:Nat)<(1:Nat)∧(True∧True∧(0:Int)≤(Y.sti zp2_1.i).1∧(Y.sti zp2_1.i).1<(↑Y.1:Int)∧True∧True∧(0:Nat)+(Y.sti zp2_1.i).1.toNat<Y.1∧True∧True∧rI (((plX Y p zp2_1.i).l ((0:Nat)+(Y.sti zp2_1.i).inn.toNat)).1+(↑zp2_1.2:Int)*(((Y.sti zp2_1.i).out ((0:Nat)+(Y.sti zp2_1.i).inn.toNat)).1 - tkI (Y.sti zp2_1.i) ((0:Nat)+(Y.sti zp2_1.i).1.toNat)) - (Y.sti zp2_1.i).2)∧True∧True∧(0:Int)≤(Y.sti zp2_1.i).1∧(Y.sti zp2_1.i).1<(↑Y.1:Int)∧True∧True∧(0:Nat)+(1:Nat)≤(1:Nat)∧(0:Nat)+(Y.sti zp2_1.i).1.toNat<Y.1∧(∀ (i':Nat),rE true)∧True∧True∧(0:Int)≤(Y.sti zp2_1.i).1∧(Y.sti zp2_1.i).1<(↑Y.1:Int)∧True∧True∧(0:Nat)+(1:Nat)≤(1:Nat)∧(0:Nat)+(Y.sti zp2_1.i).1.toNat<Y.1∧(∀ (i':Nat),rE true)∧(ttG20 Y p zp2_1)∧n=n∧(∀ (i:Nat),i<n→rE ((i6 (p i)).den)∧True)∧m=m∧(ttG14 m b)∧rE (0:Nat)∧rE (0:Nat)∧rE (lfN Y n p)∧(ttG12 Y n p)∧rE (erP Y n p)∧rE (inI Y n p)∧rE (inN Y n p)∧(ttG8 Y n p)∧rE (0:Nat)∧Y.1=Y.1∧rE (0:Nat)∧Y.1=Y.1∧(↑zp2_1.5:Int)=(↑(↑zp2_1.5:Int).toNat:Int)∧(zp2_1.4 ((0:Nat)+(Y.sti zp2_1.i).inn.toNat)<(Y.sti zp2_1.i).2↔((Y.sti zp2_1.i).takes - (zp2_1.f ((0:Nat)+(Y.sti zp2_1.i).inn.toNat)+(1:Int))).NonNeg)∧(((plX Y p zp2_1.i).l ((0:Nat)+(Y.sti zp2_1.i).inn.toNat)).1+(↑zp2_1.2:Int)*(((Y.sti zp2_1.i).out ((0:Nat)+(Y.sti zp2_1.i).inn.toNat)).1 - tkI (Y.sti zp2_1.i) ((0:Nat)+(Y.sti zp2_1.i).1.toNat))<(Y.sti zp2_1.i).2↔shT Y p (↑zp2_1.i:Int).toNat ((↑zp2_1.k:Int).toNat+(1:Nat)))∧(plX Y p zp2_1.i).3+(↑zp2_1.2:Int)*(Y.sti zp2_1.i).5=(plX Y p (↑zp2_1.i:Int).toNat).3+(↑(↑zp2_1.2:Int).toNat:Int)*(Y.sti (↑zp2_1.i:Int).toNat).5∧(↑zp2_1.1:Int)=(↑(↑zp2_1.1:Int).toNat:Int)∧rE (0:Nat)∧rE (0:Nat)∧(↑zp2_1.2:Int)=(↑(↑zp2_1.2:Int).toNat:Int)∧Y.1=Y.1∧(∀ (i:Nat),i<Y.1→rE ((i6 (Y.st i)).den)∧True)∧Y.3=Y.3∧(ttG5 Y)∧Y.5=Y.5∧(ttG7 Y)∧Y.1=Y.1∧(ttG11 Y zp2_1)∧Y.1=Y.1∧(ttG10 Y p zp2_1)∧(Y.sti zp2_1.i).1=(Y.sti (↑zp2_1.i:Int).toNat).1∧(Y.sti zp2_1.i).2=(Y.sti (↑zp2_1.i:Int).toNat).2∧(Y.sti zp2_1.i).3=(Y.sti (↑zp2_1.i:Int).toNat).3∧(ttG17 Y zp2_1)∧(Y.sti zp2_1.i).5=(Y.sti (↑zp2_1.i:Int).toNat).5∧(Y.sti zp2_1.i).6=(Y.sti (↑zp2_1.i:Int).toNat).6∧True)∧True)∧∀ (zp2_2:Tx),iv4 Y p (Tx.mk zp2_2.i zp2_2.k (0:Nat) zp2_2.f zp2_2.z zp2_2.L)∧zp2_2.1*(64:Nat)+zp2_2.2=(↑zp2_1.1:Int).toNat*(64:Nat)+(↑zp2_1.2:Int).toNat→(ttG3 Y n p m b zp2_2)∧∀ (zp2_3:Tx),iv4 Y p zp2_3∧zp2_3.1*(64:Nat)+zp2_3.2=(↑zp2_2.1:Int).toNat*(64:Nat)+(↑zp2_2.2:Int).toNat→(ttG1 Y n p m b zp2_2 zp2_3)∧(ttG2 Y n p m b zp2_0 zp2_1 zp2_3))))∧(¬(↑zp2_1.2:Int)<p (↑zp2_1.1:Int).toNat→rI ((↑zp2_1.1:Int)+(1:Int))∧iv0 Y p (Tx.mk ((↑zp2_1.i:Int)+(1:Int)).toNat ((↑zp2_1.i:Int)+(1:Int)).toNat ((↑zp2_1.i:Int)+(1:Int)).toNat (fun i=>prI (i6 (zp2_1.f i))) (↑zp2_1.z:Int).toNat zp2_1.L)∧Y.3 - ((↑zp2_1.1:Int)+(1:Int)).toNat<Y.3 - zp2_0.1∧n=n∧(∀ (i:Nat),i<n→rE ((i6 (p i)).den)∧True)∧m=m∧(ttG14 m b)∧rE (0:Nat)∧rE (0:Nat)∧rE (lfN Y n p)∧(ttG12 Y n p)∧rE (erP Y n p)∧rE (inI Y n p)∧rE (inN Y n p)∧(ttG8 Y n p)∧rE (0:Nat)∧Y.1=Y.1∧rE (0:Nat)∧Y.1=Y.1∧(↑zp2_1.5:Int)=(↑(↑zp2_1.5:Int).toNat:Int)∧(zp2_1.6↔zp2_1.6)∧(shT Y p zp2_1.i zp2_1.k↔¬canL Y p ((↑zp2_1.i:Int)+(1:Int)).toNat)∧(plX Y p zp2_1.i).3+(↑zp2_1.2:Int)*(Y.sti zp2_1.i).5=(plX Y p zp2_1.i).3+p zp2_1.1*(Y.sti zp2_1.i).5∧(↑zp2_1.1:Int)+(1:Int)=(↑((↑zp2_1.1:Int)+(1:Int)).toNat:Int)∧Y.1=Y.1∧(∀ (i:Nat),i<Y.1→rE ((i6 (Y.st i)).den)∧True)∧Y.3=Y.3∧(ttG5 Y)∧Y.5=Y.5∧(ttG7 Y)∧Y.1=Y.1∧(∀ (i_2:Nat),i_2<Y.1→rE (1:Nat)∧rE (zp2_1.4 i_2)∧True)∧Y.1=Y.1∧(∀ (i_2:Nat),i_2<Y.1→rE (1:Nat)∧((plX Y p zp2_1.i).l i_2).1+(↑zp2_1.2:Int)*(((Y.sti zp2_1.i).out i_2).1 - tkI (Y.sti zp2_1.i) i_2)=(0:Int)+((plX Y p zp2_1.i).l i_2).1+(tkG (Y.sti zp2_1.i) (p zp2_1.i) i_2).1+(mdG (Y.sti zp2_1.i) (p zp2_1.i) (Y.sti zp2_1.i).on i_2).1∧True)∧True))∧(¬(↑zp2_0.1:Int)<(↑n:Int)→(erP Y n p=(10:Int)→(¬canL Y p zp2_0.i→rE true∧True)∧(¬¬canL Y p zp2_0.i→false=true∧True))∧(¬erP Y n p=(10:Int)→(zp2_0.6→false=true∧True)∧(¬zp2_0.6→(¬canL Y p zp2_0.i→false=true∧True)∧(¬¬canL Y p zp2_0.i→(¬(↑(lfN Y n p):Int)=(↑Y.1:Int)→false=true∧True)∧(¬¬(↑(lfN Y n p):Int)=(↑Y.1:Int)→(0:Nat)<(1:Nat)∧(¬(↑(inN Y n p):Int)=(↑Y.5:Int)→false=true∧True)∧(¬¬(↑(inN Y n p):Int)=(↑Y.5:Int)→(ivS Y p Y.g (0:Nat) (Int.toNat (0:Int),fun i=>prI (i6 (zp2_0.f i)))∧rE (0:Nat)∧rE (0:Nat)∧rE (lfN Y n p)∧(ttG12 Y n p)∧rE (inI Y n p)∧rE (inN Y n p)∧(ttG8 Y n p)∧rE (0:Nat)∧Y.1=Y.1∧rE (0:Nat)∧Y.1=Y.1∧(plX Y p zp2_0.i).3=(plX Y p Y.m).3∧(0:Int)=(↑(0:Nat):Int)∧Y.1=Y.1∧(∀ (i:Nat),i<Y.1→rE ((i6 (Y.st i)).den)∧True)∧Y.3=Y.3∧(ttG5 Y)∧Y.5=Y.5∧(ttG7 Y)∧Y.1=Y.1∧(∀ (i_1:Nat),i_1<Y.1→rE (1:Nat)∧rE (zp2_0.4 i_1)∧True)∧Y.1=Y.1∧(∀ (i_1:Nat),i_1<Y.1→rE (1:Nat)∧((plX Y p zp2_0.i).l i_1).1=lsF Y p (0:Nat) i_1∧True)∧True)∧∀ (zp17_0:Nat × (Nat→Int)),ivS Y p Y.g (0:Nat) zp17_0→((↑zp17_0.1:Int)<(↑(lfN Y n p):Int)→(0:Int)≤(↑zp17_0.1:Int)∧(↑zp17_0.1:Int)<(↑Y.1:Int)∧(0:Nat)+(↑zp17_0.1:Int).toNat<Y.1∧(0:Int)≤(↑zp17_0.1:Int)∧(↑zp17_0.1:Int)<(↑(lfN Y n p):Int)∧(zp17_0.2 ((0:Nat)+(↑zp17_0.fst:Int).toNat)<((plX Y p Y.m).l (↑zp17_0.fst:Int).toNat).1→false=true∧True)∧(¬zp17_0.2 ((0:Nat)+(↑zp17_0.fst:Int).toNat)<((plX Y p Y.m).l (↑zp17_0.fst:Int).toNat).1→(0:Int)≤(↑zp17_0.1:Int)∧(↑zp17_0.1:Int)<(↑Y.1:Int)∧(0:Nat)+(↑zp17_0.1:Int).toNat<Y.1∧(0:Int)≤(↑zp17_0.1:Int)∧(↑zp17_0.1:Int)<(↑(lfN Y n p):Int)∧(((plX Y p Y.m).l (↑zp17_0.fst:Int).toNat).2<zp17_0.2 ((0:Nat)+(↑zp17_0.fst:Int).toNat)→false=true∧True)∧(¬((plX Y p Y.m).l (↑zp17_0.fst:Int).toNat).2<zp17_0.2 ((0:Nat)+(↑zp17_0.fst:Int).toNat)→(0:Int)≤(↑zp17_0.1:Int)∧(↑zp17_0.1:Int)<(↑Y.1:Int)∧(0:Nat)+(↑zp17_0.1:Int).toNat<Y.1∧(0:Int)≤(↑zp17_0.1:Int)∧(↑zp17_0.1:Int)<(↑(lfN Y n p):Int)∧(¬lsF Y p (0:Nat) ((0:Nat)+(↑zp17_0.1:Int).toNat)=((plX Y p Y.m).l (↑zp17_0.fst:Int).toNat).1→false=true∧True)∧(¬¬lsF Y p (0:Nat) ((0:Nat)+(↑zp17_0.1:Int).toNat)=((plX Y p Y.m).l (↑zp17_0.fst:Int).toNat).1→rI ((↑zp17_0.1:Int)+(1:Int))∧ivS Y p Y.g (0:Nat) (((↑zp17_0.fst:Int)+(1:Int)).toNat,fun i=>prI (i6 (zp17_0.snd i)))∧Y.1 - ((↑zp17_0.1:Int)+(1:Int)).toNat<Y.1 - zp17_0.1∧rE (0:Nat)∧rE (0:Nat)∧rE (lfN Y n p)∧(ttG12 Y n p)∧rE (inI Y n p)∧rE (inN Y n p)∧(ttG8 Y n p)∧rE (0:Nat)∧Y.1=Y.1∧rE (0:Nat)∧Y.1=Y.1∧rE ((plX Y p Y.m).3)∧(↑zp17_0.1:Int)+(1:Int)=(↑((↑zp17_0.1:Int)+(1:Int)).toNat:Int)∧Y.1=Y.1∧(∀ (i:Nat),i<Y.1→rE ((i6 (Y.st i)).den)∧True)∧Y.3=Y.3∧(ttG5 Y)∧Y.5=Y.5∧(ttG7 Y)∧Y.1=Y.1∧(∀ (i_1:Nat),i_1<Y.1→rE (1:Nat)∧rE (zp17_0.2 i_1)∧True)∧Y.1=Y.1∧(∀ (i:Nat),i<Y.1→rE (1:Nat)∧rE (lsF Y p (0:Nat) i)∧True)∧True))))∧(¬(↑zp17_0.1:Int)<(↑(lfN Y n p):Int)→rI ((0:Int) - (plX Y p Y.m).3)∧(ivS Y p Y.q (Int.toNat (0:Int)) (Int.toNat (0:Int),fun i=>prI (i6 (zp17_0.snd i)))∧rE (0:Nat)∧rE (0:Nat)∧rE (inI Y n p)∧rE (inN Y n p)∧(ttG8 Y n p)∧rE (0:Nat)∧Y.1=Y.1∧rE (0:Nat)∧Y.1=Y.1∧(0:Int) - (plX Y p Y.m).3=suF Y p (0:Nat)∧(0:Int)=(↑(0:Nat):Int)∧Y.1=Y.1∧(∀ (i:Nat),i<Y.1→rE ((i6 (Y.st i)).den)∧True)∧Y.3=Y.3∧(ttG5 Y)∧Y.5=Y.5∧(ttG7 Y)∧Y.1=Y.1∧(∀ (i_1:Nat),i_1<Y.1→rE (1:Nat)∧rE (zp17_0.2 i_1)∧True)∧Y.1=Y.1∧(∀ (i:Nat),i<Y.1→rE (1:Nat)∧rE (lsF Y p (0:Nat) i)∧True)∧True)∧∀ (zp17_0:Nat × (Nat→Int)),ivS Y p Y.q zp17_0.fst zp17_0→((↑zp17_0.1:Int)<(↑(inN Y n p):Int)→(0:Nat)<(1:Nat)∧(0:Int)≤(↑zp17_0.1:Int)∧(↑zp17_0.1:Int)<(↑Y.5:Int)∧(0:Int)≤(↑zp17_0.1:Int)∧(↑zp17_0.1:Int)<(↑(inN Y n p):Int)∧((inS Y p).2 (↑zp17_0.fst:Int).toNat<(0:Int)→false=true∧True)∧(¬(inS Y p).2 (↑zp17_0.fst:Int).toNat<(0:Int)→(0:Int)≤(↑zp17_0.1:Int)∧(↑zp17_0.1:Int)<(↑(inN Y n p):Int)∧(0:Nat)<(1:Nat)∧((Y.sal (↑zp17_0.fst:Int).toNat).2<(inS Y p).2 (↑zp17_0.fst:Int).toNat→false=true∧True)∧(¬(Y.sal (↑zp17_0.fst:Int).toNat).2<(inS Y p).2 (↑zp17_0.fst:Int).toNat→(True∧True∧True∧True∧True∧True∧(0:Nat)<(1:Nat)∧True∧True∧True∧True∧True∧True∧(0:Nat)<(1:Nat)∧True∧True∧True∧True∧True∧True∧(0:Nat)<(1:Nat)∧True∧True∧(0:Int)≤(Y.sal (↑zp17_0.fst:Int).toNat).1∧(Y.sal (↑zp17_0.fst:Int).toNat).1<(↑Y.1:Int)∧True∧True∧(0:Nat)+(Y.sal (↑zp17_0.fst:Int).toNat).1.toNat<Y.1∧True∧True∧True∧True∧True∧True∧(0:Int)≤(↑zp17_0.1:Int)∧(↑zp17_0.1:Int)<(↑(inN Y n p):Int)∧True∧True∧True∧True∧rI (zp17_0.2 ((0:Nat)+(Y.sal (↑zp17_0.fst:Int).toNat).good.toNat) - (inS Y p).2 (↑zp17_0.fst:Int).toNat)∧True∧True∧True∧True∧True∧True∧(0:Nat)<(1:Nat)∧True∧True∧True∧True∧(True∧True∧(0:Int)≤(Y.sal (↑zp17_0.fst:Int).toNat).1∧(Y.sal (↑zp17_0.fst:Int).toNat).1<(↑Y.1:Int)∧True∧True∧(0:Nat)+(Y.sal (↑zp17_0.fst:Int).toNat).1.toNat<Y.1∧(True∧True∧(0:Int)≤(↑zp17_0.1:Int)∧(↑zp17_0.1:Int)<(↑(inN Y n p):Int)∧True∧True∧True∧True∧rI (lsF Y p zp17_0.1 ((0:Nat)+(Y.sal (↑zp17_0.fst:Int).toNat).1.toNat) - (inS Y p).2 (↑zp17_0.fst:Int).toNat)∧True∧True∧(0:Int)≤(Y.sal (↑zp17_0.fst:Int).toNat).1∧(Y.sal (↑zp17_0.fst:Int).toNat).1<(↑Y.1:Int)∧True∧True∧(0:Nat)+(1:Nat)≤(1:Nat)∧(0:Nat)+(Y.sal (↑zp17_0.fst:Int).toNat).1.toNat<Y.1∧(∀ (i':Nat),rE true)∧True∧True∧(0:Int)≤(Y.sal (↑zp17_0.fst:Int).toNat).1∧(Y.sal (↑zp17_0.fst:Int).toNat).1<(↑Y.1:Int)∧True∧True∧(0:Nat)+(1:Nat)≤(1:Nat)∧(0:Nat)+(Y.sal (↑zp17_0.fst:Int).toNat).1.toNat<Y.1∧(∀ (i':Nat),rE true)∧(ttG22 Y p zp17_0)∧rE (0:Nat)∧rE (0:Nat)∧rE (inI Y n p)∧rE (inN Y n p)∧(ttG8 Y n p)∧rE (0:Nat)∧Y.1=Y.1∧rE (0:Nat)∧Y.1=Y.1∧suF Y p zp17_0.1=suF Y p (↑zp17_0.1:Int).toNat∧(↑zp17_0.1:Int)=(↑(↑zp17_0.1:Int).toNat:Int)∧rE (0:Nat)∧rE (0:Nat)∧Y.1=Y.1∧(∀ (i:Nat),i<Y.1→rE ((i6 (Y.st i)).den)∧True)∧Y.3=Y.3∧(ttG5 Y)∧Y.5=Y.5∧(ttG7 Y)∧Y.1=Y.1∧(ttG19 Y p zp17_0)∧Y.1=Y.1∧(∀ (i_1:Nat),i_1<Y.1→rE (1:Nat)∧(if i_1=(0:Nat)+(Y.sal (↑zp17_0.fst:Int).toNat).1.toNat then lsF Y p zp17_0.1 ((0:Nat)+(Y.sal (↑zp17_0.fst:Int).toNat).1.toNat) - (inS Y p).2 (↑zp17_0.fst:Int).toNat else lsF Y p zp17_0.1 i_1)=lsF Y p ((↑zp17_0.1:Int).toNat+(1:Nat)) i_1∧True)∧rE ((Y.sal (↑zp17_0.fst:Int).toNat).1)∧rE ((Y.sal (↑zp17_0.fst:Int).toNat).2)∧rE ((Y.sal (↑zp17_0.fst:Int).toNat).3)∧True)∧True)∧(True∧True∧(0:Int)≤(↑zp17_0.1:Int)∧(↑zp17_0.1:Int)<(↑(inN Y n p):Int)∧True∧True∧(True∧True∧(0:Int)≤(Y.sal (↑zp17_0.fst:Int).toNat).1∧(Y.sal (↑zp17_0.fst:Int).toNat).1<(↑Y.1:Int)∧True∧True∧(0:Nat)+(Y.sal (↑zp17_0.fst:Int).toNat).1.toNat<Y.1∧True∧True∧rI (lsF Y p zp17_0.1 ((0:Nat)+(Y.sal (↑zp17_0.fst:Int).toNat).1.toNat) - (inS Y p).2 (↑zp17_0.fst:Int).toNat)∧True∧True∧(0:Int)≤(Y.sal (↑zp17_0.fst:Int).toNat).1∧(Y.sal (↑zp17_0.fst:Int).toNat).1<(↑Y.1:Int)∧True∧True∧(0:Nat)+(1:Nat)≤(1:Nat)∧(0:Nat)+(Y.sal (↑zp17_0.fst:Int).toNat).1.toNat<Y.1∧(∀ (i':Nat),rE true)∧True∧True∧(0:Int)≤(Y.sal (↑zp17_0.fst:Int).toNat).1∧(Y.sal (↑zp17_0.fst:Int).toNat).1<(↑Y.1:Int)∧True∧True∧(0:Nat)+(1:Nat)≤(1:Nat)∧(0:Nat)+(Y.sal (↑zp17_0.fst:Int).toNat).1.toNat<Y.1∧(∀ (i':Nat),rE true)∧(ttG22 Y p zp17_0)∧rE (0:Nat)∧rE (0:Nat)∧rE (inI Y n p)∧rE (inN Y n p)∧(ttG8 Y n p)∧rE (0:Nat)∧Y.1=Y.1∧rE (0:Nat)∧Y.1=Y.1∧suF Y p zp17_0.1=suF Y p (↑zp17_0.1:Int).toNat∧(↑zp17_0.1:Int)=(↑(↑zp17_0.1:Int).toNat:Int)∧rE (0:Nat)∧rE (0:Nat)∧Y.1=Y.1∧(∀ (i:Nat),i<Y.1→rE ((i6 (Y.st i)).den)∧True)∧Y.3=Y.3∧(ttG5 Y)∧Y.5=Y.5∧(ttG7 Y)∧Y.1=Y.1∧(ttG19 Y p zp17_0)∧Y.1=Y.1∧(∀ (i_1:Nat),i_1<Y.1→rE (1:Nat)∧(if i_1=(0:Nat)+(Y.sal (↑zp17_0.fst:Int).toNat).1.toNat then lsF Y p zp17_0.1 ((0:Nat)+(Y.sal (↑zp17_0.fst:Int).toNat).1.toNat) - (inS Y p).2 (↑zp17_0.fst:Int).toNat else lsF Y p zp17_0.1 i_1)=lsF Y p ((↑zp17_0.1:Int).toNat+(1:Nat)) i_1∧True)∧rE ((Y.sal (↑zp17_0.fst:Int).toNat).1)∧rE ((Y.sal (↑zp17_0.fst:Int).toNat).2)∧rE ((Y.sal (↑zp17_0.fst:Int).toNat).3)∧True)∧True)∧True)∧∀ (zp17_1:Nat × (Nat→Int)),(zp17_1.1<Y.5∧ivS Y p Y.q (zp17_1.fst+(1:Nat)) zp17_1)∧zp17_1.1=(↑zp17_0.1:Int).toNat→(0:Int)≤(↑zp17_1.1:Int)∧(↑zp17_1.1:Int)<(↑(inN Y n p):Int)∧(0:Nat)<(1:Nat)∧rI ((inS Y p).2 (↑zp17_1.fst:Int).toNat*(Y.sal zp17_1.fst).3)∧rI (suF Y p zp17_1.1+(inS Y p).2 (↑zp17_1.fst:Int).toNat*(Y.sal zp17_1.fst).3)∧rI ((↑zp17_1.1:Int)+(1:Int))∧ivS Y p Y.q ((↑zp17_1.fst:Int)+(1:Int)).toNat (((↑zp17_1.fst:Int)+(1:Int)).toNat,fun i=>prI (i6 (zp17_1.snd i)))∧Y.5 - ((↑zp17_1.1:Int)+(1:Int)).toNat<Y.5 - zp17_0.1∧rE (0:Nat)∧rE (0:Nat)∧rE (inI Y n p)∧rE (inN Y n p)∧(ttG8 Y n p)∧rE (0:Nat)∧Y.1=Y.1∧rE (0:Nat)∧Y.1=Y.1∧suF Y p zp17_1.1+(inS Y p).2 (↑zp17_1.fst:Int).toNat*(Y.sal zp17_1.fst).3=suF Y p ((↑zp17_1.1:Int)+(1:Int)).toNat∧(↑zp17_1.1:Int)+(1:Int)=(↑((↑zp17_1.1:Int)+(1:Int)).toNat:Int)∧Y.1=Y.1∧(∀ (i:Nat),i<Y.1→rE ((i6 (Y.st i)).den)∧True)∧Y.3=Y.3∧(ttG5 Y)∧Y.5=Y.5∧(ttG7 Y)∧Y.1=Y.1∧(∀ (i_2:Nat),i_2<Y.1→rE (1:Nat)∧rE (zp17_1.2 i_2)∧True)∧Y.1=Y.1∧(∀ (i_2:Nat),i_2<Y.1→rE (1:Nat)∧lsF Y p (zp17_1.1+(1:Nat)) i_2=lsF Y p ((↑zp17_1.1:Int)+(1:Int)).toNat i_2∧True)∧True)))∧(¬(↑zp17_0.1:Int)<(↑(inN Y n p):Int)→(ivS Y p Y.g Y.q (Int.toNat (0:Int),fun i=>prI (i6 (zp17_0.snd i)))∧rE (0:Nat)∧rE (0:Nat)∧rE (inI Y n p)∧rE (inN Y n p)∧(ttG8 Y n p)∧rE (0:Nat)∧Y.1=Y.1∧rE (0:Nat)∧Y.1=Y.1∧suF Y p zp17_0.1=suF Y p Y.5∧(0:Int)=(↑(0:Nat):Int)∧Y.1=Y.1∧(∀ (i:Nat),i<Y.1→rE ((i6 (Y.st i)).den)∧True)∧Y.3=Y.3∧(ttG5 Y)∧Y.5=Y.5∧(ttG7 Y)∧Y.1=Y.1∧(∀ (i_1:Nat),i_1<Y.1→rE (1:Nat)∧rE (zp17_0.2 i_1)∧True)∧Y.1=Y.1∧(∀ (i_1:Nat),i_1<Y.1→rE (1:Nat)∧lsF Y p zp17_0.1 i_1=lsF Y p Y.5 i_1∧True)∧True)∧∀ (zp17_0:Nat × (Nat→Int)),ivS Y p Y.g Y.q zp17_0→((↑zp17_0.1:Int)<(↑Y.1:Int)→(0:Int)≤(↑zp17_0.1:Int)∧(↑zp17_0.1:Int)<(↑Y.1:Int)∧(0:Nat)+(↑zp17_0.1:Int).toNat<Y.1∧(zp17_0.2 ((0:Nat)+(↑zp17_0.fst:Int).toNat)<(0:Int)→false=true∧True)∧(¬zp17_0.2 ((0:Nat)+(↑zp17_0.fst:Int).toNat)<(0:Int)→(0:Int)≤(↑zp17_0.1:Int)∧(↑zp17_0.1:Int)<(↑Y.1:Int)∧(0:Nat)+(↑zp17_0.1:Int).toNat<Y.1∧(lsF Y p Y.5 ((0:Nat)+(↑zp17_0.1:Int).toNat)<(0:Int)→false=true∧True)∧(¬lsF Y p Y.5 ((0:Nat)+(↑zp17_0.1:Int).toNat)<(0:Int)→rI ((↑zp17_0.1:Int)+(1:Int))∧ivS Y p Y.g Y.q (((↑zp17_0.fst:Int)+(1:Int)).toNat,fun i=>prI (i6 (zp17_0.snd i)))∧Y.1 - ((↑zp17_0.1:Int)+(1:Int)).toNat<Y.1 - zp17_0.1∧rE (0:Nat)∧rE (0:Nat)∧rE (inI Y n p)∧rE (inN Y n p)∧(ttG8 Y n p)∧rE (0:Nat)∧Y.1=Y.1∧rE (0:Nat)∧Y.1=Y.1∧rE (suF Y p Y.5)∧(↑zp17_0.1:Int)+(1:Int)=(↑((↑zp17_0.1:Int)+(1:Int)).toNat:Int)∧Y.1=Y.1∧(∀ (i:Nat),i<Y.1→rE ((i6 (Y.st i)).den)∧True)∧Y.3=Y.3∧(ttG5 Y)∧Y.5=Y.5∧(ttG7 Y)∧Y.1=Y.1∧(∀ (i_1:Nat),i_1<Y.1→rE (1:Nat)∧rE (zp17_0.2 i_1)∧True)∧Y.1=Y.1∧(ttG16 Y p)∧True)))∧(¬(↑zp17_0.1:Int)<(↑Y.1:Int)→(∃ (z:Nat),z≤Y.5∧rE (0:Nat)∧rE (0:Nat)∧rE (inI Y n p)∧rE (inN Y n p)∧(ttG8 Y n p)∧rE (0:Nat)∧Y.1=Y.1∧rE (suF Y p Y.5)∧(0:Int)=(↑z:Int)∧Y.1=Y.1∧(∀ (i:Nat),i<Y.1→rE ((i6 (Y.st i)).den)∧True)∧Y.3=Y.3∧(ttG5 Y)∧Y.5=Y.5∧(ttG7 Y)∧Y.1=Y.1∧(ttG16 Y p)∧True)∧∀ (z:Nat),z≤Y.5→((↑z:Int)<(↑(inN Y n p):Int)→(0:Int)≤(↑z:Int)∧(↑z:Int)<(↑(inN Y n p):Int)∧(0:Nat)<(1:Nat)∧(0:Int)≤(↑z:Int)∧(↑z:Int)<(↑Y.5:Int)∧((inS Y p).2 (↑z:Int).toNat<(Y.sal (↑z:Int).toNat).2→(0:Nat)<(1:Nat)∧(0:Int)≤(↑z:Int)∧(↑z:Int)<(↑Y.5:Int)∧(0:Int)≤(Y.sal (↑z:Int).toNat).1∧(Y.sal (↑z:Int).toNat).1<(↑Y.1:Int)∧(0:Nat)+(Y.sal (↑z:Int).toNat).1.toNat<Y.1∧((0:Int)<lsF Y p Y.5 ((0:Nat)+(Y.sal (↑z:Int).toNat).1.toNat)→false=true∧True)∧(¬(0:Int)<lsF Y p Y.5 ((0:Nat)+(Y.sal (↑z:Int).toNat).1.toNat)→(ttG21 Y n p z)∧∀ (zp9_1:Nat × Nat),(zp9_1.1<Y.5∧zp9_1.2≤Y.5)∧zp9_1.1=(↑z:Int).toNat→(ttG4 Y n p z zp9_1)∧(ttG18 Y n p z zp9_1)))∧(¬(inS Y p).2 (↑z:Int).toNat<(Y.sal (↑z:Int).toNat).2→(ttG21 Y n p z)∧∀ (zp9_1:Nat × Nat),(zp9_1.1<Y.5∧zp9_1.2≤Y.5)∧zp9_1.1=(↑z:Int).toNat→(ttG4 Y n p z zp9_1)∧(ttG18 Y n p z zp9_1)))∧(¬(↑z:Int)<(↑(inN Y n p):Int)→(suF Y p Y.5=inI Y n p→rE true∧True)∧(¬suF Y p Y.5=inI Y n p→false=true∧True)))))))))))))
noncomputable def ttG13 (Y:Yd):Prop:=(∀ (i:Nat),i<Y.3→True∧True∧(∀ (i_1:Nat),i_1<(Y.sti i).3→True∧True∧True)∧True∧True∧True)
noncomputable def ttG9 (Y:Yd) (n:Nat) (p:Nat→Int) (m:Nat) (b:Nat→Int):Prop:=(¬erP (ydOf Y.g (fun i=>i6 (Y.st i)) Y.m (fun i=>(Y.sti i).sv) Y.q fun i=>(Y.sal i).sv) n (iOf fun i=>i6 (p i))=(0:Int)→(¬erP (ydOf Y.g (fun i=>i6 (Y.st i)) Y.m (fun i=>(Y.sti i).sv) Y.q fun i=>(Y.sal i).sv) n (iOf fun i=>i6 (p i))=(10:Int)→(0:Nat)<(1:Nat)∧(∀ (i:Nat),i<Y.1→True)∧(ttG13 Y)∧(∀ (i:Nat),i<Y.5→True∧True∧True∧True)∧SV.agg [SV.lst (1:Nat) Y.g fun i=>i6 (Y.st i),SV.lst (5:Nat) Y.m fun i=>(Y.sti i).sv,SV.lst (3:Nat) Y.q fun i=>(Y.sal i).sv]=(ydOf Y.g (fun i=>i6 (Y.st i)) Y.m (fun i=>(Y.sti i).sv) Y.q fun i=>(Y.sal i).sv).sv∧((erP (ydOf Y.g (fun i=>i6 (Y.st i)) Y.m (fun i=>(Y.sti i).sv) Y.q fun i=>(Y.sal i).sv) n (iOf fun i=>i6 (p i))=(1:Int)↔¬okYd (ydOf Y.g (fun i=>i6 (Y.st i)) Y.m (fun i=>(Y.sti i).sv) Y.q fun i=>(Y.sal i).sv))→rE true∧True)∧(¬(erP (ydOf Y.g (fun i=>i6 (Y.st i)) Y.m (fun i=>(Y.sti i).sv) Y.q fun i=>(Y.sal i).sv) n (iOf fun i=>i6 (p i))=(1:Int)↔¬okYd (ydOf Y.g (fun i=>i6 (Y.st i)) Y.m (fun i=>(Y.sti i).sv) Y.q fun i=>(Y.sal i).sv))→false=true∧True))∧(¬¬erP (ydOf Y.g (fun i=>i6 (Y.st i)) Y.m (fun i=>(Y.sti i).sv) Y.q fun i=>(Y.sal i).sv) n (iOf fun i=>i6 (p i))=(10:Int)→(0:Nat)<(1:Nat)∧(∀ (i:Nat),i<Y.1→True)∧(ttG13 Y)∧(∀ (i:Nat),i<Y.5→True∧True∧True∧True)∧SV.agg [SV.lst (1:Nat) Y.g fun i=>i6 (Y.st i),SV.lst (5:Nat) Y.m fun i=>(Y.sti i).sv,SV.lst (3:Nat) Y.q fun i=>(Y.sal i).sv]=(ydOf Y.g (fun i=>i6 (Y.st i)) Y.m (fun i=>(Y.sti i).sv) Y.q fun i=>(Y.sal i).sv).sv∧(¬okYd (ydOf Y.g (fun i=>i6 (Y.st i)) Y.m (fun i=>(Y.sti i).sv) Y.q fun i=>(Y.sal i).sv)→false=true∧True)∧(ttG0 Y n p m b)))
noncomputable def ttG15 (Y:Yd) (n:Nat) (p:Nat→Int) (m:Nat) (b:Nat→Int):Prop:=(¬¬erP (ydOf Y.g (fun i=>i6 (Y.st i)) Y.m (fun i=>(Y.sti i).sv) Y.q fun i=>(Y.sal i).sv) n (iOf fun i=>i6 (p i))=(0:Int)→(0:Nat)<(1:Nat)∧(∀ (i:Nat),i<Y.1→True)∧(ttG13 Y)∧(∀ (i:Nat),i<Y.5→True∧True∧True∧True)∧SV.agg [SV.lst (1:Nat) Y.g fun i=>i6 (Y.st i),SV.lst (5:Nat) Y.m fun i=>(Y.sti i).sv,SV.lst (3:Nat) Y.q fun i=>(Y.sal i).sv]=(ydOf Y.g (fun i=>i6 (Y.st i)) Y.m (fun i=>(Y.sti i).sv) Y.q fun i=>(Y.sal i).sv).sv∧(¬okYd (ydOf Y.g (fun i=>i6 (Y.st i)) Y.m (fun i=>(Y.sti i).sv) Y.q fun i=>(Y.sal i).sv)→false=true∧True)∧(ttG0 Y n p m b))
theorem ttG_vc (Y:Yd) (n:Nat) (p:Nat→Int) (m:Nat) (b:Nat→Int):ttG Y n p m b =
((0:Nat)<(1:Nat)∧(∀ (i:Nat),i<Y.1→True)∧(ttG13 Y)∧(∀ (i:Nat),i<Y.5→True∧True∧True∧True)∧SV.agg [SV.lst (1:Nat) Y.g fun i=>i6 (Y.st i),SV.lst (5:Nat) Y.m fun i=>(Y.sti i).sv,SV.lst (3:Nat) Y.q fun i=>(Y.sal i).sv]=(ydOf Y.g (fun i=>i6 (Y.st i)) Y.m (fun i=>(Y.sti i).sv) Y.q fun i=>(Y.sal i).sv).sv∧(¬noLg (ydOf Y.g (fun i=>i6 (Y.st i)) Y.m (fun i=>(Y.sti i).sv) Y.q fun i=>(Y.sal i).sv) (1099511627776:Int)→rE true∧True)∧(¬¬noLg (ydOf Y.g (fun i=>i6 (Y.st i)) Y.m (fun i=>(Y.sti i).sv) Y.q fun i=>(Y.sal i).sv) (1099511627776:Int)→((20:Int)<(↑n:Int)→rE true∧True)∧(¬(20:Int)<(↑n:Int)→((↑m:Int)=(0:Int)→rE true∧True)∧(¬(↑m:Int)=(0:Int)→(0:Nat)<(1:Nat)∧(∀ (i:Nat),i<Y.1→True)∧(ttG13 Y)∧(∀ (i:Nat),i<Y.5→True∧True∧True∧True)∧(∀ (i:Nat),i<n →
True)∧SV.agg [SV.lst (1:Nat) Y.g fun i=>i6 (Y.st i),SV.lst (5:Nat) Y.m fun i=>(Y.sti i).sv,SV.lst (3:Nat) Y.q fun i=>(Y.sal i).sv]=(ydOf Y.g (fun i=>i6 (Y.st i)) Y.m (fun i=>(Y.sti i).sv) Y.q fun i=>(Y.sal i).sv).sv∧(SV.lst (1:Nat) n fun i=>i6 (p i))=iL n (iOf fun i=>i6 (p i))∧(0:Nat)<(1:Nat)∧(∀ (i:Nat),i<Y.1→True)∧(ttG13 Y)∧(∀ (i:Nat),i<Y.5→True∧True∧True∧True)∧(∀ (i:Nat),i<n→True)∧SV.agg [SV.lst (1:Nat) Y.g fun i=>i6 (Y.st i),SV.lst (5:Nat) Y.m fun i=>(Y.sti i).sv,SV.lst (3:Nat) Y.q fun i=>(Y.sal i).sv]=(ydOf Y.g (fun i=>i6 (Y.st i)) Y.m (fun i=>(Y.sti i).sv) Y.q fun i=>(Y.sal i).sv).sv∧(SV.lst (1:Nat) n fun i=>i6 (p i))=iL n (iOf fun i=>i6 (p i))∧(¬erP (ydOf Y.g (fun i=>i6 (Y.st i)) Y.m (fun i=>(Y.sti i).sv) Y.q fun i=>(Y.sal i).sv) n (iOf fun i=>i6 (p i))=erP
(ydOf Y.g (fun i=>i6 (Y.st i)) Y.m (fun i=>(Y.sti i).sv) Y.q fun i=>(Y.sal i).sv) n (iOf fun i=>i6 (p i))→false=true∧True)∧(¬¬erP (ydOf Y.g (fun i=>i6 (Y.st i)) Y.m (fun i=>(Y.sti i).sv) Y.q fun i=>(Y.sal i).sv) n (iOf fun i=>i6 (p i))=erP (ydOf Y.g (fun i=>i6 (Y.st i)) Y.m (fun i=>(Y.sti i).sv) Y.q fun i=>(Y.sal i).sv) n (iOf fun i=>i6 (p i))→(¬erP (ydOf Y.g (fun i=>i6 (Y.st i)) Y.m (fun i=>(Y.sti i).sv) Y.q fun i=>(Y.sal i).sv) n (iOf fun i=>i6 (p i))=(0:Int)→(¬(↑(lfN (ydOf Y.g (fun i=>i6 (Y.st i)) Y.m (fun i=>(Y.sti i).sv) Y.q fun i=>(Y.sal i).sv) n (iOf fun i=>i6 (p i))):Int)=(0:Int)→false=true∧True)∧(¬¬(↑(lfN (ydOf Y.g (fun i=>i6 (Y.st i)) Y.m (fun i=>(Y.sti i).sv) Y.q fun i=>(Y.sal i).sv) n (iOf fun i=>i6 (p i))):Int)=(0:Int)→(¬inI (ydOf Y.g (fun i=>i6 (Y.st i)) Y.m (fun i=>(Y.sti i).sv)
Y.q fun i=>(Y.sal i).sv) n (iOf fun i=>i6 (p i))=(0:Int)→false=true∧True)∧(¬¬inI (ydOf Y.g (fun i=>i6 (Y.st i)) Y.m (fun i=>(Y.sti i).sv) Y.q fun i=>(Y.sal i).sv) n (iOf fun i=>i6 (p i))=(0:Int)→(¬(↑(inN (ydOf Y.g (fun i=>i6 (Y.st i)) Y.m (fun i=>(Y.sti i).sv) Y.q fun i=>(Y.sal i).sv) n (iOf fun i=>i6 (p i))):Int)=(0:Int)→false=true∧True)∧(¬¬(↑(inN (ydOf Y.g (fun i=>i6 (Y.st i)) Y.m (fun i=>(Y.sti i).sv) Y.q fun i=>(Y.sal i).sv) n (iOf fun i=>i6 (p i))):Int)=(0:Int)→(ttG9 Y n p m b)∧(ttG15 Y n p m b)))))∧(¬¬erP (ydOf Y.g (fun i=>i6 (Y.st i)) Y.m (fun i=>(Y.sti i).sv) Y.q fun i=>(Y.sal i).sv) n (iOf fun i=>i6 (p i))=(0:Int)→(ttG9 Y n p m b)∧(ttG15 Y n p m b))))))):=by kernel_rfl
end Go.Proofs.Ytifjghgejnkdoaa

set_option maxRecDepth 100000
namespace Go.Proofs.Ytifjghgejnkdoaa
open Go Go.Lg
attribute [local irreducible] funS bodyH
theorem csV_sound:SoundS Try.prog csV:=ctrs_sound (by
 intro x hx
 simp at hx
 rcases hx with rfl | rfl | rfl | rfl | rfl
 ·exact lg_ok
 ·exact aw_ok
 ·exact ry_ok
 ·exact lf_ok
 ·exact in_ok)
section
variable {Y:Yd} (h:okYd Y) {p:Nat→Int} (hp:okPl Y.m Y.sti Y.m p) {n m:Nat} {b:Nat→Int} (hm:m≠0) (hb:∀ i,i<m→0≤b i∧b i≤65535)
include h hp
include hm hb in
theorem qt1 {x y:Tx} (hy:iv4 Y p y) (e:y.i*64+y.k=x.i*64+x.k):ttG1 Y n p m b x y:=by
 simp only [ttG1,ttG3,ttG5,ttG7,ttG8,ttG10,ttG11,ttG12,ttG13,ttG14,ttG16,ttG17,ttG19,ttG20,ttG22,ttG23,ttG24,ttG25,rI,rE,tt3,tt4,tt5,tt13,tt14,and_true,true_and,Nat.zero_lt_one,and_self,implies_true,Int.toNat_natCast,Nat.zero_add,Nat.add_zero,Nat.one_mul,Nat.mul_one,Classical.not_not,iff_self,Bool.false_eq_true,imp_false,and_imp,true_implies,forall_const,ft_fold,sti_fold,sal_fold,yd_fold,iOf_fold,stiOf_fold,salOf_fold,yv_fold]
 intro hj
 have g6:=h.g.b
 have m4:=h.s.a
 have ya:=hy.a
 have yk:=hy.k
 have yc:=hy.c
 have q:=hp.h y.i ya
 have s:=(h.s.b y.i ya).2
 have m1:=s.m1
 unfold okNb at q
 have on:=s.n
 have hjg:y.j<Y.g:=by omega
 obtain ⟨o1,o2,o3⟩:=(s.o y.j (by omega)).2
 have B:=bm_bd h hp ya (k:=y.k) (by omega) hjg
 have f:=hy.b y.j hjg
 have tz:=tm_bd (a:=(y.z:Int)) (b:=(m:Int)) (by omega) (by omega)
 have b1:=hb ((y.z:Int).tmod m).toNat (by omega)
 have T:=tm_bd (a:=b ((y.z:Int).tmod m).toNat+(y.z:Int)) (b:=((Y.sti y.i).out y.j).hi - ((Y.sti y.i).out y.j).lo+1) (by omega) (by omega)
 refine ⟨by omega,by omega,⟨by omega,by omega,by omega,by omega,by omega,by omega,by omega,by omega,by omega,by omega,by omega,by omega,by omega,by omega,by omega,by omega,by omega,by omega,by omega,by omega,by omega,by omega,by omega,by omega,by omega,⟨by omega,st_5 h hp hy hjg (t:=(b ((y.z:Int).tmod m).toNat+(y.z:Int)).tmod (((Y.sti y.i).out y.j).hi - ((Y.sti y.i).out y.j).lo+1)) (by omega) fun j=>rfl⟩,fun i hi=>(bm_st _ _ _ _ _).1⟩,fun t ht1 ht2 ht3=>?_⟩
 have ta:=ht2.a
 have tk:=ht2.k
 have tc:=ht2.c
 have tq:=hp.h t.i ta
 have tm1:=(h.s.b t.i ta).2.m1
 unfold okNb at tq
 simp only at ta tk tc
 have e1:((t.j:Int)+1).toNat=t.j+1:=by omega
 have e2:((t.z:Int)+1).toNat=t.z+1:=by omega
 rw [e1,e2]
 exact ⟨by omega,by omega,⟨ht2,by omega⟩,by omega,by omega,by omega,fun i hi=>rfl⟩
theorem qt2 {x y z:Tx} (hz:iv4 Y p z) (e1:z.i=y.i) (e2:z.k=y.k) (e3:y.i=x.i):ttG2 Y n p m b x y z:=by
 simp only [ttG2,ttG3,ttG5,ttG7,ttG8,ttG10,ttG11,ttG12,ttG13,ttG14,ttG16,ttG17,ttG19,ttG20,ttG22,ttG23,ttG24,ttG25,rI,rE,tt3,tt4,tt5,tt13,tt14,and_true,true_and,Nat.zero_lt_one,and_self,implies_true,Int.toNat_natCast,Nat.zero_add,Nat.add_zero,Nat.one_mul,Nat.mul_one,Classical.not_not,iff_self,Bool.false_eq_true,imp_false,and_imp,true_implies,forall_const,ft_fold,sti_fold,sal_fold,yd_fold,iOf_fold,stiOf_fold,salOf_fold,yv_fold]
 intro hj
 have za:=hz.a
 have zk:=hz.k
 have zj:=hz.j
 have q:=hp.h z.i za
 have s:=(h.s.b z.i za).2
 have m1:=s.m1
 have p0:=s.p0
 have p1:=s.p1
 have m4:=h.s.a
 unfold okNb at q
 have c:=(pl_bd h hp z.i (by omega)).2
 have kp:=mul_bd (a:=(z.k:Int)) (A:=8) (by omega) (by omega) p0 p1
 have ek:((z.k:Int)+1).toNat=z.k+1:=by omega
 have ec:((z.k+1:Nat):Int)=z.k+1:=by omega
 rw [ek,← e1,← e2]
 refine ⟨by omega,by omega,⟨st_6 h hp hz (by omega),by omega⟩,by omega,Iff.rfl,by rw [ec,Int.add_mul,Int.one_mul]; omega,by omega,fun i hi=>?_⟩
 rw [bmF_last (by omega)]
 rfl
include hm hb in
theorem qt3 {x y:Tx} (hy:iv2 Y p y) (hk:(y.k:Int)<p y.i) (e3:y.i=x.i):∀ t2:Tx,iv4 Y p ⟨t2.i,t2.k,0,t2.f,t2.z,t2.L⟩→t2.i*64+t2.k=y.i*64+y.k→(iv4 Y p ⟨t2.i,t2.k,Int.toNat 0,fun i=>prI (i6 (t2.f i)),t2.z,t2.L⟩∧(0:Int)=((Int.toNat 0:Nat):Int))∧∀ t3:Tx,iv4 Y p t3→t3.i*64+t3.k=t2.i*64+t2.k→ttG1 Y n p m b t2 t3∧ttG2 Y n p m b x y t3:=by
 intro t2 h2 e
 refine ⟨⟨h2,rfl⟩,fun t3 h3 e'=>⟨qt1 h hp hm hb h3 e',?_⟩⟩
 have a3:=h3.a
 have k3:=h3.k
 have q:=hp.h t3.i a3
 have m1:=(h.s.b t3.i a3).2.m1
 unfold okNb at q
 have q':=hp.h y.i hy.a
 have m1':=(h.s.b y.i hy.a).2.m1
 unfold okNb at q'
 exact qt2 h hp h3 (by omega) (by omega) e3
theorem qt4 (hc:canL Y p Y.m) (eN:inN Y n p=Y.q) {z:Nat} {x:Nat × Nat} (h1:x.1<Y.q) (h2:x.2≤Y.q) (h3:x.1=z):ttG4 Y n p z x:=by
 simp only [ttG4,ttG18,ttG21,ttG3,ttG5,ttG7,ttG8,ttG10,ttG11,ttG12,ttG13,ttG14,ttG16,ttG17,ttG19,ttG20,ttG22,ttG23,ttG24,ttG25,rI,rE,tt3,tt4,tt5,tt13,tt14,and_true,true_and,Nat.zero_lt_one,and_self,implies_true,Int.toNat_natCast,Nat.zero_add,Nat.add_zero,Nat.one_mul,Nat.mul_one,Classical.not_not,iff_self,Bool.false_eq_true,imp_false,and_imp,true_implies,forall_const,ft_fold,sti_fold,sal_fold,yd_fold,iOf_fold,stiOf_fold,salOf_fold,yv_fold]
 rw [eN]
 intro hl
 have q6:=h.l.a
 have nx:((-9223372036854775808:Int)≤(x.2:Int)+1∧(x.2:Int)+1≤9223372036854775807)∧((x.1<Y.q∧((x.2:Int)+1).toNat≤Y.q)∧x.1=z)∧Y.q - ((x.2:Int)+1).toNat<Y.q - x.2∧(x.2:Int)+1=((((x.2:Int)+1).toNat:Nat):Int):=by omega
 refine ⟨by omega,by omega,by omega,by omega,fun hg=>⟨by omega,by omega,by omega,by omega,fun hpr=>⟨by omega,by omega,by omega,by omega,fun hs=>⟨by omega,by omega,?_,fun _=>nx⟩,fun _=>nx⟩,fun _=>nx⟩,fun _=>nx⟩
 have:=price_no h hp hc (i:=x.1) (k:=x.2) (by omega) (by omega) hg hpr hs
 omega
theorem qt5 {t0 t1:Tx} (h1:iv2 Y p t1) (e:t1.i=t0.i) (hk:(t1.k:Int)<p t1.i) {L A:Prop} (hL:L→shT Y p t1.i (t1.k+1)) (hA:A):((0≤(Y.sti t1.i).inn∧(Y.sti t1.i).inn<(Y.g:Int)∧(Y.sti t1.i).inn.toNat<Y.g)∧((-9223372036854775808:Int)≤t1.f (Y.sti t1.i).inn.toNat - (Y.sti t1.i).takes∧t1.f (Y.sti t1.i).inn.toNat - (Y.sti t1.i).takes≤9223372036854775807)∧((-9223372036854775808:Int)≤(btF (plX Y p t1.i).l (Y.sti t1.i) t1.k (Y.sti t1.i).inn.toNat).lo - (Y.sti t1.i).takes∧(btF (plX Y p t1.i).l (Y.sti t1.i) t1.k (Y.sti t1.i).inn.toNat).lo - (Y.sti t1.i).takes≤9223372036854775807)∧iv4 Y p ⟨t1.i,t1.k,0,fun i=>prI (putR (fun j=>i6 (t1.f j)) (Y.sti t1.i).inn.toNat 0 (SV.int .i64 (t1.f (Y.sti t1.i).inn.toNat - (Y.sti t1.i).takes)) i),t1.z,L⟩∧(∀ i,i<Y.g→(if i=(Y.sti t1.i).inn.toNat then (btF (plX Y p t1.i).l (Y.sti t1.i) t1.k (Y.sti t1.i).inn.toNat).lo - (Y.sti t1.i).takes else (btF (plX Y p t1.i).l (Y.sti t1.i) t1.k i).lo)=(btF (plX Y p t1.i).l (Y.sti t1.i) t1.k i).lo - tkI (Y.sti t1.i) i)∧A):=by
 have inn:=inn_g h hp h1.a
 have f:=f_bd h hp h1 inn.2.2
 have q:=hp.h t1.i h1.a
 have s:=(h.s.b t1.i h1.a).2
 have m1:=s.m1
 have t0':=s.t0
 have t1':=s.t1
 unfold okNb at q
 have B:=(bt_bd h hp h1.a (k:=t1.k) (by omega) inn.2.2).1
 exact ⟨inn,by omega,by omega,st_4 h hp h1 hk hL fun j=>rfl,fun i hi=>(bm_in h (k:=t1.k) h1.a).1,hA⟩
include hm hb in
theorem qt0 (hn:n=Y.m) (he:erP Y n p=0∨erP Y n p=10):ttG0 Y n p m b:=by
 simp only [ttG0,ttG6,ttG9,ttG15,ttG18,ttG21,ttG3,ttG5,ttG7,ttG8,ttG10,ttG11,ttG12,ttG13,ttG14,ttG16,ttG17,ttG19,ttG20,ttG22,ttG23,ttG24,ttG25,rI,rE,tt3,tt4,tt5,tt13,tt14,and_true,true_and,Nat.zero_lt_one,and_self,implies_true,Int.toNat_natCast,Nat.zero_add,Nat.add_zero,Nat.one_mul,Nat.mul_one,Classical.not_not,iff_self,Bool.false_eq_true,imp_false,and_imp,true_implies,forall_const,ft_fold,sti_fold,sal_fold,yd_fold,iOf_fold,stiOf_fold,salOf_fold,yv_fold]
 subst hn
 have g6:=h.g.b
 have m4:=h.s.a
 have q6:=h.l.a
 refine fun _=>⟨rfl,fun _=>⟨⟨by omega,by omega,by omega,by omega,fun i hi=>by rw [if_neg (by omega),Nat.sub_zero]⟩,⟨st_0 rfl (fun x=>x),rfl,⟨fun x=>x.elim,fun x=>x fun i hi=>by have:i<0:=hi; omega⟩,rfl,fun i hi=>?_⟩,fun t0 h0=>⟨fun hl=>?_,fun hl=>?_⟩⟩⟩
 ·show Y.st i=(if i<Y.g then (⟨Y.st i,Y.st i⟩:Tw) else ⟨0,0⟩).lo
  rw [if_pos hi]
 ·have hi:t0.i<Y.m:=by omega
  refine ⟨by omega,hl,⟨st_2 h hp h0 hi,(sh_zero h hp hi).symm,?_,rfl,fun j hj=>?_⟩,fun t1 h1 e=>⟨by omega,by omega,fun hk=>?_,fun hk=>?_⟩⟩
  ·show _=_+(0:Int)*_
   rw [Int.zero_mul]; omega
  ·show _=_+(0:Int)*_
   rw [Int.zero_mul]; omega
  ·have T:=qt3 h hp (n:=Y.m) hm hb h1 hk e
   refine ⟨fun hL=>⟨fun hs=>?_,fun hs=>absurd (h1.d hL) hs⟩,fun hL=>?_⟩
   ·obtain ⟨⟨i0,i1,i2⟩,f,B,v,r,A⟩:=qt5 h hp h1 e hk (L:=True) (fun _=>sh_up h hp h1 hL) trivial
    exact ⟨⟨i0,i1,i2,f,i0,i1,i2,B,i0,i1,Nat.le_refl _,i2,i0,i1,Nat.le_refl _,i2,v,⟨fun _=>sh_up h hp h1 hL,fun _=>trivial⟩,r⟩,T⟩
   ·obtain ⟨⟨i0,i1,i2⟩,f,B,v,r,A⟩:=qt5 h hp h1 e hk (L:=t1.f (Y.sti t1.i).inn.toNat<(Y.sti t1.i).takes) (fun x=>sh_more h hp h1 x) trivial
    refine ⟨i0,i1,i2,fun hs=>⟨⟨i0,i1,i2,f,i0,i1,i2,B,i0,i1,Nat.le_refl _,i2,i0,i1,Nat.le_refl _,i2,v,Iff.rfl,⟨fun _=>(sh_succ h hp h1.a).2 (.inl hs),fun _=>trivial⟩,r⟩,T⟩,fun hs=>⟨i0,i1,i2,⟨i0,i1,i2,f,i0,i1,i2,B,i0,i1,Nat.le_refl _,i2,i0,i1,Nat.le_refl _,i2,v,Iff.rfl,⟨fun x=>(sh_succ h hp h1.a).2 (.inr x),fun x=>((sh_succ h hp h1.a).1 x).resolve_left hs⟩,r⟩,T⟩⟩
  ·have q:=hp.h t1.i h1.a
   have kk:=h1.k
   unfold okNb at q
   have ek:(t1.k:Int)=p t1.i:=by omega
   have e1:((t1.i:Int)+1).toNat=t1.i+1:=by omega
   rw [e1]
   refine ⟨by have:=h1.a; omega,st_7 h hp h1 ek,by omega,?_,by rw [ek],by omega,fun j hj=>?_⟩
   ·have:=sh_last h hp h1.a
    rwa [show (p t1.i).toNat=t1.k by omega] at this
   ·have:=pl_row h hp h1.a ek hj
    exact congrArg Tw.lo this
 ·have ia:=h0.a
  have im:t0.i=Y.m:=by omega
  refine ⟨fun h10=>?_,fun hn10=>?_⟩
  ·rw [im]
   intro hc
   have:=(er0 h hp hc).2
   omega
  have e0:erP Y Y.m p=0:=by omega
  obtain ⟨-,-,hc⟩:=erP_ok e0
  have eN:inN Y Y.m p=Y.q:=by rw [inN,if_pos e0]
  have eL:lfN Y Y.m p=Y.g:=by rw [lfN,if_pos e0]
  have eI:inI Y Y.m p=(inS Y p).c - (plX Y p Y.m).c:=by rw [inI,if_pos e0]
  have ci:canL Y p t0.i:=by rw [im]; exact hc
  have cb:=(pl_bd h hp Y.m (Nat.le_refl _)).2
  rw [eN,eL]
  refine ⟨fun l=>h0.d l ci,fun _=>⟨ci,fun _=>⟨rfl,fun _=>⟨rfl,fun _=>⟨⟨su_0 h hp h0 im rfl,by rw [im],rfl,fun j hj=>?_⟩,fun u hu=>⟨fun hl=>?_,fun hl=>⟨by omega,⟨su_k hu (Nat.zero_le _),?_,rfl⟩,fun u1 hu1=>⟨fun hl1=>?_,fun hl1=>?_⟩⟩⟩⟩⟩⟩⟩⟩
  ·rw [im,← lh_lo,lh_0]
  ·have ug:u.1<Y.g:=by omega
   have bb:=hu.b u.1 ug
   rw [lh_0] at bb
   have e1:((u.1:Int)+1).toNat=u.1+1:=by omega
   rw [e1]
   refine ⟨by omega,hl,ug,by omega,hl,by omega,fun _=>⟨by omega,hl,ug,by omega,hl,by omega,fun _=>⟨by omega,hl,ug,by omega,hl,by rw [← lh_lo,lh_0],fun _=>⟨by omega,su_k hu (by omega),by omega,by omega⟩⟩⟩⟩
  ·show _=-(plX Y p Y.m).c+(0:Int)
   omega
  ·have uq:u1.1<Y.q:=by omega
   have sl:=h.l.b u1.1 uq
   have gg:=gd_lt h hp hc uq
   have g0:=sl.g0
   have sb:=so_bd h hp hc uq
   have m1:=sl.m1
   have tb:=t_bd h hp hc (i:=u1.1) (by omega) hu1 gg
   have st:ivS Y p Y.q (u1.1+1) (u1.1,fun i=>prI (putR (fun j=>i6 (u1.2 j)) (Y.sal u1.1).good.toNat 0 (SV.int .i64 (u1.2 (Y.sal u1.1).good.toNat - (inS Y p).s u1.1)) i)):=su_s hu1 (fun j=>rfl) (by omega)
   have rw':∀ i,i<Y.g→(if i=(Y.sal u1.1).good.toNat then lsF Y p u1.1 (Y.sal u1.1).good.toNat - (inS Y p).s u1.1 else lsF Y p u1.1 i)=lsF Y p (u1.1+1) i:=fun i hi=>by
    rw [ls_succ]
    by_cases x:i=(Y.sal u1.1).good.toNat
    ·rw [if_pos x,if_pos x.symm,← x]
    ·rw [if_neg x,if_neg fun y=>x y.symm,Int.sub_zero]
   refine ⟨by omega,by omega,by omega,by omega,by omega,fun _=>⟨by omega,by omega,by omega,fun _=>⟨⟨by omega,by omega,gg,by omega,by omega,by omega,⟨by omega,by omega,gg,by omega,by omega,by omega,by omega,by omega,by omega,gg,by omega,by omega,by omega,gg,⟨uq,st⟩,rw'⟩,by omega,by omega,by omega,by omega,gg,by omega,by omega,by omega,by omega,gg,by omega,by omega,by omega,gg,⟨uq,st⟩,rw'⟩,fun u2 h2 hu2 e2=>?_⟩⟩⟩
   have sl2:=h.l.b u2.1 h2
   have sb2:=so_bd h hp hc h2
   have pb:=mul_bd sb2.1 (Int.le_trans sb2.2 sl2.m1) sl2.p0 sl2.p1
   have su:=su_bd h hp hc u2.1 (by omega)
   have e1:((u2.1:Int)+1).toNat=u2.1+1:=by omega
   rw [e1]
   refine ⟨by omega,by omega,by omega,by omega,by omega,su_k hu2 (by omega),by omega,(sf_succ _).symm,by omega,fun i hi=>rfl⟩
  ·have u1a:=hu1.a
   have uq:u1.1=Y.q:=by omega
   rw [uq] at hu1 ⊢
   refine ⟨⟨su_k hu1 (Nat.zero_le _),rfl,rfl,fun i hi=>rfl⟩,fun u2 hu2=>⟨fun hl2=>?_,fun hl2=>⟨⟨0,by omega,rfl⟩,fun z hz=>⟨fun hlz=>?_,fun hlz=>?_⟩⟩⟩⟩
   ·have ug:u2.1<Y.g:=by omega
    have tb:=t_bd h hp hc (i:=Y.q) (Nat.le_refl _) hu2 ug
    have e1:((u2.1:Int)+1).toNat=u2.1+1:=by omega
    rw [e1]
    exact ⟨by omega,hl2,ug,by omega,fun _=>⟨by omega,hl2,ug,by omega,fun _=>⟨by omega,su_k hu2 (by omega),by omega,by omega⟩⟩⟩
   ·have zq:z<Y.q:=by omega
    have sl:=h.l.b z zq
    have gg:=gd_lt h hp hc zq
    have g0:=sl.g0
    have nx:∀ v1:Nat × Nat,v1.1<Y.q→v1.2≤Y.q→v1.1=z→ttG4 Y Y.m p z v1∧(¬ (v1.2:Int)<(Y.q:Int)→((-9223372036854775808:Int)≤(v1.1:Int)+1∧(v1.1:Int)+1≤9223372036854775807)∧∃ z2:Nat,z2≤Y.q∧Y.q - z2<Y.q - z∧(v1.1:Int)+1=(z2:Int)):=fun v1 a1 a2 a3=>⟨qt4 h hp hc eN a1 a2 a3,fun _=>⟨by omega,z+1,by omega,by omega,by omega⟩⟩
    refine ⟨by omega,hlz,by omega,hlz,fun hs=>⟨by omega,hlz,by omega,by omega,gg,?_,fun _=>⟨⟨⟨zq,Nat.zero_le _⟩,rfl⟩,nx⟩⟩,fun _=>⟨⟨⟨zq,Nat.zero_le _⟩,rfl⟩,nx⟩⟩
    rw [more_no h hp hc zq hs]
    omega
   ·rw [eI]
    exact su_end h hp hc
end
theorem erP_10 {Y:Yd} {n:Nat} {p:Nat→Int} (h:erP Y n p=10):okYd Y∧okPl Y.m Y.sti n p:=by
 unfold erP at h
 split at h
 ·rename_i h1
  split at h
  ·rename_i h2
   exact ⟨h1,h2⟩
  ·omega
 ·omega
theorem erP_1 {Y:Yd} {n:Nat} {p:Nat→Int}:erP Y n p=1↔¬ okYd Y:=by
 unfold erP
 by_cases h:okYd Y
 ·rw [if_pos h]
  refine ⟨fun x=>?_,fun x=>absurd h x⟩
  split at x
  ·split at x <;> omega
  ·omega
 ·rw [if_neg h]
  exact ⟨fun _=>h,fun _=>rfl⟩
theorem tt_true {Y:Yd} {n:Nat} {p:Nat→Int} {m:Nat} {b:Nat→Int} (hb:∀ i,i<m→0≤b i∧b i≤65535):ttG Y n p m b:=by
 rw [ttG_vc]
 simp only [ttG9,ttG15,ttG5,ttG7,ttG8,ttG12,ttG13,ttG14,rI,rE,tt3,tt4,tt5,tt13,tt14,and_true,true_and,Nat.zero_lt_one,and_self,implies_true,Int.toNat_natCast,Nat.zero_add,Nat.add_zero,Nat.one_mul,Nat.mul_one,Classical.not_not,iff_self,Bool.false_eq_true,imp_false,and_imp,true_implies,forall_const,ft_fold,sti_fold,sal_fold,yd_fold,iOf_fold,stiOf_fold,salOf_fold,yv_fold]
 intro _ _ hm0
 have hm:m≠0:=fun x=>hm0 (by rw [x]; rfl)
 have T:erP Y n p=0∨erP Y n p=10→okYd Y∧ttG0 Y n p m b:=fun he=>by
  have k:okYd Y∧okPl Y.m Y.sti n p:=he.elim (fun e=>⟨(erP_ok e).1,(erP_ok e).2.1⟩) erP_10
  obtain ⟨h,hp⟩:=k
  have hn:=hp.e
  subst hn
  exact ⟨h,qt0 h hp hm hb rfl he⟩
 have z1:¬ erP Y n p=0→lfN Y n p=0∧inI Y n p=0∧inN Y n p=0:=fun hh=>⟨by rw [lfN,if_neg hh],by rw [inI,if_neg hh],by rw [inN,if_neg hh]⟩
 refine ⟨rfl,rfl,fun hne=>?_,fun e0=>⟨fun x=>absurd e0 x,fun _=>T (.inl e0)⟩⟩
 obtain ⟨a1,a2,a3⟩:=z1 hne
 exact ⟨by rw [a1]; rfl,fun _=>⟨a2,fun _=>⟨by rw [a3]; rfl,fun _=>⟨fun _=>⟨fun _=>erP_1,fun e=>T (.inr e)⟩,fun e=>absurd e hne⟩⟩⟩⟩
end Go.Proofs.Ytifjghgejnkdoaa
