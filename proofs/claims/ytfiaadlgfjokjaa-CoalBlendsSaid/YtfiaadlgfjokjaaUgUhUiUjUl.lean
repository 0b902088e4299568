import Derived.Test.YtfiaadlgfjokjaaUeUeVUfTjTkTl
import Derived.Test.YtfiaadlgfjokjaaQlQlVTiTiV
import Derived.Test.YtfiaadlgfjokjaaQmUaUaVUbUcUcVSaSaVSbSc
set_option linter.unusedVariables false
set_option linter.unusedSimpArgs false
set_option linter.unusedSectionVars false
set_option maxRecDepth 100000
namespace Go.Proofs.Ytfiaadlgfjokjaa
open Go Go.Lg
attribute [local irreducible] funS bodyH
theorem dr_in {Y:Yd} {a:Int} (h:drE Y a a=0):0≤a∧a<dn Y.m Y.m.n:=by
 apply Classical.byContradiction
 intro hn
 rw [drE_2 (drE_ck h) (by omega)] at h
 omega
theorem dn_at {M:Ms} {d:Nat}:∀ m,d<dn M m→∃ k,k<m∧(M.f k).co=-1∧dn M k=d
 | 0,h=>by simp [dn] at h
 | m+1,h=>by
  by_cases hd:(M.f m).co=-1
  ·rw [dn_y hd] at h
   by_cases e:d=dn M m
   ·exact ⟨m,by omega,hd,e.symm⟩
   ·obtain ⟨k,h1,h2⟩:=dn_at m (show d<dn M m by omega)
    exact ⟨k,by omega,h2⟩
  ·rw [dn_n hd] at h
   obtain ⟨k,h1,h2⟩:=dn_at m h
   exact ⟨k,by omega,h2⟩
theorem en_sum {Y:Yd} {a:Int} (h:drE Y a a=0):enA Y a=(drS Y a a).hi - (drS Y a a).lo∧1≤enA Y a:=by
 obtain ⟨h0,h1⟩:=dr_in h
 obtain ⟨k,hk,hd,e⟩:=dn_at (M:=Y.m) (d:=a.toNat) Y.m.n (by omega)
 have ea:a=(dn Y.m k:Nat):=by omega
 subst ea
 have hc:=drE_ck h
 obtain ⟨hC,hM,hS⟩:=ck_0 hc
 have ds2:=(draw_sum hc hk hd).2
 have d1:=dn_y hd
 have s1:ds Y.m (dn Y.m k) Y.m.n=sumJ (uoI Y.m) k:=ds_to (by omega)
 have s2:ds Y.m ((dn Y.m k:Int)+1) Y.m.n=sumJ (uoI Y.m) (k+1):=by
  have:((dn Y.m k:Int)+1)=((dn Y.m (k+1):Nat):Int):=by rw [d1]; rfl
  rw [this]; exact ds_to (by omega)
 have u:=uo_s Y.m k
 unfold uoI at u
 rw [if_pos hd] at u
 change sumJ (uoI Y.m) (k+1)=sumJ (uoI Y.m) k+(Y.m.f k).tn at u
 have t0:=(hM.h k hk).t0
 have e2:enA Y (dn Y.m k)=ptA (dwL Y (dn Y.m k)):=rfl
 rw [drS_y h,s1,s2,e2,ds2]
 dsimp only
 omega
section
variable {Y:Yd} {a:Int} (h:drE Y a a=0) {i:Nat} (hi:i<(dwL Y a).length)
include h hi
theorem en_ok:okP (enP Y a i)∧0<(enP Y a i).tn∧(enP Y a i).tn≤(enP Y a i).l.to - (enP Y a i).l.fr:=dw_okP (getD_mem hi)
theorem en_ly:∃ j,j<(lyL Y.m Y.m.n).length∧(enP Y a i).l=lyF Y.m j∧(enP Y a i).nu=j:=by
 have m:=getD_mem (d:=zP) hi
 unfold enP
 generalize (dwL Y a).getD i zP=q at m ⊢
 rw [dw_yes h] at m
 exact po_form _ _ m
theorem at_co {k:Nat} (hk:k<6):(enP Y a i).l.at k=cnF Y a i k:=by
 obtain ⟨j,h1,h2,h3⟩:=en_ly h hi
 obtain ⟨hC,hM,hS⟩:=ck_0 (drE_ck h)
 have:=(co_inv (M:=Y.m) hk (fun k hk=>(hM.h k hk).c0) Y.m.n (Nat.le_refl _)).1 j h1
 unfold cnF
 rw [h2,h3]
 exact this
theorem cn_0 {k:Nat} (hk:Y.c.n≤k):cnF Y a i k=0:=by
 obtain ⟨hC,hM,hS⟩:=ck_0 (drE_ck h)
 unfold cnF
 generalize (enP Y a i).nu=o
 have:∀ m,m≤Y.m.n→ctF Y.m o m k=0:=by
  intro m
  induction m with
  | zero=>intro _; rfl
  | succ m ih =>
   intro hm
   have:=(hM.h m (by omega)).c1
   rw [co_s,ih (by omega),coI,if_neg fun x=>by omega]; rfl
 exact this _ (Nat.le_refl _)
theorem cn_nn {k:Nat}:0≤cnF Y a i k∧cnF Y a i k≤33554432:=by
 obtain ⟨hC,hM,hS⟩:=ck_0 (drE_ck h)
 exact co_bd hM (Nat.le_refl _)
theorem cn_all:cnR Y a i Y.c.n=(enP Y a i).l.to - (enP Y a i).l.fr:=by
 obtain ⟨hC,hM,hS⟩:=ck_0 (drE_ck h)
 obtain ⟨j,h1,h2,h3⟩:=en_ly h hi
 have hn:=hC.b
 have e6:∀ d,Y.c.n+d≤6→sumJ (cnF Y a i) (Y.c.n+d)=sumJ (cnF Y a i) Y.c.n:=by
  intro d
  induction d with
  | zero=>intro _; rfl
  | succ d ih =>
   intro hd
   show sumJ (cnF Y a i) (Y.c.n+d)+cnF Y a i (Y.c.n+d)=_
   rw [ih (by omega),cn_0 h hi (by omega)]; omega
 have e:=e6 (6 - Y.c.n) (by omega)
 rw [show Y.c.n+(6 - Y.c.n)=6 by omega] at e
 have s:=(ly_S (ck_ly (drE_ck h)) Y.m.n (Nat.le_refl _)).2 _ (ly_mem h1)
 rw [← h2] at s
 have s6:sumJ (cnF Y a i) 6=laS (enP Y a i).l:=by
  simp only [sumJ,← at_co h hi (show 0<6 by omega),← at_co h hi (show 1<6 by omega),← at_co h hi (show 2<6 by omega),← at_co h hi (show 3<6 by omega),← at_co h hi (show 4<6 by omega),← at_co h hi (show 5<6 by omega)]
  show 0+(enP Y a i).l.c0+(enP Y a i).l.c1+(enP Y a i).l.c2+(enP Y a i).l.c3+(enP Y a i).l.c4+(enP Y a i).l.c5=_
  unfold laS; omega
 unfold cnR
 rw [← e,s6,s]
end
noncomputable def reI (Y:Yd) (a:Int) (w i j:Nat):Int:=if j=w then 0 else cnF Y a i j
noncomputable def reF (Y:Yd) (a:Int) (w i k:Nat):Int:=sumJ (reI Y a w i) k
section
variable {Y:Yd} {a:Int} (h:drE Y a a=0) {i:Nat} (hi:i<(dwL Y a).length) {w:Nat} (hw:w<Y.c.n) (s:Nat)
include h hi
theorem re_eq (k:Nat):reF Y a w i k=cnR Y a i k - (if w<k then cnF Y a i w else 0):=by
 induction k with
 | zero=>simp [reF,cnR,sumJ]
 | succ k ih =>
  have e:reF Y a w i (k+1)=reF Y a w i k+reI Y a w i k:=rfl
  have e2:cnR Y a i (k+1)=cnR Y a i k+cnF Y a i k:=rfl
  rw [e,e2,ih]
  unfold reI
  by_cases q:k=w
  ·subst q; rw [if_pos rfl,if_neg (by omega),if_pos (by omega)]; omega
  ·rw [if_neg q]
   by_cases q2:w<k
   ·rw [if_pos q2,if_pos (by omega)]; omega
   ·rw [if_neg q2,if_neg (by omega)]; omega
include hw
theorem cw_le:cnF Y a i w≤cnR Y a i Y.c.n:=by
 have e:=re_eq h hi (w:=w) Y.c.n
 rw [if_pos hw] at e
 have:0≤reF Y a w i Y.c.n∧reF Y a w i Y.c.n≤Y.c.n*33554432:=sj_bd fun j hj=>by
  have:=cn_nn h hi (k:=j)
  unfold reI
  split <;> omega
 omega
theorem n0_bd:(0≤n0F Y a w s i∧n0F Y a w s i≤cnF Y a i w)∧n0F Y a w s i≤(enP Y a i).tn∧(enP Y a i).tn - n0F Y a w s i≤cnR Y a i Y.c.n - cnF Y a i w:=by
 have o:=en_ok h hi
 have r:=cn_all h hi
 have c:=cn_nn h hi (k:=w)
 have l:=cw_le h hi hw
 unfold n0F
 split <;> omega
theorem nd_eq (k:Nat):ndF Y a w s i k=max 0 ((enP Y a i).tn - n0F Y a w s i - reF Y a w i k):=by
 have b:=n0_bd h hi hw s
 induction k with
 | zero =>
  show (enP Y a i).tn - n0F Y a w s i=max 0 ((enP Y a i).tn - n0F Y a w s i - 0)
  omega
 | succ k ih =>
  have e:reF Y a w i (k+1)=reF Y a w i k+reI Y a w i k:=rfl
  have c:=cn_nn h hi (k:=k)
  simp only [ndF]
  rw [e]
  unfold reI
  by_cases q:k=w
  ·rw [if_pos q,if_pos q,ih]; omega
  ·rw [if_neg q,if_neg q,ih]; omega
theorem nd_nn (k:Nat):0≤ndF Y a w s i k∧ndF Y a w s i k≤(enP Y a i).tn:=by
 have b:=n0_bd h hi hw s
 have:0≤reF Y a w i k∧reF Y a w i k≤k*33554432:=sj_bd fun j hj=>by
  have:=cn_nn h hi (k:=j)
  unfold reI
  split <;> omega
 have:=en_ok h hi
 rw [nd_eq h hi hw s]
 omega
theorem dv_bd (k:Nat):0≤dvF Y a w s i k∧dvF Y a w s i k≤cnF Y a i k:=by
 have b:=n0_bd h hi hw s
 have n:=nd_nn h hi hw s k
 have c:=cn_nn h hi (k:=k)
 unfold dvF
 split
 ·rename_i e; subst e; exact b.1
 ·omega
theorem n0_sh:n0F Y a w s i=if s=1 then (shS (enP Y a i) w).hi else (shS (enP Y a i) w).lo:=by
 have hn:=(ck_0 (drE_ck h)).1.b
 unfold n0F shS
 dsimp only
 rw [at_co h hi (by omega),cn_all h hi]
end
end Go.Proofs.Ytfiaadlgfjokjaa

set_option linter.unusedSectionVars false
set_option maxRecDepth 100000
namespace Go.Proofs.Ytfiaadlgfjokjaa
open Go Go.Lg
attribute [local irreducible] funS bodyH
theorem sj_add (f g:Nat→Int):∀ m,sumJ (fun k=>f k+g k) m=sumJ f m+sumJ g m
 | 0=>rfl
 | m+1=>by
  show sumJ (fun k=>f k+g k) m+(f m+g m)=sumJ f m+f m+(sumJ g m+g m)
  rw [sj_add f g m]; omega
theorem fr_all {p:Po} {T:Tn} (hn:T.n≤6) (h:∀ S:Int,0≤S→S<2 ^ T.n→asS T S≤roS p S):frP p T 0 0:=by
 have key:∀ r k S,k+r=T.n→0≤S→S<(2:Int) ^ k→frR p T r k S:=by
  intro r
  induction r with
  | zero =>
   intro k S hk h0 h1
   have:k=T.n:=by omega
   subst this
   exact h S h0 h1
  | succ r ih =>
   intro k S hk h0 h1
   have e:(2:Int) ^ (k+1)=2 ^ k*2:=Int.pow_succ 2 k
   refine ⟨ih (k+1) S (by omega) h0 (by omega),ih (k+1) _ (by omega) ?_ ?_⟩ <;> rw [or_pw (by omega) h0 h1] <;> omega
 exact key T.n 0 0 (by omega) (by omega) (by decide)
theorem fr_inv {p:Po} {T:Tn} (hn:T.n≤6) (h:frP p T 0 0):∀ S:Int,0≤S→S<2 ^ T.n→asS T S≤roS p S:=by
 have key:∀ r k S0,k+r=T.n→0≤S0→S0<(2:Int) ^ k→frR p T r k S0→∀ S:Int,0≤S→S<2 ^ T.n→S % 2 ^ k=S0→asS T S≤roS p S:=by
  intro r
  induction r with
  | zero =>
   intro k S0 hk h0 h1 hf S hs0 hs1 he
   have:k=T.n:=by omega
   subst this
   rw [Int.emod_eq_of_lt hs0 hs1] at he
   subst he
   exact hf
  | succ r ih =>
   intro k S0 hk h0 h1 hf S hs0 hs1 he
   have e:(2:Int) ^ (k+1)=2 ^ k*2:=Int.pow_succ 2 k
   have pp:(0:Int)<2 ^ k:=by
    have:(2:Int) ^ k=((2 ^ k:Nat):Int):=by simp
    have:=Nat.two_pow_pos k
    omega
   obtain ⟨hf1,hf2⟩:=hf
   rw [or_pw (by omega) h0 h1] at hf2
   have q0:=Int.emod_nonneg S (show (2:Int) ^ (k+1)≠0 by omega)
   have q1:=Int.emod_lt_of_pos S (show (0:Int)<2 ^ (k+1) by omega)
   have qm:S % 2 ^ (k+1) % 2 ^ k=S0:=by
    rw [Int.emod_emod_of_dvd S (by rw [e]; exact Int.dvd_mul_right _ _)]; exact he
   generalize hq:S % 2 ^ (k+1)=q at q0 q1 qm
   by_cases hl:q<2 ^ k
   ·rw [Int.emod_eq_of_lt q0 hl] at qm
    exact ih (k+1) S0 (by omega) h0 (by omega) hf1 S hs0 hs1 (by omega)
   ·have:(q - 2 ^ k) % 2 ^ k=S0:=by rw [Int.sub_emod_right]; exact qm
    rw [Int.emod_eq_of_lt (by omega) (by omega)] at this
    exact ih (k+1) (S0+2 ^ k) (by omega) (by omega) (by omega) hf2 S hs0 hs1 (by omega)
 intro S h0 h1
 exact key T.n 0 0 (by omega) (by omega) (by decide) h S h0 h1 (by simp)
theorem bit_1:∀ w<6,∀ j<6,(2 ^ w).testBit j=decide (j=w):=by decide
theorem bit_2:∀ n≤6,∀ w<n,∀ j<6,(2 ^ n - 1 - 2 ^ w).testBit j=decide (j<n∧j≠w):=by decide
theorem as_one {T:Tn} (hn:T.n≤6) {w:Nat} (hw:w<6):asS T ((2 ^ w:Nat):Int)=if w<T.n then T.f w else 0:=by
 have b:∀ j,j<6→akI T ((2 ^ w:Nat):Int) j=if j=w then T.f j else 0:=fun j hj=>by
  have hp:2 ^ w≤2 ^ 6:=Nat.pow_le_pow_right (by omega) (by omega)
  have:=bi_tb (n:=(j:Int)) (s:=((2 ^ w:Nat):Int)) (Int.natCast_nonneg _) (Int.lt_of_le_of_lt (Int.ofNat_le.2 hp) (by decide))
  rw [Int.toNat_natCast,Int.toNat_natCast,bit_1 w hw j hj] at this
  unfold akI
  by_cases e:j=w
  ·rw [if_pos (this.2 (by simp [e])),if_pos e]
  ·rw [if_neg fun x=>e (by simpa using this.1 x),if_neg e]
 have key:∀ m,m≤6→sumJ (akI T ((2 ^ w:Nat):Int)) m=if w<m then T.f w else 0:=by
  intro m
  induction m with
  | zero=>intro _; rfl
  | succ m ih =>
   intro hm
   show sumJ _ m+akI T _ m=_
   rw [ih (by omega),b m (by omega)]
   by_cases e:m=w
   ·subst e; rw [if_neg (by omega),if_pos rfl,if_pos (by omega)]; omega
   ·rw [if_neg e]
    by_cases q:w<m
    ·rw [if_pos q,if_pos (by omega)]; omega
    ·rw [if_neg q,if_neg (by omega)]; omega
 exact key T.n hn
theorem as_rest {T:Tn} (hT:T.n≤6) {n w:Nat} (hn:n≤6) (hw:w<n) (hnT:n≤T.n):asS T ((2 ^ n - 1 - 2 ^ w:Nat):Int)=tsJ T n - T.f w:=by
 have b:∀ j,j<6→akI T ((2 ^ n - 1 - 2 ^ w:Nat):Int) j=if j<n∧j≠w then T.f j else 0:=fun j hj=>by
  have hp:2 ^ n≤2 ^ 6:=Nat.pow_le_pow_right (by omega) (by omega)
  have:=bi_tb (n:=(j:Int)) (s:=((2 ^ n - 1 - 2 ^ w:Nat):Int)) (Int.natCast_nonneg _) (Int.lt_of_le_of_lt (Int.ofNat_le.2 (Nat.le_trans (Nat.le_trans (Nat.sub_le _ _) (Nat.sub_le _ _)) hp)) (by decide))
  rw [Int.toNat_natCast,Int.toNat_natCast,bit_2 n hn w hw j hj] at this
  unfold akI
  by_cases e:j<n∧j≠w
  ·rw [if_pos (this.2 (by simpa using e)),if_pos e]
  ·rw [if_neg fun x=>e (by simpa using this.1 x),if_neg e]
 have key:∀ m,m≤6→sumJ (akI T ((2 ^ n - 1 - 2 ^ w:Nat):Int)) m=tsJ T (min m n) - if w<m then T.f w else 0:=by
  intro m
  induction m with
  | zero=>intro _; simp [sumJ,tsJ]
  | succ m ih =>
   intro hm
   show sumJ _ m+akI T _ m=_
   have bm:=b m (by omega)
   rw [ih (by omega)]
   by_cases e:m<n
   ·rw [show min m n=m by omega,show min (m+1) n=m+1 by omega,ts_s]
    by_cases q:m=w
    ·subst q; rw [if_neg (by omega)] at bm; rw [bm,if_neg (by omega),if_pos (by omega)]; omega
    ·rw [if_pos ⟨e,q⟩] at bm; rw [bm]
     by_cases q2:w<m
     ·rw [if_pos q2,if_pos (by omega)]; omega
     ·rw [if_neg q2,if_neg (by omega)]; omega
   ·rw [if_neg (by omega)] at bm
    rw [bm,show min m n=n by omega,show min (m+1) n=n by omega,if_pos (by omega),if_pos (by omega)]; omega
 have:=key T.n hT
 rw [show min T.n n=n by omega,if_pos (by omega)] at this
 exact this
noncomputable def exT (Y:Yd) (a:Int) (w s k:Nat):Tn:=⟨Y.c.n,lxF Y a w s k⟩
section
variable {Y:Yd} {a:Int} (h:drE Y a a=0) {w:Nat} (hw:w<Y.c.n) (s:Nat)
include h hw
theorem lv_bd {i:Nat} (hi:i≤(dwL Y a).length) (k:Nat):0≤lvF Y a w s i k∧lvF Y a w s i k≤1073741824:=by
 have:=sj_bd (g:=fun i=>dvF Y a w s i k) (B:=33554432) (m:=i) fun j hj=>by
  have b:=dv_bd h (show j<(dwL Y a).length by omega) hw s k
  have c:=cn_nn h (show j<(dwL Y a).length by omega) (k:=k)
  omega
 have:=dw_len Y a
 unfold lvF
 omega
theorem lv_w (hs:s=1∨s=0):lvF Y a w s (dwL Y a).length w=if s=1 then (bsS (dwL Y a) w).hi else (bsS (dwL Y a) w).lo:=by
 have e:lvF Y a w s (dwL Y a).length w=sumJ (fun i=>n0F Y a w s i) (dwL Y a).length:=sumJ_congr fun i hi=>if_pos rfl
 rw [e]
 rcases hs with rfl | rfl
 ·rw [if_pos rfl]
  exact sumJ_congr fun i hi=>by rw [n0_sh h hi hw,if_pos rfl]; rfl
 ·rw [if_neg (by omega)]
  exact sumJ_congr fun i hi=>by rw [n0_sh h hi hw,if_neg (by omega)]; rfl
theorem ex_not {k:Nat} (hk:k<Y.c.n) (hkw:k≠w) (hs:s=1∨s=0):¬ caP Y a (exT Y a w s k):=fun c=>by
 have hn:=(ck_0 (drE_ck h)).1.b
 have es:=en_sum h
 have fi:=fr_inv (T:=exT Y a w s k) hn c.f
 have ue:=c.u.e
 rw [← es.1] at ue
 have xw:(exT Y a w s k).f w=lvF Y a w s (dwL Y a).length w+2*s - 1:=by
  show lxF Y a w s k w=_
  unfold lxF
  rw [if_neg fun e=>hkw e.symm,if_pos rfl]
 have lw:=lv_w h hw s hs
 have p1:2 ^ w<2 ^ Y.c.n:=Nat.pow_lt_pow_right (by omega) hw
 have p2:(2:Int) ^ Y.c.n=((2 ^ Y.c.n:Nat):Int):=by simp
 have p3:=Nat.two_pow_pos w
 rcases hs with rfl | rfl
 ·have f1:=fi ((2 ^ w:Nat):Int) (by omega) (by show _<(2:Int) ^ Y.c.n; omega)
  have e1:asS (exT Y a w 1 k) ((2 ^ w:Nat):Int)=(exT Y a w 1 k).f w:=by
   rw [as_one hn (by omega)]; exact if_pos hw
  have e2:roS (dwP Y a) ((2 ^ w:Nat):Int)=lvF Y a w 1 (dwL Y a).length w:=by
   rw [lw,if_pos rfl]
   refine sumJ_congr fun i hi=>?_
   show min (enP Y a i).tn (asS (lyT (enP Y a i).l) _)=_
   rw [as_one (T:=lyT (enP Y a i).l) (Nat.le_refl _) (by omega),if_pos (show w<(lyT (enP Y a i).l).n from (show w<6 by omega))]
   rfl
  rw [e1,e2,xw] at f1
  omega
 ·have f1:=fi ((2 ^ Y.c.n - 1 - 2 ^ w:Nat):Int) (by omega) (by show _<(2:Int) ^ Y.c.n; omega)
  have e1:asS (exT Y a w 0 k) ((2 ^ Y.c.n - 1 - 2 ^ w:Nat):Int)=enA Y a - (exT Y a w 0 k).f w:=by
   rw [as_rest (T:=exT Y a w 0 k) hn hn hw (Nat.le_refl _),ue]; rfl
  have e2:roS (dwP Y a) ((2 ^ Y.c.n - 1 - 2 ^ w:Nat):Int)=sumJ (fun i=>(enP Y a i).tn - (shS (enP Y a i) w).lo) (dwL Y a).length:=by
   refine sumJ_congr fun i hi=>?_
   show min (enP Y a i).tn (asS (lyT (enP Y a i).l) _)=_
   rw [as_rest (T:=lyT (enP Y a i).l) (Nat.le_refl _) hn hw hn]
   have t1:tsJ (lyT (enP Y a i).l) Y.c.n=cnR Y a i Y.c.n:=sumJ_congr fun j hj=>at_co h hi (by omega)
   have t2:(lyT (enP Y a i).l).f w=(enP Y a i).l.at w:=rfl
   rw [t1,t2,cn_all h hi]
   unfold shS
   dsimp only
   have:=(en_ok h hi).1.t
   have c:=cw_le h hi hw
   rw [cn_all h hi,← at_co h hi (show w<6 by omega)] at c
   omega
  have e3:sumJ (fun i=>(enP Y a i).tn - (shS (enP Y a i) w).lo) (dwL Y a).length=enA Y a - (bsS (dwL Y a) w).lo:=by
   have:sumJ (fun i=>((enP Y a i).tn - (shS (enP Y a i) w).lo)+(shS (enP Y a i) w).lo) (dwL Y a).length=enA Y a:=sumJ_congr fun i hi=>by show _=(enP Y a i).tn; omega
   rw [sj_add] at this
   have e:(bsS (dwL Y a) w).lo=sumJ (fun i=>(shS (enP Y a i) w).lo) (dwL Y a).length:=rfl
   rw [e]; omega
  rw [e1,e2,e3,xw,lw,if_neg (by omega)] at f1
  omega
end
end Go.Proofs.Ytfiaadlgfjokjaa

set_option linter.unusedSectionVars false
set_option maxRecDepth 100000
namespace Go.Proofs.Ytfiaadlgfjokjaa
open Go Go.Lg
attribute [local irreducible] funS bodyH
section
variable {Y:Yd} {a:Int} (h:drE Y a a=0) {w:Nat} (hw:w<Y.c.n) (s:Nat)
include h hw
end
theorem en2 {Y:Yd} {a:Int} {W:Nat} {z3:Nat × Nat} (h:enI10 Y a W z3) (hk:z3.2<Y.c.n) (hne:¬ z3.2=W):enG2 Y a W z3:=by
 obtain ⟨s,k⟩:=z3
 obtain ⟨⟨hE,hw⟩,hu,hz⟩:=h
 dsimp only at hu hz hk hne
 have hw:W<Y.c.n:=by omega
 unfold enG2 enG3 enG4 enG5 enG6
 simp only [rI,rE,tA,tB,tC,tD,and_true,true_and,Nat.zero_lt_one,and_self,implies_true,Int.toNat_natCast,Nat.zero_add,Nat.add_zero,Classical.not_not,Nat.not_lt_zero,if_false,Nat.sub_zero]
 have b1:=lv_bd hE hw s (Nat.le_refl _) W
 have b2:=lv_bd hE hw s (Nat.le_refl _) k
 refine ⟨by omega,by omega,by omega,by omega,by omega,by omega,by omega,by omega,by omega,by omega,by omega,by omega,by omega,by omega,by omega,by omega,by omega,by omega,by omega,by omega,⟨⟨hE,by omega⟩,hu,hz⟩,fun j hj=>?_⟩
 unfold lxF
 by_cases e:j=k
 ·subst e; rw [if_pos rfl,if_pos rfl]
 ·rw [if_neg e,if_neg e]
  by_cases e2:j=W
  ·subst e2; rw [if_pos rfl]
  ·rw [if_neg e2,if_neg e2]
theorem en7 {Y:Yd} {a:Int} {W:Nat} {z1 z3 z4:Nat × Nat} (h3:enI10 Y a W z3) (h:enI10 Y a W z4) (q:z4.1+2*z4.2=z3.1+2*z3.2) (h1:z3.1=z1.1) (hk:z3.2<Y.c.n) (hne:¬ z3.2=W):(¬ caE Y a (Tn.mk Y.c.n (lxF Y a W z4.1 z4.2))=0→False)∧enG7 Y a W z1 z3 z4 (lxF Y a W z4.1 z4.2):=by
 obtain ⟨s,k⟩:=z3
 obtain ⟨s4,k4⟩:=z4
 obtain ⟨⟨hE,hw⟩,hu,hz⟩:=h
 have hu3:=h3.u
 dsimp only at hu hz hk hne h1 q hu3
 have es:s4=s:=by omega
 have ek:k4=k:=by omega
 subst es; subst ek
 have hw:W<Y.c.n:=by omega
 have hn:=(ck_0 (drE_ck hE)).1.b
 have c0:caE Y a (Tn.mk Y.c.n (lxF Y a W s4 k4))=0:=ca_0 hE rfl
 have cn:¬ caP Y a (Tn.mk Y.c.n (lxF Y a W s4 k4)):=ex_not hE hw s4 hk hne (by omega)
 refine ⟨fun x=>x c0,?_⟩
 unfold enG7 enG3 enG4 enG5 enG6
 have e0:Yd.mk Y.c Y.m=Y:=rfl
 have e1:((k4:Int)+1).toNat=k4+1:=by omega
 simp only [rI,rE,tA,tB,tC,tD,and_true,true_and,Nat.zero_lt_one,and_self,implies_true,Int.toNat_natCast,Nat.zero_add,Nat.add_zero,Classical.not_not,Bool.false_eq_true,ms_fold,cl_fold,e0,e1]
 exact fun _=>⟨cn,fun _=>⟨by omega,⟨⟨⟨hE,by omega⟩,hu,by dsimp only; omega⟩,h1⟩,by omega,by omega⟩⟩
theorem en0 {Y:Yd} {a:Int} {W:Nat} {z1 z3:Nat × Nat} (h:enI10 Y a W z3) (h1:z3.1=z1.1):enG0 Y a W z1 z3:=by
 have h7:=fun z4 h4 q hk hne=>en7 (z1:=z1) (z4:=z4) h h4 q h1 hk hne
 have h2:=fun hk hne=>en2 h hk hne
 obtain ⟨s,k⟩:=z3
 obtain ⟨⟨hE,hw⟩,hu,hz⟩:=h
 dsimp only at hu hz h1 h7 h2
 have hn:=(ck_0 (drE_ck hE)).1.b
 unfold enG0 enG3 enG4 enG5 enG6 enG10
 have e0:Yd.mk Y.c Y.m=Y:=rfl
 have e1:((k:Int)+1).toNat=k+1:=by omega
 simp only [rI,rE,tA,tB,tC,tD,and_true,true_and,Nat.zero_lt_one,and_self,implies_true,Int.toNat_natCast,Nat.zero_add,Nat.add_zero,Classical.not_not,Bool.false_eq_true,ms_fold,cl_fold,mv_fold,cv_fold,e0,e1,Nat.le_refl]
 have st:(-9223372036854775808≤(k:Int)+1∧(k:Int)+1≤9223372036854775807)∨¬ (k<Y.c.n):=by omega
 refine fun hl=>⟨fun hk=>⟨by omega,⟨⟨⟨hE,hw⟩,hu,by dsimp only; omega⟩,h1⟩,by omega,by omega⟩,fun hk=>⟨by omega,hl,by omega,fun h0=>⟨fun hs=>⟨by omega,⟨⟨⟨hE,hw⟩,hu,by dsimp only; omega⟩,h1⟩,by omega,by omega⟩,fun hs=>?_⟩,fun h0=>?_⟩⟩
 ·exact ⟨by omega,by omega,h2 (by omega) (by omega),fun z4 h4=>⟨lxF Y a W z4.1 z4.2,fun _ _=>rfl,h7 z4 h4.1 h4.2 (by omega) (by omega)⟩⟩
 ·exact ⟨by omega,by omega,h2 (by omega) (by omega),fun z4 h4=>⟨lxF Y a W z4.1 z4.2,fun _ _=>rfl,h7 z4 h4.1 h4.2 (by omega) (by omega)⟩⟩
end Go.Proofs.Ytfiaadlgfjokjaa

set_option maxRecDepth 100000
namespace Go.Proofs.Ytfiaadlgfjokjaa
open Go Go.Lg
attribute [local irreducible] funS bodyH
end Go.Proofs.Ytfiaadlgfjokjaa

set_option maxRecDepth 100000
namespace Go.Proofs.Ytfiaadlgfjokjaa
open Go Go.Lg
attribute [local irreducible] funS bodyH
theorem lg_true' (Y:Yd):lgG Y:=by
 rw [lgG_vc]
 simp only [rI,rE,tA,tB,tC,tD,and_true,true_and,Nat.zero_lt_one,and_self,implies_true]
 refine ⟨fun h=>⟨fun _=>.inl h,fun _=>trivial⟩,fun h=>⟨fun h2=>.inr h2,fun h2=>h2.elim (fun h3=>absurd h3 h) id⟩⟩
theorem lg_ok':lgC.Ok Try.prog:=by
 refine ⟨by kernel_rfl,fun x k hk=>?_⟩
 simp only [lgC] at hk
 split at hk
 ·rename_i n f m g
  obtain ⟨h1,h2,hk⟩:=hk
  have hh:=lg_true' ⟨clOf n f,msOf m g⟩
  unfold lgG at hh
  simp only [Yd.sv] at hh
  rw [← h1,← h2] at hh
  have hh:funH Try.prog (ctrs []) noX (ictrs []) noL noL 9 [.agg [.lst 8 n f,.lst 3 m g]] _:=hh
  exact ⟨_,plainD nilS_cs nilS_x nilS_ic hh trivial,hk⟩
 ·exact hk.elim
theorem aw_ok':awC.Ok Try.prog:=by
 refine ⟨by kernel_rfl,fun x k hk=>?_⟩
 simp only [awC] at hk
 split at hk
 ·exact ⟨.bool true,Does.plain (res:=.bool true) aw_does trivial,hk⟩
 ·exact hk.elim
end Go.Proofs.Ytfiaadlgfjokjaa
