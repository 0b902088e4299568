import Derived.Test.YtfiaadlgfjokjaaUdTaTaVTbTcTdTdVTeVTeTfTgTgVTh
import Derived.Test.YtfiaadlgfjokjaaQlQlVTiTiV
import Derived.Test.YtfiaadlgfjokjaaQmUaUaVUbUcUcVSaSaVSbSc
set_option linter.unusedVariables false
set_option linter.unusedSimpArgs false
namespace Go.Proofs.Ytfiaadlgfjokjaa
open Go Go.Lg
attribute [local irreducible] bodyH funS
noncomputable def enP (Y:Yd) (a:Int) (i:Nat):Pn:=(dwL Y a).getD i zP
noncomputable def cnF (Y:Yd) (a:Int) (i k:Nat):Int:=ctF Y.m (enP Y a i).nu Y.m.n k
noncomputable def cnR (Y:Yd) (a:Int) (i k:Nat):Int:=sumJ (cnF Y a i) k
noncomputable def n0F (Y:Yd) (a:Int) (w s i:Nat):Int:=if s=1 then min (enP Y a i).tn (cnF Y a i w) else max 0 ((enP Y a i).tn - (cnR Y a i Y.c.n - cnF Y a i w))
noncomputable def ndF (Y:Yd) (a:Int) (w s i:Nat):Nat→Int
 | 0=>(enP Y a i).tn - n0F Y a w s i
 | k+1=>if k=w then ndF Y a w s i k else ndF Y a w s i k - min (ndF Y a w s i k) (cnF Y a i k)
noncomputable def dvF (Y:Yd) (a:Int) (w s i k:Nat):Int:=if k=w then n0F Y a w s i else min (ndF Y a w s i k) (cnF Y a i k)
noncomputable def lvF (Y:Yd) (a:Int) (w s i k:Nat):Int:=sumJ (fun i=>dvF Y a w s i k) i
noncomputable def lxF (Y:Yd) (a:Int) (w s k j:Nat):Int:=if j=k then lvF Y a w s (dwL Y a).length j+1 - 2*s else if j=w then lvF Y a w s (dwL Y a).length j+2*s - 1 else lvF Y a w s (dwL Y a).length j
structure enI (Y:Yd) (a:Int) (w:Int):Prop where
 e:drE Y a a=0
 w:0≤w∧w<Y.c.n
structure enI0 (Y:Yd) (a w:Int) (k:Nat):Prop where
 i:enI Y a w
 k:k≤(dwL Y a).length
structure enI2 (Y:Yd) (a w:Int) (s:Nat):Prop where
 i:enI Y a w
 u:s≤2
structure enI4 (Y:Yd) (a w:Int) (s:Nat × Nat):Prop where
 i:enI Y a w
 u:s.1<2
 k:s.2≤(dwL Y a).length
structure enI6 (Y:Yd) (a w:Int) (s:Nat × Nat × Nat):Prop where
 i:enI Y a w
 u:s.1<2
 k:s.2.1<(dwL Y a).length
 z:s.2.2≤Y.c.n
structure enI10 (Y:Yd) (a w:Int) (s:Nat × Nat):Prop where
 i:enI Y a w
 u:s.1<2
 k:s.2≤Y.c.n
noncomputable def enA (Y:Yd) (a:Int):Int:=ptS (dwL Y a) (dwL Y a).length
end Go.Proofs.Ytfiaadlgfjokjaa

set_option maxRecDepth 100000
namespace Go.Proofs.Ytfiaadlgfjokjaa
open Go Go.Lg
def enG3 (Y:Yd):Prop:=(∀ (i:Nat),i<Y.c.1→rE ((Y.c.f i).sv.den)∧True∧True∧True∧True∧True∧True∧True∧True∧True)
def enG4 (Y:Yd) (a:Int):Prop:=(∀ (i:Nat),i<(dwL Y a).length→rE (((dwL Y a).getD i zP).pt.sv.den)∧True∧True∧True)
def enG5 (Y:Yd):Prop:=(∀ (i:Nat),i<Y.m.1→rE ((Y.m.f i).sv.den)∧True∧True∧True∧True)
def enG6 (Y:Yd) (a:Int):Prop:=(∀ (i:Nat),i<beN Y a→rE ((bsS (dwL Y a) i).sv.den)∧True∧True∧True)
def enG2 (Y:Yd) (a:Int) (w:Int) (zp9_3:Nat × Nat):Prop:=(True∧True∧True∧True∧True∧True∧True∧True∧True∧True∧True∧True∧True∧True∧(0:Int)≤w∧w<(↑((0:Nat)+Y.c.1):Int)∧True∧True∧(0:Nat)+w.toNat<(0:Nat)+Y.c.1∧True∧True∧True∧True∧rI ((2:Int)*(↑zp9_3.1:Int))∧True∧True∧rI ((if (0:Nat)+w.toNat<(0:Nat) then (0:Int) else lvF Y a w.toNat zp9_3.1 (dwL Y a).length ((0:Nat)+w.toNat - (0:Nat)+(0:Nat)))+(2:Int)*(↑zp9_3.1:Int))∧True∧True∧rI ((if (0:Nat)+w.toNat<(0:Nat) then (0:Int) else lvF Y a w.toNat zp9_3.1 (dwL Y a).length ((0:Nat)+w.toNat - (0:Nat)+(0:Nat)))+(2:Int)*(↑zp9_3.1:Int) - (1:Int))∧True∧True∧True∧True∧True∧True∧True∧True∧rI ((2:Int)*(↑zp9_3.1:Int))∧(True∧True∧(0:Int)≤(↑zp9_3.2:Int)∧(↑zp9_3.2:Int)<(↑((0:Nat)+Y.c.1):Int)∧True∧True∧(0:Nat)+(↑zp9_3.2:Int).toNat<(0:Nat)+Y.c.1∧True∧True∧rI ((if (0:Nat)+(↑zp9_3.2:Int).toNat<(0:Nat) then (0:Int) else lvF Y a w.toNat zp9_3.1 (dwL Y a).length ((0:Nat)+(↑zp9_3.2:Int).toNat - (0:Nat)+(0:Nat)))+(1:Int))∧True∧True∧rI ((if (0:Nat)+(↑zp9_3.2:Int).toNat<(0:Nat) then (0:Int) else lvF Y a w.toNat zp9_3.1 (dwL Y a).length ((0:Nat)+(↑zp9_3.2:Int).toNat - (0:Nat)+(0:Nat)))+(1:Int) - (2:Int)*(↑zp9_3.1:Int))∧True∧True∧(0:Int)≤w∧w<(↑((0:Nat)+Y.c.1):Int)∧True∧True∧(0:Nat)+(1:Nat)≤(1:Nat)∧(0:Nat)+w.toNat<(0:Nat)+Y.c.1∧(∀ (i':Nat),rE true)∧True∧True∧(0:Int)≤(↑zp9_3.2:Int)∧(↑zp9_3.2:Int)<(↑((0:Nat)+Y.c.1):Int)∧True∧True∧(0:Nat)+(1:Nat)≤(1:Nat)∧(0:Nat)+(↑zp9_3.2:Int).toNat<(0:Nat)+Y.c.1∧(∀ (i':Nat),rE true)∧(enI10 Y a w ((↑zp9_3.fst:Int).toNat,(↑zp9_3.snd:Int).toNat)∧rE ((↑zp9_3.1:Int).toNat+(2:Nat)*(↑zp9_3.2:Int).toNat))∧a=a∧w=w∧rE (0:Nat)∧rE (0:Nat)∧rE (beN Y a)∧(enG6 Y a)∧rE ((dwL Y a).length)∧(enG4 Y a)∧rE (enA Y a)∧(↑zp9_3.1:Int)=(↑(↑zp9_3.1:Int).toNat:Int)∧rE (0:Nat)∧rE Y.c.1∧(↑zp9_3.2:Int)=(↑(↑zp9_3.2:Int).toNat:Int)∧rE (0:Nat)∧(0:Nat)+Y.c.1=Y.c.1∧rE Y.c.1∧(enG3 Y)∧rE Y.m.1∧(enG5 Y)∧rE Y.c.1∧(∀ (i_4:Nat),i_4<Y.c.1→rE (1:Nat)∧lvF Y a w.toNat zp9_3.1 (dwL Y a).length i_4=lvF Y a w.toNat (↑zp9_3.1:Int).toNat (dwL Y a).length i_4∧True)∧Y.c.1=(0:Nat)+Y.c.1∧(∀ (i_4:Nat),i_4<Y.c.1→rE (1:Nat)∧(if i_4=(0:Nat)+(↑zp9_3.2:Int).toNat then (if (0:Nat)+(↑zp9_3.2:Int).toNat<(0:Nat) then (0:Int) else lvF Y a w.toNat zp9_3.1 (dwL Y a).length ((0:Nat)+(↑zp9_3.2:Int).toNat - (0:Nat)+(0:Nat)))+(1:Int) - (2:Int)*(↑zp9_3.1:Int) else if i_4=(0:Nat)+w.toNat then (if (0:Nat)+w.toNat<(0:Nat) then (0:Int) else lvF Y a w.toNat zp9_3.1 (dwL Y a).length ((0:Nat)+w.toNat - (0:Nat)+(0:Nat)))+(2:Int)*(↑zp9_3.1:Int) - (1:Int) else if i_4<(0:Nat) then (0:Int) else lvF Y a w.toNat zp9_3.1 (dwL Y a).length (i_4 - (0:Nat)+(0:Nat)))=lxF Y a w.toNat (↑zp9_3.1:Int).toNat (↑zp9_3.2:Int).toNat i_4∧True)∧True)∧True)
def enG7 (Y:Yd) (a:Int) (w:Int) (zp9_1:Nat × Nat) (zp9_3:Nat × Nat) (zp9_4:Nat × Nat) (gp9_5:Nat→Int):Prop:=(¬¬caE (Yd.mk (clOf Y.c.n fun i=>(Y.c.f i).sv) (msOf Y.m.n fun i=>(Y.m.f i).sv)) a (Tn.mk Y.c.n gp9_5)=(0:Int)→(caP (Yd.mk (clOf Y.c.n fun i=>(Y.c.f i).sv) (msOf Y.m.n fun i=>(Y.m.f i).sv)) a (Tn.mk Y.c.n gp9_5)→false=true∧True)∧(¬caP (Yd.mk (clOf Y.c.n fun i=>(Y.c.f i).sv) (msOf Y.m.n fun i=>(Y.m.f i).sv)) a (Tn.mk Y.c.n gp9_5)→rI ((↑zp9_4.2:Int)+(1:Int))∧(enI10 Y a w ((↑zp9_4.fst:Int).toNat,((↑zp9_4.snd:Int)+(1:Int)).toNat)∧(↑zp9_4.1:Int).toNat=(↑zp9_1.1:Int).toNat)∧Y.c.1 - ((↑zp9_4.2:Int)+(1:Int)).toNat<Y.c.1 - zp9_3.2∧a=a∧w=w∧rE (0:Nat)∧rE (0:Nat)∧rE (beN Y a)∧(enG6 Y a)∧rE ((dwL Y a).length)∧(enG4 Y a)∧rE (enA Y a)∧(↑zp9_4.1:Int)=(↑(↑zp9_4.1:Int).toNat:Int)∧rE (0:Nat)∧rE Y.c.1∧(↑zp9_4.2:Int)+(1:Int)=(↑((↑zp9_4.2:Int)+(1:Int)).toNat:Int)∧rE Y.c.1∧(enG3 Y)∧rE Y.m.1∧(enG5 Y)∧rE Y.c.1∧(∀ (i_6:Nat),i_6<Y.c.1→rE (1:Nat)∧lvF Y a w.toNat zp9_4.1 (dwL Y a).length i_6=lvF Y a w.toNat (↑zp9_4.1:Int).toNat (dwL Y a).length i_6∧True)∧True))
def enG10 (Y:Yd):Prop:=(∀ (i:Nat),i<Y.c.1→True∧True∧True∧True∧True∧True∧True∧True∧True)
def enG0 (Y:Yd) (a:Int) (w:Int) (zp9_1:Nat × Nat) (zp9_3:Nat × Nat):Prop:=((↑zp9_3.2:Int)<(↑Y.c.1:Int)→((↑zp9_3.2:Int)=w→rI ((↑zp9_3.2:Int)+(1:Int))∧(enI10 Y a w ((↑zp9_3.fst:Int).toNat,((↑zp9_3.snd:Int)+(1:Int)).toNat)∧(↑zp9_3.1:Int).toNat=(↑zp9_1.1:Int).toNat)∧Y.c.1 - ((↑zp9_3.2:Int)+(1:Int)).toNat<Y.c.1 - zp9_3.2∧a=a∧w=w∧rE (0:Nat)∧rE (0:Nat)∧rE (beN Y a)∧(enG6 Y a)∧rE ((dwL Y a).length)∧(enG4 Y a)∧rE (enA Y a)∧(↑zp9_3.1:Int)=(↑(↑zp9_3.1:Int).toNat:Int)∧rE (0:Nat)∧rE Y.c.1∧(↑zp9_3.2:Int)+(1:Int)=(↑((↑zp9_3.2:Int)+(1:Int)).toNat:Int)∧rE Y.c.1∧(enG3 Y)∧rE Y.m.1∧(enG5 Y)∧rE Y.c.1∧(∀ (i_4:Nat),i_4<Y.c.1→rE (1:Nat)∧lvF Y a w.toNat zp9_3.1 (dwL Y a).length i_4=lvF Y a w.toNat (↑zp9_3.1:Int).toNat (dwL Y a).length i_4∧True)∧True)∧(¬(↑zp9_3.2:Int)=w→(0:Int)≤(↑zp9_3.2:Int)∧(↑zp9_3.2:Int)<(↑Y.c.1:Int)∧(0:Nat)+(↑zp9_3.2:Int).toNat<Y.c.1∧(lvF Y a w.toNat zp9_3.1 (dwL Y a).length ((0:Nat)+(↑zp9_3.2:Int).toNat)=(0:Int)→((↑zp9_3.1:Int)=(1:Int)→rI ((↑zp9_3.2:Int)+(1:Int))∧(enI10 Y a w ((↑zp9_3.fst:Int).toNat,((↑zp9_3.snd:Int)+(1:Int)).toNat)∧(↑zp9_3.1:Int).toNat=(↑zp9_1.1:Int).toNat)∧Y.c.1 - ((↑zp9_3.2:Int)+(1:Int)).toNat<Y.c.1 - zp9_3.2∧a=a∧w=w∧rE (0:Nat)∧rE (0:Nat)∧rE (beN Y a)∧(enG6 Y a)∧rE ((dwL Y a).length)∧(enG4 Y a)∧rE (enA Y a)∧(↑zp9_3.1:Int)=(↑(↑zp9_3.1:Int).toNat:Int)∧rE (0:Nat)∧rE Y.c.1∧(↑zp9_3.2:Int)+(1:Int)=(↑((↑zp9_3.2:Int)+(1:Int)).toNat:Int)∧rE Y.c.1∧(enG3 Y)∧rE Y.m.1∧(enG5 Y)∧rE Y.c.1∧(∀ (i_4:Nat),i_4<Y.c.1→rE (1:Nat)∧lvF Y a w.toNat zp9_3.1 (dwL Y a).length i_4=lvF Y a w.toNat (↑zp9_3.1:Int).toNat (dwL Y a).length i_4∧True)∧True)∧(¬(↑zp9_3.1:Int)=(1:Int)→(0:Nat)+Y.c.1≤Y.c.1∧(∀ (i:Nat),i<Y.c.1→rE true)∧rE (0:Nat)∧rE (0:Nat)∧(∀ (i:Nat),rE true)∧((0:Nat)+Y.c.1)*(8:Nat)≤(140737488355328:Nat)∧(0:Nat)+Y.c.1≤(4611686018427387904:Nat)∧(enG2 Y a w zp9_3)∧∀ (zp9_4:Nat × Nat),enI10 Y a w zp9_4∧zp9_4.1+(2:Nat)*zp9_4.2=(↑zp9_3.1:Int).toNat+(2:Nat)*(↑zp9_3.2:Int).toNat→(0:Nat)<(1:Nat)∧(enG10 Y)∧(∀ (i:Nat),i<Y.m.1→True∧True∧True∧True)∧(0:Nat)+Y.c.1≤Y.c.1∧(∀ (i:Nat),i<Y.c.1→rE (1:Nat)∧True)∧(SV.lst (8:Nat) Y.c.n fun i=>(Y.c.f i).sv)=(clOf Y.c.n fun i=>(Y.c.f i).sv).sv∧(SV.lst (3:Nat) Y.m.n fun i=>(Y.m.f i).sv)=(msOf Y.m.n fun i=>(Y.m.f i).sv).sv∧∃ (gp9_5:Nat→Int),(∀ (i_6:Nat),i_6<Y.c.1→i6 (lxF Y a w.toNat zp9_4.fst zp9_4.snd (i_6+(0:Nat)))=i6 (gp9_5 i_6))∧(¬caE (Yd.mk (clOf Y.c.n fun i=>(Y.c.f i).sv) (msOf Y.m.n fun i=>(Y.m.f i).sv)) a (Tn.mk Y.c.n gp9_5)=(0:Int)→false=true∧True)∧(enG7 Y a w zp9_1 zp9_3 zp9_4 gp9_5)))∧(¬lvF Y a w.toNat zp9_3.1 (dwL Y a).length ((0:Nat)+(↑zp9_3.2:Int).toNat)=(0:Int)→(0:Nat)+Y.c.1≤Y.c.1∧(∀ (i:Nat),i<Y.c.1→rE true)∧rE (0:Nat)∧rE (0:Nat)∧(∀ (i:Nat),rE true)∧((0:Nat)+Y.c.1)*(8:Nat)≤(140737488355328:Nat)∧(0:Nat)+Y.c.1≤(4611686018427387904:Nat)∧(enG2 Y a w zp9_3)∧∀ (zp9_4:Nat × Nat),enI10 Y a w zp9_4∧zp9_4.1+(2:Nat)*zp9_4.2=(↑zp9_3.1:Int).toNat+(2:Nat)*(↑zp9_3.2:Int).toNat→(0:Nat)<(1:Nat)∧(enG10 Y)∧(∀ (i:Nat),i<Y.m.1→True∧True∧True∧True)∧(0:Nat)+Y.c.1≤Y.c.1∧(∀ (i:Nat),i<Y.c.1→rE (1:Nat)∧True)∧(SV.lst (8:Nat) Y.c.n fun i=>(Y.c.f i).sv)=(clOf Y.c.n fun i=>(Y.c.f i).sv).sv∧(SV.lst (3:Nat) Y.m.n fun i=>(Y.m.f i).sv)=(msOf Y.m.n fun i=>(Y.m.f i).sv).sv∧∃ (gp9_5:Nat→Int),(∀ (i_6:Nat),i_6<Y.c.1→i6 (lxF Y a w.toNat zp9_4.fst zp9_4.snd (i_6+(0:Nat)))=i6 (gp9_5 i_6))∧(¬caE (Yd.mk (clOf Y.c.n fun i=>(Y.c.f i).sv) (msOf Y.m.n fun i=>(Y.m.f i).sv)) a (Tn.mk Y.c.n gp9_5)=(0:Int)→false=true∧True)∧(enG7 Y a w zp9_1 zp9_3 zp9_4 gp9_5))))
end Go.Proofs.Ytfiaadlgfjokjaa

set_option maxRecDepth 100000
namespace Go.Proofs.Ytfiaadlgfjokjaa
open Go Go.Lg
attribute [local irreducible] funS bodyH
def opn (M:Ms) (k:Nat):Prop:=0<k∧(M.f (k - 1)).co≠-1∧jnM M k
theorem ly_d {M:Ms} {k:Nat} (h:(M.f k).co=-1):lyL M (k+1)=lyL M k∧cuL M (k+1)=cuL M k:=⟨by simp only [lyL,if_pos h],by simp only [cuL,if_pos h]⟩
theorem ly_j {M:Ms} {k:Nat} (h:¬ (M.f k).co=-1) (hj:jnM M (k+1)):lyL M (k+1)=lyL M k∧cuL M (k+1)=(cuL M k).add (M.f k):=⟨by simp only [lyL,if_neg h,if_pos hj],by simp only [cuL,if_neg h,if_pos hj]⟩
theorem ly_e {M:Ms} {k:Nat} (h:¬ (M.f k).co=-1) (hj:¬ jnM M (k+1)):lyL M (k+1)=lyL M k ++ [(cuL M k).add (M.f k)]∧cuL M (k+1)=nwL ((cuL M k).add (M.f k)).to:=⟨by simp only [lyL,if_neg h,if_neg hj],by simp only [cuL,if_neg h,if_neg hj]⟩
theorem sn_inv (M:Ms):∀ k,k≤M.n→(opn M k→snF M k=(lyL M k).length)∧(¬ opn M k→snF M k=(lyL M k).length - 1)
 | 0,_=>⟨fun h=>by have:=h.1; omega,fun _=>by simp [snF,sumJ,lyL]⟩
 | k+1,hk=>by
  obtain ⟨i1,i2⟩:=sn_inv M k (by omega)
  by_cases hd:(M.f k).co=-1
  ·obtain ⟨e1,e2⟩:=ly_d hd
   have n1:¬ opn M (k+1):=fun h=>h.2.1 hd
   have n2:¬ opn M k:=fun h=>h.2.2.2.1 hd
   rw [e1,sn_n fun s=>s.1 hd]
   exact ⟨fun h=>absurd h n1,fun _=>i2 n2⟩
  ·have hs:snF M (k+1)=(lyL M k).length:=by
    by_cases ho:opn M k
    ·rw [sn_n,i1 ho]
     rintro ⟨_,s | s | s⟩
     ·have:=ho.1; omega
     ·exact ho.2.1 s
     ·exact s ho.2.2.2.2.symm
    ·have st:stI M k:=by
      refine ⟨hd,Classical.byContradiction fun hn=>ho ?_⟩
      have h0:¬ k=0:=fun h=>hn (.inl h)
      have h1:¬ (M.f (k - 1)).co=-1:=fun h=>hn (.inr (.inl h))
      have h2:(M.f (k - 1)).hr=(M.f k).hr:=Classical.byContradiction fun h=>hn (.inr (.inr h))
      exact ⟨by omega,h1,by omega,hd,h2.symm⟩
     rw [sn_y st,i2 ho]; omega
   by_cases hj:jnM M (k+1)
   ·rw [(ly_j hd hj).1]
    exact ⟨fun _=>hs,fun h=>absurd ⟨by omega,hd,hj⟩ h⟩
   ·rw [(ly_e hd hj).1,List.length_append]
    exact ⟨fun h=>absurd h.2.2 hj,fun _=>by rw [hs]; simp⟩
theorem sn_ly {M:Ms} {k:Nat} (hk:k<M.n) (hd:¬ (M.f k).co=-1):snF M (k+1)=(lyL M k).length:=by
 obtain ⟨i1,i2⟩:=sn_inv M (k+1) hk
 by_cases hj:jnM M (k+1)
 ·have:=i1 ⟨by omega,hd,hj⟩
  rw [this,(ly_j hd hj).1]
 ·have:=i2 fun h=>hj h.2.2
  rw [this,(ly_e hd hj).1,List.length_append]; simp
theorem add_at (l:La) (m:Mv) {c:Nat} (hc:c<6):(l.add m).at c=l.at c+(if m.co.toNat=c then m.tn else 0):=by
 have:c=0∨c=1∨c=2∨c=3∨c=4∨c=5:=by omega
 rcases this with e | e | e | e | e | e <;> subst e <;> simp only [La.at,La.sv,La.add,SV.cells,cellZ,numZ] <;> split <;> omega
theorem nw_at (t:Int) {c:Nat} (hc:c<6):(nwL t).at c=0:=by
 have:c=0∨c=1∨c=2∨c=3∨c=4∨c=5:=by omega
 rcases this with e | e | e | e | e | e <;> subst e <;> rfl
theorem coI_d {M:Ms} {o:Int} {c k:Nat} (hd:(M.f k).co=-1):coI M o c k=0:=if_neg fun h=>by omega
theorem co_inv {M:Ms} {c:Nat} (hc:c<6) (h0:∀ k,k<M.n→-1≤(M.f k).co):∀ k,k≤M.n →
  (∀ j,j<(lyL M k).length→((lyL M k).getD j zL).at c=ctF M j k c)∧(cuL M k).at c=ctF M (lyL M k).length k c∧∀ o:Int,(lyL M k).length<o→ctF M o k c=0
 | 0,_=>⟨fun j hj=>by simp [lyL] at hj,nw_at 0 hc,fun o _=>rfl⟩
 | k+1,hk=>by
  obtain ⟨i1,i2,i3⟩:=co_inv hc h0 k (by omega)
  have m0:=h0 k (by omega)
  by_cases hd:(M.f k).co=-1
  ·obtain ⟨e1,e2⟩:=ly_d hd
   rw [e1,e2]
   refine ⟨fun j hj=>?_,?_,fun o ho=>?_⟩
   ·rw [co_s,coI_d hd,i1 j hj]; omega
   ·rw [co_s,coI_d hd,i2]; omega
   ·rw [co_s,coI_d hd,i3 o ho]; rfl
  ·have hs:=sn_ly (show k<M.n by omega) hd
   have cy:coI M (lyL M k).length c k=if (M.f k).co.toNat=c then (M.f k).tn else 0:=by
    unfold coI
    by_cases e:(M.f k).co.toNat=c
    ·rw [if_pos e,if_pos ⟨by omega,hs⟩]
    ·rw [if_neg e,if_neg fun x=>e (by omega)]
   have cn:∀ o:Int,o≠(lyL M k).length→coI M o c k=0:=fun o ho=>by
    unfold coI
    rw [if_neg fun x=>ho (by rw [← hs]; exact x.2.symm)]
   by_cases hj:jnM M (k+1)
   ·obtain ⟨e1,e2⟩:=ly_j hd hj
    rw [e1,e2]
    refine ⟨fun j hj=>?_,?_,fun o ho=>?_⟩
    ·rw [co_s,cn _ (by omega),i1 j hj]; omega
    ·rw [add_at _ _ hc,i2,co_s,cy]
    ·rw [co_s,cn _ (by omega),i3 o ho]; rfl
   ·obtain ⟨e1,e2⟩:=ly_e hd hj
    rw [e1,e2,List.length_append]
    have ln:((lyL M k).length+[(cuL M k).add (M.f k)].length:Nat)=(lyL M k).length+1:=rfl
    rw [ln]
    refine ⟨fun j hj=>?_,?_,fun o ho=>?_⟩
    ·by_cases e:j<(lyL M k).length
     ·have:(lyL M k ++ [(cuL M k).add (M.f k)]).getD j zL=(lyL M k).getD j zL:=by
       simp only [List.getD,List.getElem?_append_left e]
      rw [this,co_s,cn _ (by omega),i1 j e]; omega
     ·have e:j=(lyL M k).length:=by omega
      subst e
      have:(lyL M k ++ [(cuL M k).add (M.f k)]).getD (lyL M k).length zL=(cuL M k).add (M.f k):=by
       simp [List.getD]
      rw [this,add_at _ _ hc,i2,co_s,cy]
    ·rw [nw_at _ hc,co_s,cn _ (by omega),i3 _ (by omega)]; rfl
    ·rw [co_s,cn _ (by omega),i3 o (by omega)]; rfl
def laS (l:La):Int:=l.c0+l.c1+l.c2+l.c3+l.c4+l.c5
theorem add_S {l:La} {m:Mv} (h0:0≤m.co) (h1:m.co<6) (h:laS l=l.to - l.fr):laS (l.add m)=(l.add m).to - (l.add m).fr:=by
 have:m.co.toNat=0∨m.co.toNat=1∨m.co.toNat=2∨m.co.toNat=3∨m.co.toNat=4∨m.co.toNat=5:=by omega
 unfold laS at *
 rcases this with e | e | e | e | e | e <;> simp only [La.add,e] <;> simp <;> omega
theorem ly_S {M:Ms} (h:lyP M):∀ k,k≤M.n→(laS (cuL M k)=(cuL M k).to - (cuL M k).fr)∧∀ l ∈ lyL M k,laS l=l.to - l.fr
 | 0,_=>⟨rfl,fun l hl=>by simp [lyL] at hl⟩
 | k+1,hk=>by
  obtain ⟨i1,i2⟩:=ly_S h k (by omega)
  have m:=h.h k (by omega)
  by_cases hd:(M.f k).co=-1
  ·obtain ⟨e1,e2⟩:=ly_d hd
   rw [e1,e2]; exact ⟨i1,i2⟩
  ·have a:=add_S (by omega) m.2.1 i1
   by_cases hj:jnM M (k+1)
   ·obtain ⟨e1,e2⟩:=ly_j hd hj
    rw [e1,e2]; exact ⟨a,i2⟩
   ·obtain ⟨e1,e2⟩:=ly_e hd hj
    rw [e1,e2]
    refine ⟨by simp [laS,nwL],fun l hl=>?_⟩
    rcases List.mem_append.1 hl with hl | hl
    ·exact i2 l hl
    ·simp at hl; subst hl; exact a
theorem po_form {M:Ms} {s:Tw}:∀ k,∀ p ∈ poM M s k,∃ j:Nat,j<k∧p.l=lyF M j∧p.nu=j
 | 0=>fun p hp=>by simp [poM,poL] at hp
 | k+1=>fun p hp=>by
  by_cases hc:0<cmT s (lyF M k).st
  ·rw [po_y hc] at hp
   rcases List.mem_append.1 hp with hp | hp
   ·obtain ⟨j,h1,h2⟩:=po_form k p hp
    exact ⟨j,by omega,h2⟩
   ·simp at hp; subst hp
    exact ⟨k,by omega,rfl,rfl⟩
  ·rw [po_n hc] at hp
   obtain ⟨j,h1,h2⟩:=po_form k p hp
   exact ⟨j,by omega,h2⟩
end Go.Proofs.Ytfiaadlgfjokjaa

set_option maxRecDepth 100000
namespace Go.Proofs.Ytfiaadlgfjokjaa
open Go Go.Lg
attribute [local irreducible] funS bodyH bodyZ
inductive ChL:List La→Int→Prop
 | nil:ChL [] 0
 | snoc (l:List La) (x:La) (h:ChL l x.fr) (hx:x.fr≤x.to):ChL (l ++ [x]) x.to
theorem gdL {l:List La} {x d:La} {i:Nat}:(l ++ [x]).getD i d=if i<l.length then l.getD i d else if i=l.length then x else d:=by
 by_cases h:i<l.length
 ·rw [if_pos h]; simp [List.getD,List.getElem?_append_left h]
 ·rw [if_neg h]
  by_cases e:i=l.length
  ·subst e; simp [List.getD]
  ·rw [if_neg e]; simp [List.getD,List.getElem?_append_right (show l.length≤i by omega),show ¬ i - l.length=0 by omega]
theorem ch_nn {l:List La} {e:Int} (h:ChL l e):0≤e∧∀ q,q<l.length→0≤(l.getD q zL).fr∧(l.getD q zL).fr≤(l.getD q zL).to∧(l.getD q zL).to≤e:=by
 induction h with
 | nil=>exact ⟨Int.le_refl _,fun q hq=>by simp at hq⟩
 | snoc l x h hx ih =>
  refine ⟨by omega,fun q hq=>?_⟩
  rw [gdL]
  by_cases hl:q<l.length
  ·have:=ih.2 q hl
   rw [if_pos hl]; omega
  ·have:q=l.length:=by simp at hq; omega
   rw [if_neg hl,if_pos this]; omega
theorem ch_ord {l:List La} {e:Int} (h:ChL l e):∀ q p,q<p→p<l.length→(l.getD q zL).to≤(l.getD p zL).fr:=by
 induction h with
 | nil=>intro q p _ hp; simp at hp
 | snoc l x h hx ih =>
  intro q p hq hp
  rw [gdL,gdL]
  simp at hp
  rw [if_pos (by omega)]
  by_cases hl:p<l.length
  ·rw [if_pos hl]; exact ih q p hq hl
  ·rw [if_neg hl,if_pos (by omega)]
   exact ((ch_nn h).2 q (by omega)).2.2
noncomputable def bgJ (l:List La) (e:Int) (q:Nat):Int:=if q<l.length then (l.getD q zL).fr else e
theorem bg_s {l:List La} {e:Int} (h:ChL l e):bgJ l e 0=0∧∀ q,q<l.length→bgJ l e (q+1)=(l.getD q zL).to:=by
 induction h with
 | nil=>exact ⟨rfl,fun q hq=>by simp at hq⟩
 | snoc l x h hx ih =>
  constructor
  ·have i0:=ih.1
   unfold bgJ at i0 ⊢
   rw [gdL]
   by_cases hl:0<l.length
   ·rw [if_pos hl] at i0
    rw [if_pos (by simp),if_pos hl]; exact i0
   ·rw [if_neg hl] at i0
    rw [if_pos (by simp),if_neg hl,if_pos (by omega)]; exact i0
  ·intro q hq
   simp at hq
   by_cases hl:q<l.length
   ·have i1:=ih.2 q hl
    unfold bgJ at i1 ⊢
    rw [gdL,gdL,if_pos hl,if_pos (by simp; omega)]
    by_cases h2:q+1<l.length
    ·rw [if_pos h2] at i1 ⊢; exact i1
    ·rw [if_neg h2] at i1
     rw [if_neg h2,if_pos (by omega)]; exact i1
   ·have e1:q=l.length:=by omega
    unfold bgJ
    rw [if_neg (by simp; omega),gdL,if_neg hl,if_pos e1]
theorem ch_ly {M:Ms} (h:lyP M):∀ k,k≤M.n→ChL (lyL M k) (cuL M k).fr∧(cuL M k).fr≤(cuL M k).to:=by
 intro k
 induction k with
 | zero=>intro _; exact ⟨.nil,Int.le_refl _⟩
 | succ k ih =>
  intro hk
  obtain ⟨i1,i2⟩:=ih (by omega)
  by_cases hd:(M.f k).co=-1
  ·rw [(cu_d hd).1,(cu_d hd).2]; exact ⟨i1,i2⟩
  ·have t:=(h.h k (by omega)).2.2.1
   by_cases hj:jnM M (k+1)
   ·rw [(cu_j hd hj).1,(cu_j hd hj).2,(add_to _ _).1,(add_to _ _).2]
    exact ⟨i1,by omega⟩
   ·rw [(cu_e hd hj).1,(cu_e hd hj).2]
    exact ⟨.snoc _ _ (by rw [(add_to _ _).2]; exact i1) (by rw [(add_to _ _).1,(add_to _ _).2]; omega),Int.le_refl _⟩
theorem ar_in {M:Ms} (h:lyP M):∀ d i,i+d+1=M.n→¬ (M.f i).co=-1→(lyL M i).length<(lyL M M.n).length∧(lyF M (lyL M i).length).fr=(cuL M i).fr∧sumJ (uaI M) (i+1)≤(lyF M (lyL M i).length).to:=by
 intro d
 induction d with
 | zero =>
  intro i hi hd
  have hj:¬ jnM M (i+1):=fun x=>by have:=x.1; omega
  obtain ⟨e1,e2⟩:=ly_at (by omega) hd hj
  rw [e1,(add_to _ _).1,(add_to _ _).2,cu_to,ua_s]
  exact ⟨e2,rfl,by unfold uaI; rw [if_neg hd]; exact Int.le_refl _⟩
 | succ d ih =>
  intro i hi hd
  by_cases hj:jnM M (i+1)
  ·have i1:=ih (i+1) (by omega) hj.2.1
   rw [(cu_j hd hj).1,(cu_j hd hj).2,(add_to _ _).2] at i1
   refine ⟨i1.1,i1.2.1,?_⟩
   have t:=(h.h (i+1) (by omega)).2.2.1
   have:=i1.2.2
   rw [ua_s] at this
   have hu:uaI M (i+1)=(M.f (i+1)).tn:=if_neg hj.2.1
   rw [hu] at this
   omega
  ·obtain ⟨e1,e2⟩:=ly_at (by omega) hd hj
   rw [e1,(add_to _ _).1,(add_to _ _).2,cu_to,ua_s]
   exact ⟨e2,rfl,by unfold uaI; rw [if_neg hd]; exact Int.le_refl _⟩
noncomputable def ovJ (M:Ms) (x:Int) (k:Nat):Int:=cmT ⟨0,x⟩ (lyF M k).st
theorem sum_one {co t:Int} {C:Nat} (h0:0≤co):∀ n:Nat,sumJ (fun c=>if co=(c:Int) then t else 0) n=if co<n then t else 0:=by
 intro n
 induction n with
 | zero=>show (0:Int)=_; rw [if_neg (by omega)]
 | succ n ih =>
  show sumJ _ n+(if co=(n:Int) then t else 0)=_
  rw [ih]
  by_cases h1:co<n
  ·rw [if_pos h1,if_neg (by omega),if_pos (by omega)]; omega
  ·rw [if_neg h1]
   by_cases h2:co=n
   ·rw [if_pos h2,if_pos (by omega)]; omega
   ·rw [if_neg h2,if_neg (by omega)]; rfl
theorem sum_z {f:Nat→Int} {n:Nat} (h:∀ i,i<n→f i=0):sumJ f n=0:=by
 induction n with
 | zero=>rfl
 | succ n ih =>
  show sumJ f n+f n=0
  rw [ih fun i hi=>h i (by omega),h n (by omega)]; rfl
theorem sum_add (f g:Nat→Int) (n:Nat):sumJ (fun i=>f i+g i) n=sumJ f n+sumJ g n:=by
 induction n with
 | zero=>rfl
 | succ n ih =>
  show sumJ _ n+(f n+g n)=sumJ f n+f n+(sumJ g n+g n)
  rw [ih]; omega
theorem cs_s {Y:Yd} (hM:okMs Y.c.n Y.m) {i k:Nat} (hi:i<Y.m.n):csJ Y (i+1) k=csJ Y i k+(if (Y.m.f i).co≠-1∧k=(lyL Y.m i).length then (Y.m.f i).tn else 0):=by
 have m:=hM.h i hi
 have c0:=m.c0
 have c1:=m.c1
 unfold csJ
 have e:ctF Y.m k (i+1)=fun c=>ctF Y.m k i c+coI Y.m k c i:=by funext c; exact co_s _ _ _ _
 rw [e,sum_add]
 congr 1
 by_cases hd:(Y.m.f i).co=-1
 ·rw [if_neg (fun h=>h.1 hd)]
  exact sum_z fun c hc=>by unfold coI; rw [if_neg (fun h=>by omega)]
 ·have hs:=sn_ly hi hd
  by_cases hk:k=(lyL Y.m i).length
  ·rw [if_pos ⟨hd,hk⟩]
   have e2:(fun c=>coI Y.m k c i)=fun c:Nat=>if (Y.m.f i).co=(c:Int) then (Y.m.f i).tn else 0:=by
    funext c
    unfold coI
    by_cases h:(Y.m.f i).co=c
    ·rw [if_pos ⟨h,by rw [hs,hk]⟩,if_pos h]
    ·rw [if_neg (fun x=>h x.1),if_neg h]
   rw [e2,sum_one (C:=Y.c.n) (by omega),if_pos (by omega)]
  ·rw [if_neg (fun h=>hk h.2)]
   exact sum_z fun c hc=>by unfold coI; rw [if_neg (fun h=>hk (by have:=h.2; rw [hs] at this; omega))]
theorem cs_ov {Y:Yd} (hM:okMs Y.c.n Y.m) (hP:lyP Y.m) {k:Nat} (hk:k<(lyL Y.m Y.m.n).length):∀ {i:Nat},i≤Y.m.n→csJ Y i k=ovJ Y.m (sumJ (uaI Y.m) i) k:=by
 have hN:=(ch_ly hP Y.m.n (Nat.le_refl _)).1
 have hnn:=(ch_nn hN).2
 have hord:=ch_ord hN
 have hk1:=hnn k hk
 intro i
 induction i with
 | zero =>
  intro _
  have e:csJ Y 0 k=0:=sum_z fun c hc=>rfl
  rw [e]
  show 0=max 0 (min 0 (lyF Y.m k).to - max 0 (lyF Y.m k).fr)
  have:(lyF Y.m k).fr=((lyL Y.m Y.m.n).getD k zL).fr:=rfl
  omega
 | succ i ih =>
  intro hi
  have t0:=(hM.h i (by omega)).t0
  have hA:=(ua_mono hM (j:=0) (d:=i) (by omega)).1
  rw [Nat.zero_add] at hA
  have hA:0≤sumJ (uaI Y.m) i:=hA
  rw [cs_s hM (by omega),ih (by omega),ua_s]
  by_cases hd:(Y.m.f i).co=-1
  ·have hu:uaI Y.m i=0:=if_pos hd
   rw [if_neg (fun h=>h.1 hd),hu]
   simp
  ·have hu:uaI Y.m i=(Y.m.f i).tn:=if_neg hd
   rw [hu]
   obtain ⟨d,hdd⟩:∃ d,i+d+1=Y.m.n:=⟨Y.m.n - i - 1,by omega⟩
   obtain ⟨j1,j2,j3⟩:=ar_in hP d i hdd hd
   rw [ua_s,hu] at j3
   have hcu:=(ch_ly hP i (by omega)).2
   rw [cu_to] at hcu
   generalize sumJ (uaI Y.m) i=A at *
   generalize hj:(lyL Y.m i).length=j at *
   have ej:(lyF Y.m j).fr=((lyL Y.m Y.m.n).getD j zL).fr:=rfl
   have ej2:(lyF Y.m j).to=((lyL Y.m Y.m.n).getD j zL).to:=rfl
   have ek:(lyF Y.m k).fr=((lyL Y.m Y.m.n).getD k zL).fr:=rfl
   have ek2:(lyF Y.m k).to=((lyL Y.m Y.m.n).getD k zL).to:=rfl
   unfold ovJ cmT La.st
   dsimp only
   by_cases hkj:k=j
   ·subst hkj
    rw [if_pos ⟨hd,rfl⟩]
    omega
   ·rw [if_neg (fun h=>hkj h.2)]
    by_cases hlt:k<j
    ·have:=hord k j hlt j1
     omega
    ·have:=hord j k (by omega) hk
     omega
end Go.Proofs.Ytfiaadlgfjokjaa

set_option linter.unusedSectionVars false
set_option maxRecDepth 100000
namespace Go.Proofs.Ytfiaadlgfjokjaa
open Go Go.Lg
attribute [local irreducible] funS bodyH bodyZ
noncomputable def nlJ (M:Ms):Nat:=(lyL M M.n).length
noncomputable def bkJ (M:Ms) (q:Nat):Int:=bgJ (lyL M M.n) (cuL M M.n).fr q
theorem ln_is (M:Ms):lnJ M=nlJ M:=by
 have h:=(sn_inv M M.n (Nat.le_refl _)).2 fun h=>by have:=h.2.2.1; omega
 have:=snN M
 unfold nlJ; omega
theorem bk_0 {M:Ms} (h:lyP M):bkJ M 0=0:=(bg_s (ch_ly h M.n (Nat.le_refl _)).1).1
theorem bk_fr {M:Ms} {k:Nat} (hk:k<nlJ M):(lyF M k).fr=bkJ M k:=by
 unfold bkJ bgJ; exact (if_pos (show k<(lyL M M.n).length from hk)).symm
theorem bk_to {M:Ms} (h:lyP M) {k:Nat} (hk:k<nlJ M):(lyF M k).to=bkJ M (k+1):=((bg_s (ch_ly h M.n (Nat.le_refl _)).1).2 k hk).symm
theorem bk_le {M:Ms} (h:lyP M) {k:Nat} (hk:k<nlJ M):0≤bkJ M k∧bkJ M k≤bkJ M (k+1):=by
 have:=(ch_nn (ch_ly h M.n (Nat.le_refl _)).1).2 k hk
 rw [← bk_fr hk,← bk_to h hk]
 exact ⟨this.1,this.2.1⟩
theorem bk_n (M:Ms):bkJ M (nlJ M)=sumJ (uaI M) M.n:=by
 unfold bkJ bgJ nlJ
 rw [if_neg (Nat.lt_irrefl _),cu_closed M M.n fun h=>by have:=h.1; omega,cu_to]
theorem ov_is {M:Ms} (h:lyP M) {x:Int} {k:Nat} (hk:k<nlJ M):ovJ M x k=max 0 (min x (bkJ M (k+1)) - max 0 (bkJ M k)):=by
 unfold ovJ cmT La.st
 dsimp only
 rw [bk_fr hk,bk_to h hk]
theorem fifo {M:Ms} (h:lyP M) {L:Nat→Int} {A D t:Int} (hL:∀ q,q<nlJ M→L q=ovJ M A q - ovJ M D q) (h0:0≤D) (h1:D≤A) (h2:0≤t) :
  ∀ k,k≤nlJ M→ndJ L t k=t - (min (min (D+t) A) (bkJ M k) - min D (bkJ M k)):=by
 intro k
 induction k with
 | zero=>intro _; rw [bk_0 h]; show t=_; omega
 | succ k ih =>
  intro hk
  have i:=ih (by omega)
  have b:=bk_le h (k:=k) (by omega)
  show ndJ L t k - min (L k) (ndJ L t k)=_
  rw [i,hL k (by omega),ov_is h (by omega),ov_is h (by omega)]
  generalize bkJ M k=b0 at *
  generalize bkJ M (k+1)=b1 at *
  omega
theorem fifo_ow {M:Ms} (h:lyP M) {L:Nat→Int} {A D t:Int} (hL:∀ q,q<nlJ M→L q=ovJ M A q - ovJ M D q) (h0:0≤D) (h1:D≤A) (h2:0≤t) {k:Nat} (hk:k<nlJ M) :
  owJ L t k=ovJ M (min (D+t) A) k - ovJ M D k:=by
 have b:=bk_le h hk
 unfold owJ
 rw [fifo h hL h0 h1 h2 k (by omega),hL k hk,ov_is h hk,ov_is h hk,ov_is h hk]
 generalize bkJ M k=b0 at *
 generalize bkJ M (k+1)=b1 at *
 omega
section
variable {Y:Yd} (hM:okMs Y.c.n Y.m) (hP:lyP Y.m)
include hM hP
theorem lf_ov {i:Nat} (hi:i≤Y.m.n) (hw:∀ k,k<nlJ Y.m→wkJ Y i k=ovJ Y.m (sumJ (uoI Y.m) i) k):∀ q,q<nlJ Y.m→lfJ Y i q=ovJ Y.m (sumJ (uaI Y.m) i) q - ovJ Y.m (sumJ (uoI Y.m) i) q:=fun q hq=>by
 unfold lfJ; rw [cs_ov hM hP hq hi,hw q hq]
theorem ua_n {i:Nat} (hi:i≤Y.m.n):sumJ (uaI Y.m) i≤sumJ (uaI Y.m) Y.m.n:=by
 have:=(ua_mono hM (j:=i) (d:=Y.m.n - i) (by omega)).1
 rw [show i+(Y.m.n - i)=Y.m.n by omega] at this
 exact this
theorem uo_nn {i:Nat} (hi:i≤Y.m.n):0≤sumJ (uoI Y.m) i:=by
 have:=(ua_mono hM (j:=0) (d:=i) (by omega)).2
 rw [Nat.zero_add] at this
 exact this
theorem n_end {i:Nat} (hi:i<Y.m.n) (hd:(Y.m.f i).co=-1) (hw:∀ k,k<nlJ Y.m→wkJ Y i k=ovJ Y.m (sumJ (uoI Y.m) i) k) (hle:sumJ (uoI Y.m) i≤sumJ (uaI Y.m) i):nIJ Y i (lnJ Y.m)≤0↔sumJ (uoI Y.m) i+(Y.m.f i).tn≤sumJ (uaI Y.m) i:=by
 have t:=(hM.h i hi).t0
 have a:=ua_n hM hP (i:=i) (by omega)
 have o:=uo_nn hM hP (i:=i) (by omega)
 have f:=fifo hP (L:=lfJ Y i) (A:=sumJ (uaI Y.m) i) (D:=sumJ (uoI Y.m) i) (t:=(Y.m.f i).tn) (lf_ov hM hP (by omega) hw) o hle (by omega) (nlJ Y.m) (Nat.le_refl _)
 unfold nIJ
 rw [ln_is,f,bk_n]
 omega
theorem wk_ov:∀ {i:Nat},i≤Y.m.n→pqO Y i→sumJ (uoI Y.m) i≤sumJ (uaI Y.m) i∧∀ k,k<nlJ Y.m→wkJ Y i k=ovJ Y.m (sumJ (uoI Y.m) i) k:=by
 intro i
 induction i with
 | zero =>
  intro _ _
  refine ⟨Int.le_refl _,fun k hk=>?_⟩
  have b:=bk_le hP hk
  rw [ov_is hP hk]
  show (0:Int)=max 0 (min 0 _ - _)
  omega
 | succ i ih =>
  intro hi ho
  obtain ⟨i1,i2⟩:=ih (by omega) fun j hj=>ho j (by omega)
  have t:=(hM.h i (by omega)).t0
  rw [uo_s,ua_s]
  by_cases hd:(Y.m.f i).co=-1
  ·have e1:uoI Y.m i=(Y.m.f i).tn:=if_pos hd
   have e2:uaI Y.m i=0:=if_pos hd
   have e:=(n_end hM hP (by omega) hd i2 i1).1 (ho i (by omega) hd)
   rw [e1,e2]
   refine ⟨by omega,fun k hk=>?_⟩
   have o:=uo_nn hM hP (i:=i) (by omega)
   rw [wk_y hd,i2 k hk]
   have:=fifo_ow hP (L:=lfJ Y i) (A:=sumJ (uaI Y.m) i) (D:=sumJ (uoI Y.m) i) (t:=(Y.m.f i).tn) (lf_ov hM hP (by omega) i2) o i1 (by omega) hk
   unfold oIJ
   rw [this,show min (sumJ (uoI Y.m) i+(Y.m.f i).tn) (sumJ (uaI Y.m) i)=sumJ (uoI Y.m) i+(Y.m.f i).tn by omega]
   omega
  ·have e1:uoI Y.m i=0:=if_neg hd
   have e2:uaI Y.m i=(Y.m.f i).tn:=if_neg hd
   rw [e1,e2,Int.add_zero]
   exact ⟨by omega,fun k hk=>by rw [wk_n hd,i2 k hk]⟩
theorem pq_sh:pqO Y Y.m.n↔okSh Y.m Y.m.n:=by
 constructor
 ·intro h i hi hd
  have:=(wk_ov hM hP (i:=i+1) (by omega) fun j hj=>h j (by omega)).1
  rw [lf_ua]; omega
 ·intro h
  have:∀ i,i≤Y.m.n→pqO Y i:=by
   intro i
   induction i with
   | zero=>intro _ j hj; omega
   | succ i ih =>
    intro hi j hj hd
    by_cases e:j=i
    ·subst e
     have o:=ih (by omega)
     obtain ⟨w1,w2⟩:=wk_ov hM hP (by omega) o
     have l:=h j (by omega) hd
     rw [lf_ua,ua_s,uo_s] at l
     have e1:uoI Y.m j=(Y.m.f j).tn:=if_pos hd
     have e2:uaI Y.m j=0:=if_pos hd
     rw [e1,e2] at l
     exact (n_end hM hP (by omega) hd w2 w1).2 (by omega)
    ·exact ih (by omega) j (by omega) hd
  exact this _ (Nat.le_refl _)
theorem oJ_ov (ho:pqO Y Y.m.n) {d k:Nat} (hd:d<dn Y.m Y.m.n) (hk:k<nlJ Y.m):oJ Y d k=cmT ⟨ds Y.m d Y.m.n,ds Y.m ((d:Int)+1) Y.m.n⟩ (lyF Y.m k).st:=by
 obtain ⟨i,hi,hc,rfl⟩:=at_ex hd
 obtain ⟨w1,w2⟩:=wk_ov hM hP (i:=i) (by omega) fun j hj=>ho j (by omega)
 have w3:=(wk_ov hM hP (i:=i+1) (by omega) fun j hj=>ho j (by omega)).1
 have t:=(hM.h i hi).t0
 have o:=uo_nn hM hP (i:=i) (by omega)
 have b:=bk_le hP hk
 have e1:uoI Y.m i=(Y.m.f i).tn:=if_pos hc
 have e2:uaI Y.m i=0:=if_pos hc
 rw [uo_s,ua_s,e1,e2] at w3
 have d1:ds Y.m (dn Y.m i) Y.m.n=sumJ (uoI Y.m) i:=ds_to (by omega)
 have d2:ds Y.m ((dn Y.m i:Int)+1) Y.m.n=sumJ (uoI Y.m) i+(Y.m.f i).tn:=by
  have:=ds_to (M:=Y.m) (k:=i+1) (m:=Y.m.n) (by omega)
  rw [dn_y hc,uo_s,e1] at this
  rw [← this]; rfl
 rw [oJ_is hc hi,d1,d2]
 have:=fifo_ow hP (L:=lfJ Y i) (A:=sumJ (uaI Y.m) i) (D:=sumJ (uoI Y.m) i) (t:=(Y.m.f i).tn) (lf_ov hM hP (by omega) w2) o w1 (by omega) hk
 unfold oIJ
 rw [this,ov_is hP hk,ov_is hP hk]
 unfold cmT La.st
 dsimp only
 rw [bk_fr hk,bk_to hP hk]
 omega
end
end Go.Proofs.Ytfiaadlgfjokjaa

set_option maxRecDepth 100000
namespace Go.Proofs.Ytfiaadlgfjokjaa
open Go Go.Lg
attribute [local irreducible] funS bodyH bodyZ
theorem ly_of {Y:Yd} (hC:okCl Y.c) (hM:okMs Y.c.n Y.m):lyP Y.m:=⟨hM.n,fun i hi=>by
 have m:=hM.h i hi
 have:=m.c0
 have:=m.c1
 have:=m.t0
 have:=m.t1
 have:=hC.b
 omega⟩
theorem ck_st (Y:Yd):ckY Y=stE Y:=by
 unfold ckY stE
 by_cases h:okCl Y.c∧okMs Y.c.n Y.m
 ·rw [if_pos h,if_pos h]
  have e:=pq_sh h.2 (ly_of h.1 h.2)
  by_cases ho:pqO Y Y.m.n
  ·rw [if_pos ho,if_pos (e.1 ho)]
  ·rw [if_neg ho,if_neg (fun x=>ho (e.2 x))]
 ·rw [if_neg h,if_neg h]
theorem dr_rd (Y:Yd) (a:Int):drE Y a a=rdE Y a:=by
 unfold drE rdE
 rw [ck_st]
 by_cases h:stE Y=0
 ·rw [if_pos h,if_pos h]
  by_cases ha:0≤a∧a≤(dn Y.m Y.m.n:Int) - 1
  ·rw [if_pos ha,if_neg (by omega)]
  ·rw [if_neg ha,if_pos (by omega)]
 ·rw [if_neg h,if_neg h]
end Go.Proofs.Ytfiaadlgfjokjaa
