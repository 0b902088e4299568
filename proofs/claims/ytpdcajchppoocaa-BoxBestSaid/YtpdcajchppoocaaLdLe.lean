import Derived.Test.YtpdcajchppoocaaLaLbLc
set_option linter.unusedVariables false
set_option linter.unusedSimpArgs false
namespace Go.Lg
variable {P:Program}

theorem aIndexAddr_run {t x i ρ v} {w F I β vx vi} (h:aIndexAddr P t x i ρ v) (hs:SR w F I β ρ) (hx:Rel (cellf w) I ρ.length β x vx) (hi:Rel (cellf w) I ρ.length β i vi) :
  ∃ u,(Instr.indexAt t vx vi).run P w=.ok u w∧Rel (cellf w) I ρ.length β v u:=by
 unfold aIndexAddr at h
 split at h
 ·rename_i k n
  cases hi
  split at h
  ·rename_i e hu
   obtain ⟨hk,h⟩:=h
   have key:∀ b o len cap,0≤n→n<(len:Nat)→(Instr.indexAt t (.slice (some ⟨b,o,none⟩) len cap) (.int k n)).run P w=.ok (.pointer (some ⟨b,o+n.toNat*P.cellsOf e,none⟩)) w:=by
    intro b o len cap h0 h1
    simp [Instr.indexAt,asIntOf,run_underlying hu,h0,h1,run_sizeOf' hk,add_none]
   split at h
   ·rename_i sz L
    obtain ⟨hz,h0,h1,rfl⟩:=h
    cases hx with
    | isl _ _ b off cap vs hb hn hzz hc hv =>
     refine ⟨_,key _ _ _ _ h0 h1,?_⟩
     have hlt:n.toNat<L.length:=by omega
     have hcl:=hzz _ hlt
     refine .iptr _ b _ (fun j=>vs n.toNat j) hb (fun j hj=>?_) (fun j hj=>?_)
     ·rw [hz]; exact hc _ hlt j (by omega)
     ·exact hv _ hlt j (by omega)
    | islz=>simp at h1; omega
   ·rename_i r o m
    obtain ⟨R,hR,hz,h0,h1,rfl⟩:=h
    cases hx with
    | sl _ _ _ cap l hr hl hn hc =>
     refine ⟨_,key _ _ _ _ h0 h1,?_⟩
     have e1:=(hs.real r R l hR hl).1
     have:(⟨l.b,l.off+o*l.sz+n.toNat*P.cellsOf e,none⟩:Addr)=⟨l.b,l.off+(o+n.toNat)*l.sz+0,none⟩:=by
      rw [← hz,← e1,Nat.add_mul]; simp
     rw [this]; exact .ptr r _ 0 l hr hl
    | slz _ _ a hr=>omega
   ·rename_i r o j sz m
    obtain ⟨hz,h0,h1,rfl⟩:=h
    cases hx with
    | sub _ _ _ _ _ cap l hr hl hn =>
     refine ⟨_,key _ _ _ _ h0 h1,?_⟩
     rw [hz,Nat.add_assoc]
     exact .ptr r _ _ l hr hl
    | subz _ _ _ _ a hr=>simp at h1; omega
   ·exact h.elim
  ·rename_i len e hu
   obtain ⟨hk,h0,h1,h⟩:=h
   have key:∀ b o,(Instr.indexAt t (.pointer (some ⟨b,o,none⟩)) (.int k n)).run P w=.ok (.pointer (some ⟨b,o+n.toNat*P.cellsOf e,none⟩)) w:=by
    intro b o
    simp [Instr.indexAt,asIntOf,run_underlying hu,h0,h1,run_sizeOf' hk,add_none,Instr.sureAddr]
   split at h
   ·subst h
    cases hx with
    | ptr _ _ _ l hr hl=>exact ⟨_,key _ _,by rw [Nat.add_assoc]; exact .ptr _ _ _ l hr hl⟩
   ·subst h
    cases hx with
    | iptr cs b off vs hb hc hv =>
     refine ⟨_,key _ _,?_⟩
     refine .iptr _ b _ (fun j=>vs (n.toNat*P.cellsOf e+j)) hb (fun j hj=>?_) (fun j hj=>?_)
     ·simp at hj; rw [Nat.add_assoc]; exact hc _ (by omega)
     ·simp at hj
      have:=hv (n.toNat*P.cellsOf e+j) (by omega)
      simpa [List.getD,List.getElem?_drop] using this
   ·exact h.elim
  ·exact h.elim
 ·exact h.elim

theorem aIndex_run {t x i v} {w:World} {c I N β vx vi} (h:aIndex P t x i v) (hx:Rel c I N β x vx) (hi:Rel c I N β i vi) :
  ∃ u,(Instr.index t vx vi).run P w=.ok u w∧Rel c I N β v u:=by
 unfold aIndex at h
 split at h
 ·rename_i k n
  cases hi
  split at h
  ·rename_i len e hu
   obtain ⟨hk,h0,h1,h⟩:=h
   split at h
   ·cases hx with
    | agg cs vs hn hv =>
     have:=run_part' (w:=w) hn hv h
     simpa [Instr.index,asIntOf,run_underlying hu,h0,h1,run_sizeOf' hk] using this
   ·exact h.elim
  ·rename_i hu
   split at h
   ·obtain ⟨b,h0,h1,rfl⟩:=h
    cases hx
    exact ⟨_,by simp [Instr.index,asIntOf,run_underlying hu,h0,h1],.sc _⟩
   ·exact h.elim
  ·exact h.elim
 ·exact h.elim

def RelO (c:Nat→Nat→Option Value) (I:Nat→Prop) (N:Nat) (β:Nat→Option Loc):Option AV→Option Value→Prop
 | none,none=>True
 | some a,some v=>Rel c I N β a v
 | _,_=>False

theorem boundOf_val {b:Option AV} {d l:Int} (h:boundOf b d=some l) {c I N β} {u:Option Value}
  (hu:RelO c I N β b u) :
  (b=none∧u=none∧l=d)∨(∃ k,u=some (.int k l)):=by
 unfold boundOf at h
 split at h
 ·left; cases u <;> simp_all [RelO]
 ·right
  cases u with
  | none=>simp [RelO] at hu
  | some v=>simp [RelO] at hu; cases hu; cases h; exact ⟨_,rfl⟩
 ·cases h

theorem aSlice_run {t x lo hi v} {w:World} {I N β vx} {ul uh:Option Value} (h:aSlice P t x lo hi v) (hx:Rel (cellf w) I N β x vx)
  (hlo:RelO (cellf w) I N β lo ul)
  (hhi:RelO (cellf w) I N β hi uh)
  (hroot:∀ r o n,x=.sl r o n→∀ l,β r=some l→∀ e,P.underlying t=some (.slice e)→l.sz=P.cellsOf e) :
  ∃ u,(Instr.sliceAt t vx ul uh none).run P w=.ok u w∧Rel (cellf w) I N β v u:=by
 unfold aSlice at h
 split at h
 ·rename_i e hu
  obtain ⟨hk,h⟩:=h
  have key:∀ a len cap (l hh:Int),len≤cap→boundOf lo 0=some l→boundOf hi (len:Nat)=some hh→0≤l→l≤hh→hh≤(len:Nat) →
    (Instr.sliceAt t (.slice a len cap) ul uh none).run P w=.ok (.slice (if cap=l.toNat then a else a.map (·.add (l.toNat*P.cellsOf e))) (hh.toNat - l.toNat) (cap - l.toNat)) w:=by
   intro a len cap l hh hlc h1 h2 h3 h4 h5
   have b1:=boundOf_val h1 hlo
   have b2:=boundOf_val h2 hhi
   simp only [Instr.sliceAt,Sem.run_bind,run_underlying hu,Result.andThen_ok,Instr.slice]
   have hb:(Instr.sliceBounds true len cap ul uh none).run P w=.ok (l.toNat,hh.toNat,cap) w:=by
    rcases b1 with ⟨-,rfl,rfl⟩ | ⟨k1,rfl⟩ <;> rcases b2 with ⟨-,rfl,rfl⟩ | ⟨k2,rfl⟩
    ·simp [Instr.sliceBounds]
    ·have:hh≤(cap:Int):=by omega
     simp [Instr.sliceBounds,Instr.sliceBound,asIntOf,this]
     omega
    ·simp [Instr.sliceBounds,Instr.sliceBound,asIntOf,h3,h4]
    ·have:hh≤(cap:Int):=by omega
     have h0:0≤hh:=by omega
     have e1:(hh.toNat:Int)=hh:=by omega
     simp [Instr.sliceBounds,Instr.sliceBound,asIntOf,this,h0,h3,e1,h4]
   simp [hb,run_sizeOf' hk]
  split at h
  ·rename_i sz L
   obtain ⟨hz,l,hh,h1,h2,h3,h4,h5,rfl⟩:=h
   cases hx with
   | isl _ _ b off cap vs hb hn hzz hc hv =>
    refine ⟨_,key _ _ _ l hh hn h1 h2 h3 h4 h5,?_⟩
    have elen:hh.toNat - l.toNat=((L.take hh.toNat).drop l.toNat).length:=by simp; omega
    have eget:∀ i,i<((L.take hh.toNat).drop l.toNat).length→((L.take hh.toNat).drop l.toNat).getD i .any=L.getD (l.toNat+i) .any:=by
     intro i hi
     simp at hi
     simp [List.getD,List.getElem?_drop]
     rw [List.getElem?_take_of_lt (by omega)]
    have haddr:∃ off',(if cap=l.toNat then some (⟨b,off,none⟩:Addr) else (some (⟨b,off,none⟩:Addr)).map (·.add (l.toNat*P.cellsOf e)))=some ⟨b,off',none⟩∧(l.toNat<L.length→off'=off+l.toNat*sz):=by
     split
     ·exact ⟨off,rfl,fun h=>by omega⟩
     ·exact ⟨off+l.toNat*P.cellsOf e,by simp [add_none],fun _=>by rw [hz]⟩
    obtain ⟨off',ha,ho⟩:=haddr
    rw [ha,elen]
    refine .isl sz _ b off' _ (fun i j=>vs (l.toNat+i) j) hb (by simp; omega) (fun i hi=>?_) (fun i hi j hj=>?_) (fun i hi j hj=>?_)
    ·rw [eget i hi]; simp at hi; exact hzz _ (by omega)
    ·simp at hi
     rw [ho (by omega)]
     have:=hc (l.toNat+i) (by omega) j hj
     rw [Nat.add_mul] at this
     rw [show off+l.toNat*sz+i*sz+j=off+(l.toNat*sz+i*sz)+j by omega]; exact this
    ·rw [eget i hi]; simp at hi; exact hv _ (by omega) j hj
   | islz _ aa =>
    have e0:hh=0:=by simp at h5; omega
    have e1:l=0:=by omega
    subst e0 e1
    refine ⟨_,key aa 0 0 0 0 (Nat.le_refl _) h1 h2 h3 h4 h5,?_⟩
    simp; exact .islz sz _
  ·rename_i r o n
   obtain ⟨l,hh,h1,h2,h3,h4,h5,rfl⟩:=h
   cases hx with
   | sl _ _ _ cap lc hr hl hn hc =>
    refine ⟨_,key _ _ _ l hh hn h1 h2 h3 h4 h5,?_⟩
    have esz:=hroot r o n rfl lc hl e hu
    have elen:hh.toNat - l.toNat=(hh - l).toNat:=by omega
    rw [elen]
    split
    ·rename_i hcap
     have e0:(hh - l).toNat=0:=by omega
     have e1:cap - l.toNat=0:=by omega
     rw [e0,e1]; exact .slz _ _ _ hr
    ·simp only [Option.map_some,add_none]
     rw [show lc.off+o*lc.sz+l.toNat*P.cellsOf e=lc.off+(o+l.toNat)*lc.sz by rw [← esz,Nat.add_mul]; omega]
     refine .sl r _ _ _ lc hr hl (by omega) (fun k hk=>?_)
     rw [show lc.off+(o+l.toNat)*lc.sz+k=lc.off+o*lc.sz+(l.toNat*lc.sz+k) by rw [Nat.add_mul]; omega]
     refine hc _ ?_
     rw [Nat.sub_mul] at hk
     have:l.toNat*lc.sz≤cap*lc.sz:=Nat.mul_le_mul_right _ (by omega)
     omega
   | slz _ _ a hr =>
    have e0:hh=0:=by simp at h5; omega
    have e1:l=0:=by omega
    subst e0 e1
    refine ⟨_,key a 0 0 0 0 (Nat.le_refl _) h1 h2 h3 h4 h5,?_⟩
    simp; exact .slz _ _ _ hr
  ·rename_i r i j sz n
   obtain ⟨hz,l,hh,h1,h2,h3,h4,h5,rfl⟩:=h
   cases hx with
   | sub _ _ _ _ _ cap lc hr hl hn =>
    refine ⟨_,key _ _ _ l hh hn h1 h2 h3 h4 h5,?_⟩
    have elen:hh.toNat - l.toNat=(hh - l).toNat:=by omega
    rw [elen]
    split
    ·have e0:(hh - l).toNat=0:=by omega
     have e1:cap - l.toNat=0:=by omega
     rw [e0,e1]; exact .subz _ _ _ _ _ hr
    ·simp only [Option.map_some,add_none,hz]
     rw [Nat.add_assoc]
     exact .sub r i _ sz _ _ lc hr hl (by omega)
   | subz _ _ _ _ a hr =>
    have e0:hh=0:=by simp at h5; omega
    have e1:l=0:=by omega
    subst e0 e1
    refine ⟨_,key a 0 0 0 0 (Nat.le_refl _) h1 h2 h3 h4 h5,?_⟩
    simp; exact .subz _ _ _ _ _ hr
  ·exact h.elim
 ·rename_i len e hu
  obtain ⟨hk,l,hh,h1,h2,h3,h4,h5,h⟩:=h
  have key:∀ b off,(Instr.sliceAt t (.pointer (some ⟨b,off,none⟩)) ul uh none).run P w=.ok (.slice (some (if len=l.toNat then (⟨b,off,none⟩:Addr) else (⟨b,off,none⟩:Addr).add (l.toNat*P.cellsOf e))) (hh.toNat - l.toNat) (len - l.toNat)) w:=by
   intro b off
   have b1:=boundOf_val h1 hlo
   have b2:=boundOf_val h2 hhi
   simp only [Instr.sliceAt,Sem.run_bind,run_underlying hu,Result.andThen_ok,Instr.sureAddr]
   have hb:(Instr.sliceBounds false len len ul uh none).run P w=.ok (l.toNat,hh.toNat,len) w:=by
    rcases b1 with ⟨-,rfl,rfl⟩ | ⟨k1,rfl⟩ <;> rcases b2 with ⟨-,rfl,rfl⟩ | ⟨k2,rfl⟩
    ·simp [Instr.sliceBounds]
    ·have:hh≤(len:Int):=by omega
     simp [Instr.sliceBounds,Instr.sliceBound,asIntOf,this]
     omega
    ·simp [Instr.sliceBounds,Instr.sliceBound,asIntOf,h3,h4]
    ·have:hh≤(len:Int):=by omega
     have h0:0≤hh:=by omega
     have e1:(hh.toNat:Int)=hh:=by omega
     simp [Instr.sliceBounds,Instr.sliceBound,asIntOf,this,h0,h3,e1,h4]
   simp [hb,run_sizeOf' hk]
  have elen:hh.toNat - l.toNat=(hh - l).toNat:=by omega
  split at h
  ·rename_i r i j
   subst h
   cases hx with
   | ptr _ _ _ lc hr hl =>
    refine ⟨_,key _ _,?_⟩
    rw [elen]
    split
    ·have e0:(hh - l).toNat=0:=by omega
     have e1:len - l.toNat=0:=by omega
     rw [e0,e1]; exact .subz _ _ _ _ _ hr
    ·rw [add_none,Nat.add_assoc]
     exact .sub r i _ _ _ _ lc hr hl (by omega)
  ·rename_i cs
   obtain ⟨hlen,rfl⟩:=h
   cases hx with
   | iptr _ b off vs hb hc hv =>
    refine ⟨_,key _ _,?_⟩
    rw [elen]
    by_cases h0:len=l.toNat
    ·have e0:(hh - l).toNat=0:=by omega
     have e1:len - l.toNat=0:=by omega
     rw [e0,e1]; simp; exact .islz _ _
    ·rw [if_neg h0,add_none]
     obtain ⟨L,hL⟩:∃ L,L=(List.range (hh - l).toNat).map fun k=>AV.agg ((cs.drop ((l.toNat+k)*P.cellsOf e)).take (P.cellsOf e)):=⟨_,rfl⟩
     have hLl:L.length=(hh - l).toNat:=by simp [hL]
     have hbd:∀ i,i<(hh - l).toNat→(l.toNat+i)*P.cellsOf e+P.cellsOf e≤cs.length:=fun i hi=>by
      have:(l.toNat+i+1)*P.cellsOf e≤len*P.cellsOf e:=Nat.mul_le_mul_right _ (by omega)
      rw [Nat.add_mul (l.toNat+i) 1] at this; omega
     have hget:∀ i,i<(hh - l).toNat→(L.getD i .any).cells=(cs.drop ((l.toNat+i)*P.cellsOf e)).take (P.cellsOf e):=fun i hi=>by
      simp [hL,List.getD,hi,AV.cells]
     have hcell:∀ i,i<(hh - l).toNat→∀ j,j<P.cellsOf e→(L.getD i .any).cells.getD j .any=cs.getD ((l.toNat+i)*P.cellsOf e+j) .any:=fun i hi j hj=>by
      rw [hget i hi,getD_take _ _ _ hj]; simp [List.getD,List.getElem?_drop]
     rw [← hL,← hLl]
     refine .isl (P.cellsOf e) L b _ _ (fun i j=>vs ((l.toNat+i)*P.cellsOf e+j)) hb (by omega) (fun i hi=>?_) (fun i hi j hj=>?_) (fun i hi j hj=>?_)
     ·rw [hget i (by omega)]; have:=hbd i (by omega); simp; omega
     ·have:=hc ((l.toNat+i)*P.cellsOf e+j) (by have:=hbd i (by omega); omega)
      rw [Nat.add_mul] at this
      rw [show off+l.toNat*P.cellsOf e+i*P.cellsOf e+j=off+(l.toNat*P.cellsOf e+i*P.cellsOf e+j) by omega,this,Nat.add_mul]
     ·rw [hcell i (by omega) j hj]
      exact hv _ (by have:=hbd i (by omega); omega)
  ·exact h.elim
 ·exact h.elim
theorem aSlice3_run {t x lo k0 k1 z v} {w:World} {I N β vx} {ul:Option Value} (hus:∃ e,P.underlying t=some (.slice e)) (h:aSlice P t x lo (some (.sc (.int k0 z))) v) (hx:Rel (cellf w) I N β x vx)
  (hlo:RelO (cellf w) I N β lo ul)
  (hroot:∀ r o n,x=.sl r o n→∀ l,β r=some l→∀ e,P.underlying t=some (.slice e)→l.sz=P.cellsOf e) :
  ∃ u,(Instr.sliceAt t vx ul (some (.int k0 z)) (some (.int k1 z))).run P w=.ok u w∧Rel (cellf w) I N β v u:=by
 unfold aSlice at h
 split at h
 ·rename_i e hu
  obtain ⟨hk,h⟩:=h
  have key:∀ a len cap (l hh:Int),len≤cap→boundOf lo 0=some l→boundOf (some (.sc (.int k0 z))) (len:Nat)=some hh→0≤l→l≤hh→hh≤(len:Nat) →
    (Instr.sliceAt t (.slice a len cap) ul (some (.int k0 z)) (some (.int k1 z))).run P w=.ok (.slice (if hh.toNat=l.toNat then a else a.map (·.add (l.toNat*P.cellsOf e))) (hh.toNat - l.toNat) (hh.toNat - l.toNat)) w:=by
   intro a len cap l hh hlc h1 h2 h3 h4 h5
   have b1:=boundOf_val h1 hlo
   cases h2
   simp only [Instr.sliceAt,Sem.run_bind,run_underlying hu,Result.andThen_ok,Instr.slice]
   have hb:(Instr.sliceBounds true len cap ul (some (.int k0 z)) (some (.int k1 z))).run P w=.ok (l.toNat,z.toNat,z.toNat) w:=by
    have:z≤(cap:Int):=by omega
    have h0:0≤z:=by omega
    have e1:(z.toNat:Int)=z:=by omega
    rcases b1 with ⟨-,rfl,rfl⟩ | ⟨k1,rfl⟩
    ·simp [Instr.sliceBounds,Instr.sliceBound,asIntOf,this,h0,e1]
    ·simp [Instr.sliceBounds,Instr.sliceBound,asIntOf,this,h0,h3,e1,h4]
   simp [hb,run_sizeOf' hk]
  split at h
  ·rename_i sz L
   obtain ⟨hz,l,hh,h1,h2,h3,h4,h5,rfl⟩:=h
   cases hx with
   | isl _ _ b off cap vs hb hn hzz hc hv =>
    refine ⟨_,key _ _ _ l hh hn h1 h2 h3 h4 h5,?_⟩
    have elen:hh.toNat - l.toNat=((L.take hh.toNat).drop l.toNat).length:=by simp; omega
    have eget:∀ i,i<((L.take hh.toNat).drop l.toNat).length→((L.take hh.toNat).drop l.toNat).getD i .any=L.getD (l.toNat+i) .any:=by
     intro i hi
     simp at hi
     simp [List.getD,List.getElem?_drop]
     rw [List.getElem?_take_of_lt (by omega)]
    have haddr:∃ off',(if hh.toNat=l.toNat then some (⟨b,off,none⟩:Addr) else (some (⟨b,off,none⟩:Addr)).map (·.add (l.toNat*P.cellsOf e)))=some ⟨b,off',none⟩∧(l.toNat<hh.toNat→off'=off+l.toNat*sz):=by
     split
     ·exact ⟨off,rfl,fun h=>by omega⟩
     ·exact ⟨off+l.toNat*P.cellsOf e,by simp [add_none],fun _=>by rw [hz]⟩
    obtain ⟨off',ha,ho⟩:=haddr
    rw [ha,elen]
    refine .isl sz _ b off' _ (fun i j=>vs (l.toNat+i) j) hb (by simp) (fun i hi=>?_) (fun i hi j hj=>?_) (fun i hi j hj=>?_)
    ·rw [eget i hi]; simp at hi; exact hzz _ (by omega)
    ·simp at hi
     rw [ho (by omega)]
     have:=hc (l.toNat+i) (by omega) j hj
     rw [Nat.add_mul] at this
     rw [show off+l.toNat*sz+i*sz+j=off+(l.toNat*sz+i*sz)+j by omega]; exact this
    ·rw [eget i hi]; simp at hi; exact hv _ (by omega) j hj
   | islz _ aa =>
    have e0:hh=0:=by simp at h5; omega
    have e1:l=0:=by omega
    subst e0 e1
    refine ⟨_,key aa 0 0 0 0 (Nat.le_refl _) h1 h2 h3 h4 h5,?_⟩
    simp; exact .islz sz _
  ·rename_i r o n
   obtain ⟨l,hh,h1,h2,h3,h4,h5,rfl⟩:=h
   cases hx with
   | sl _ _ _ cap lc hr hl hn hc =>
    refine ⟨_,key _ _ _ l hh hn h1 h2 h3 h4 h5,?_⟩
    have esz:=hroot r o n rfl lc hl e hu
    have elen:hh.toNat - l.toNat=(hh - l).toNat:=by omega
    rw [elen]
    split
    ·rename_i hcap
     have e0:(hh - l).toNat=0:=by omega
     rw [e0]; exact .slz _ _ _ hr
    ·simp only [Option.map_some,add_none]
     rw [show lc.off+o*lc.sz+l.toNat*P.cellsOf e=lc.off+(o+l.toNat)*lc.sz by rw [← esz,Nat.add_mul]; omega]
     refine .sl r _ _ _ lc hr hl (by omega) (fun k hk=>?_)
     rw [show lc.off+(o+l.toNat)*lc.sz+k=lc.off+o*lc.sz+(l.toNat*lc.sz+k) by rw [Nat.add_mul]; omega]
     refine hc _ ?_
     have e2:(l.toNat+(hh - l).toNat)*lc.sz≤cap*lc.sz:=Nat.mul_le_mul_right _ (by omega)
     rw [Nat.add_mul] at e2
     omega
   | slz _ _ a hr =>
    have e0:hh=0:=by simp at h5; omega
    have e1:l=0:=by omega
    subst e0 e1
    refine ⟨_,key a 0 0 0 0 (Nat.le_refl _) h1 h2 h3 h4 h5,?_⟩
    simp; exact .slz _ _ _ hr
  ·rename_i r i j sz n
   obtain ⟨hz,l,hh,h1,h2,h3,h4,h5,rfl⟩:=h
   cases hx with
   | sub _ _ _ _ _ cap lc hr hl hn =>
    refine ⟨_,key _ _ _ l hh hn h1 h2 h3 h4 h5,?_⟩
    have elen:hh.toNat - l.toNat=(hh - l).toNat:=by omega
    rw [elen]
    split
    ·have e0:(hh - l).toNat=0:=by omega
     rw [e0]; exact .subz _ _ _ _ _ hr
    ·simp only [Option.map_some,add_none,hz]
     rw [Nat.add_assoc]
     exact .sub r i _ sz _ _ lc hr hl (by omega)
   | subz _ _ _ _ a hr =>
    have e0:hh=0:=by simp at h5; omega
    have e1:l=0:=by omega
    subst e0 e1
    refine ⟨_,key a 0 0 0 0 (Nat.le_refl _) h1 h2 h3 h4 h5,?_⟩
    simp; exact .subz _ _ _ _ _ hr
  ·exact h.elim
 ·rename_i hn _
  obtain ⟨e,he⟩:=hus
  simp_all
 ·obtain ⟨e,he⟩:=hus
  simp_all

end Go.Lg

namespace Go.Lg
variable {P:Program}

def RelL (c:Nat→Nat→Option Value) (I:Nat→Prop) (N:Nat) (β:Nat→Option Loc) (l:List AV) (vs:List Value):Prop :=
 vs.length=l.length∧∀ j,j<l.length→Rel c I N β (l.getD j .any) (vs.getD j undef)

theorem RelL.nil {c I N β vs} (h:RelL c I N β [] vs):vs=[]:=by simpa using h.1
theorem RelL.cons {c I N β a l vs} (h:RelL c I N β (a :: l) vs):∃ v r,vs=v :: r∧Rel c I N β a v∧RelL c I N β l r:=by
 obtain ⟨hn,hv⟩:=h
 cases vs with
 | nil=>simp at hn
 | cons v r =>
  refine ⟨v,r,rfl,by simpa using hv 0 (by simp),by simpa using hn,fun j hj=>?_⟩
  simpa using hv (j+1) (by simpa using hj)
theorem RelL.mk_nil {c I N β}:RelL c I N β [] []:=⟨rfl,fun j hj=>by simp at hj⟩
theorem RelL.mk {c I N β a l v vs} (h:Rel c I N β a v) (hl:RelL c I N β l vs):RelL c I N β (a :: l) (v :: vs):=by
 refine ⟨by simp [hl.1],fun j hj=>?_⟩
 cases j with
 | zero=>simpa using h
 | succ j=>simpa using hl.2 j (by simpa using hj)
theorem RelL.of_map {c I N β} (A:List AV) (f:Operand→Value) (h:∀ x,Rel c I N β (aev A x) (f x)) (xs:List Operand):RelL c I N β (xs.map (aev A)) (xs.map f):=by
 induction xs with
 | nil=>exact .mk_nil
 | cons x r ih=>exact .mk (h x) ih
theorem RelL.agg {c I N β l} {vs:Array Value} (h:RelL c I N β l vs.toList):Rel c I N β (.agg l) (.agg vs) :=
 .agg _ _ (by simpa using h.1) (fun j hj=>by
  have:=h.2 j hj
  have hj':j<vs.size:=by have:=h.1; simp at this; omega
  simpa [Array.getD,List.getD,hj'] using this)
theorem RelL.tup {c I N β l} {vs:Array Value} (h:RelL c I N β l vs.toList):Rel c I N β (.tup l) (.tuple vs) :=
 .tup _ _ (by simpa using h.1) (fun j hj=>by
  have:=h.2 j hj
  have hj':j<vs.size:=by have:=h.1; simp at this; omega
  simpa [Array.getD,List.getD,hj'] using this)
theorem RelL.of_agg {c I N β l} {vs:Array Value} (h:Rel c I N β (.agg l) (.agg vs)):RelL c I N β l vs.toList:=by
 cases h with
 | agg _ _ hn hv =>
  refine ⟨by simpa using hn,fun j hj=>?_⟩
  have hj':j<vs.size:=by omega
  simpa [Array.getD,List.getD,hj'] using hv j hj

def asInts (k:IntKind):List AV→Option (List Int)
 | []=>some []
 | .sc (.int k' n) :: r=>if k'=k then (asInts k r).map (n :: ·) else none
 | _=>none

def aBuiltin (P:Program) (b:Builtin) (ts:Array TypeId) (args:List AV) (v:AV):Prop :=
 match b with
 | .len=>(match args,ts[0]? with
  | [x],some t=>(match P.underlying t,x with
   | some (.slice _),.isl _ L=>v=.sc (.int .i64 L.length)
   | some (.slice _),.sl _ _ n=>v=.sc (.int .i64 n)
   | some (.slice _),.sc (.slice _ n _)=>v=.sc (.int .i64 n)
   | some (.slice _),.sub _ _ _ _ n=>v=.sc (.int .i64 n)
   | some .string,.sc (.string s)=>v=.sc (.int .i64 s.size)
   | some (.array n _),_=>v=.sc (.int .i64 n)
   | _,_=>False)
  | _,_=>False)
 | .min=>(match args with
  | .sc (.int k m) :: r=>∃ l,asInts k r=some l∧v=.sc (.int k (l.foldl min m))
  | _=>False)
 | .max=>(match args with
  | .sc (.int k m) :: r=>∃ l,asInts k r=some l∧v=.sc (.int k (l.foldl max m))
  | _=>False)
 | _=>False

theorem minfold (P:Program) (w:World) (k:IntKind):∀ (r:List AV) (l:List Int) (m:Int) (vs:List Value) {c I N β},asInts k r=some l→RelL c I N β r vs →
  (vs.foldlM Builtin.min2 (.int k m):Sem Value).run P w=.ok (.int k (l.foldl min m)) w
 | [],l,m,vs,_,_,_,_,h,hr=>by simp [asInts] at h; subst h; rw [hr.nil]; simp
 | x :: r,l,m,vs,c,I,N,β,h,hr=>by
  obtain ⟨v,vr,rfl,hx,hr'⟩:=hr.cons
  cases x with
  | sc u =>
   cases u <;> simp [asInts] at h
   rename_i k' n
   obtain ⟨rfl,l',h',rfl⟩:=h
   cases hx
   have ih:=minfold P w k' r l' (min m n) vr h' hr'
   have e:(if n<m then n else m)=min m n:=by omega
   simp [Builtin.min2,e,ih]
  | _=>simp [asInts] at h
theorem maxfold (P:Program) (w:World) (k:IntKind):∀ (r:List AV) (l:List Int) (m:Int) (vs:List Value) {c I N β},asInts k r=some l→RelL c I N β r vs →
  (vs.foldlM Builtin.max2 (.int k m):Sem Value).run P w=.ok (.int k (l.foldl max m)) w
 | [],l,m,vs,_,_,_,_,h,hr=>by simp [asInts] at h; subst h; rw [hr.nil]; simp
 | x :: r,l,m,vs,c,I,N,β,h,hr=>by
  obtain ⟨v,vr,rfl,hx,hr'⟩:=hr.cons
  cases x with
  | sc u =>
   cases u <;> simp [asInts] at h
   rename_i k' n
   obtain ⟨rfl,l',h',rfl⟩:=h
   cases hx
   have ih:=maxfold P w k' r l' (max m n) vr h' hr'
   have e:(if m<n then n else m)=max m n:=by omega
   simp [Builtin.max2,e,ih]
  | _=>simp [asInts] at h

theorem aBuiltin_run {b ts args v} {w:World} {c I N β} {vs:Array Value} {ty cs} (h:aBuiltin P b ts args v) (hr:RelL c I N β args vs.toList) :
  ∃ u,(builtin b ts ty cs vs).run P w=.ok (.value u) w∧Rel c I N β v u:=by
 unfold aBuiltin at h
 obtain ⟨L⟩:=vs
 simp only at hr
 split at h
 ·split at h
  ·rename_i x t ht
   obtain ⟨vx,r,rfl,hx,hr'⟩:=hr.cons
   obtain rfl:=hr'.nil
   split at h
   ·rename_i hu
    subst h
    cases hx with
    | isl _ _ b off cap vs hb hn hz hc hv=>exact ⟨_,by simp [builtin,Builtin.len_,ht,run_underlying hu,goInt],.sc _⟩
    | islz=>exact ⟨_,by simp [builtin,Builtin.len_,ht,run_underlying hu,goInt],.sc _⟩
   ·rename_i hu
    subst h
    cases hx with
    | sl _ _ _ cap l hr hl hn hc=>exact ⟨_,by simp [builtin,Builtin.len_,ht,run_underlying hu,goInt],.sc _⟩
    | slz _ _ a hr=>exact ⟨_,by simp [builtin,Builtin.len_,ht,run_underlying hu,goInt],.sc _⟩
   ·rename_i hu
    subst h
    cases hx
    exact ⟨_,by simp [builtin,Builtin.len_,ht,run_underlying hu,goInt],.sc _⟩
   ·rename_i hu
    subst h
    cases hx with
    | sub=>exact ⟨_,by simp [builtin,Builtin.len_,ht,run_underlying hu,goInt],.sc _⟩
    | subz=>exact ⟨_,by simp [builtin,Builtin.len_,ht,run_underlying hu,goInt],.sc _⟩
   ·rename_i hu
    subst h
    cases hx
    exact ⟨_,by simp [builtin,Builtin.len_,ht,run_underlying hu,goInt],.sc _⟩
   ·rename_i hu
    subst h
    exact ⟨_,by simp [builtin,Builtin.len_,ht,run_underlying hu,goInt],.sc _⟩
   ·exact h.elim
  ·exact h.elim
 ·split at h
  ·rename_i k m r
   obtain ⟨l,h1,rfl⟩:=h
   obtain ⟨vx,vr,rfl,hx,hr'⟩:=hr.cons
   cases hx
   exact ⟨_,by simp [builtin,Builtin.min_,minfold P w k r l m vr h1 hr'],.sc _⟩
  ·exact h.elim
 ·split at h
  ·rename_i k m r
   obtain ⟨l,h1,rfl⟩:=h
   obtain ⟨vx,vr,rfl,hx,hr'⟩:=hr.cons
   cases hx
   exact ⟨_,by simp [builtin,Builtin.max_,maxfold P w k r l m vr h1 hr'],.sc _⟩
  ·exact h.elim
 ·exact h.elim

def aUn (P:Program) (op:UnOp) (x v:AV):Prop :=
 match op,x with
 | .not,.sc (.bool b)=>v=.sc (.bool (!b))
 | .neg,.sc (.int k n)=>inR k (0 - n)∧v=.sc (.int k (0 - n))
 | op,x=>∃ vx u,toV x=some vx∧(Op.unary op vx).pv P=some u∧v=ofV u

theorem aUn_run {op x v} {w:World} {c I N β vx} (h:aUn P op x v) (hx:Rel c I N β x vx):∃ u,(Op.unary op vx).run P w=.ok u w∧Rel c I N β v u:=by
 unfold aUn at h
 split at h
 ·subst h; cases hx; exact ⟨_,rfl,.sc _⟩
 ·obtain ⟨hr,rfl⟩:=h; cases hx
  exact ⟨_,by simp only [Op.unary,Op.intArith,wrap_inR hr]; rfl,.sc _⟩
 ·obtain ⟨vx',u,h1,h2,rfl⟩:=h
  have:=toV_spec h1 hx; subst this
  exact ⟨u,run_of_pv h2 w,ofV_rel _ _ _ _ _⟩

def aConv (P:Program) (s d:TypeId) (x v:AV):Prop :=
 match P.underlying d,x with
 | some (.int k),.sc (.int _ n)=>known P s=true∧v=.sc (.int k (k.wrap n))
 | _,x=>∃ vx u,toV x=some vx∧(convert s d vx).pv P=some u∧v=ofV u

theorem aConv_run {s d x v} {w:World} {c I N β vx} (h:aConv P s d x v) (hx:Rel c I N β x vx):∃ u,(convert s d vx).run P w=.ok u w∧Rel c I N β v u:=by
 unfold aConv at h
 split at h
 ·rename_i hd
  obtain ⟨hs,rfl⟩:=h; cases hx
  unfold known at hs
  obtain ⟨ds,hs'⟩:=Option.isSome_iff_exists.1 hs
  exact ⟨_,by simp [convert,run_underlying hs',run_underlying hd,Conv.intToInt],.sc _⟩
 ·obtain ⟨vx',u,h1,h2,rfl⟩:=h
  have:=toV_spec h1 hx; subst this
  exact ⟨u,run_of_pv h2 w,ofV_rel _ _ _ _ _⟩

def fillA (place:Nat→Option (Nat × Nat)) (cells:List AV):List (Nat × AV)→Option (List AV)
 | []=>some cells
 | (i,x) :: rest=>match place i with
  | none=>none
  | some (off,size)=>if x.cells.length=size∧off+size≤cells.length then fillA place (cells.take off ++ x.cells ++ cells.drop (off+size)) rest else none

theorem rel_cells {c I N β x v} (h:Rel c I N β x v) (hne:x≠.any) (ht:∀ l,x≠.tup l) (hs:∀ u,x=.sc u→∀ cs,u≠.agg cs) :
  RelL c I N β x.cells v.cells.toList:=by
 cases h with
 | any=>exact absurd rfl hne
 | tup cs vs=>exact absurd rfl (ht cs)
 | agg cs vs hn hv=>exact RelL.of_agg (.agg cs vs hn hv)
 | sc v =>
  cases v <;> first
   | exact RelL.mk (.sc _) .mk_nil
   | exact absurd rfl (hs _ rfl _)
 | ptr r i j l hr hl=>exact RelL.mk (.ptr r i j l hr hl) .mk_nil
 | sl r o n cap l hr hl hn hc=>exact RelL.mk (.sl r o n cap l hr hl hn hc) .mk_nil
 | slz r o a hr=>exact RelL.mk (.slz r o a hr) .mk_nil
 | isl sz L b off cap vs hb hn hz hc hv=>exact RelL.mk (.isl sz L b off cap vs hb hn hz hc hv) .mk_nil
 | islz sz a=>exact RelL.mk (.islz sz a) .mk_nil
 | iptr cs b off vs hb hc hv=>exact RelL.mk (.iptr cs b off vs hb hc hv) .mk_nil
 | clo fn fs cs us vs hm hu hn hv=>exact RelL.mk (.clo fn fs cs us vs hm hu hn hv) .mk_nil
 | yld r l hr hl=>exact RelL.mk (.yld r l hr hl) .mk_nil
 | sub r i j sz n cap l hr hl hn=>exact RelL.mk (.sub r i j sz n cap l hr hl hn) .mk_nil
 | subz r i j sz a hr=>exact RelL.mk (.subz r i j sz a hr) .mk_nil
 | mp r l hr hl=>exact RelL.mk (.mp r l hr hl) .mk_nil
 | sit r l hr hl=>exact RelL.mk (.sit r l hr hl) .mk_nil
 | ifc t a v h=>exact RelL.mk (.ifc t a v h) .mk_nil

def AV.one:AV→Bool
 | .sc v=>v.oneCell'
 | .ptr .. | .sl .. | .isl .. | .iptr _ | .clo .. | .yld _ | .sub .. | .mp _ | .sit _ | .ifc ..=>true
 | _=>false
def AV.ok (x:AV):Bool:=match x with
 | .agg c=>c.all AV.one
 | x=>x.one

theorem ok_cells {c I N β x v} (h:Rel c I N β x v) (ho:x.ok=true):RelL c I N β x.cells v.cells.toList∧∀ y ∈ v.cells.toList,y.oneCell'=true:=by
 have hone:∀ {a u},Rel c I N β a u→a.one=true→u.oneCell'=true:=by
  intro a u h h1
  cases h <;> simp_all [AV.one] <;> rfl
 refine ⟨rel_cells h ?_ ?_ ?_,?_⟩
 ·rintro rfl; simp [AV.ok,AV.one] at ho
 ·rintro l rfl; simp [AV.ok,AV.one] at ho
 ·rintro u rfl cs rfl; simp [AV.ok,AV.one,Value.oneCell'] at ho
 ·cases h with
  | agg cs vs hn hv =>
   intro y hy
   obtain ⟨j,hj,rfl⟩:=List.getElem_of_mem hy
   have hj':j<vs.size:=by simpa [Value.cells] using hj
   simp only [AV.ok,List.all_eq_true] at ho
   have h1:=hv j (by omega)
   have h2:cs.getD j .any=cs[j]'(by omega):=by simp [List.getD,show j<cs.length by omega]
   rw [h2] at h1
   have:=hone h1 (ho _ (List.getElem_mem _))
   simpa [Array.getD,hj',Value.cells] using this
  | any=>simp [AV.ok,AV.one] at ho
  | tup=>simp [AV.ok,AV.one] at ho
  | sc v =>
   intro y hy
   cases v <;> simp_all [Value.cells,AV.ok,AV.one,Value.oneCell']
  | _=>intro y hy; simp [Value.cells] at hy; subst hy; rfl
end Go.Lg
