import Derived.Test.YtblomfkinjmjdaaMeMg
set_option linter.unusedVariables false
set_option linter.unusedSimpArgs false
namespace Go.Lg
open Go.RowKit
variable {P:Program} {β:Type}

def roomy (S:RowT):Bool:=Nat.blt S.n 510
theorem roomy_spec {S:RowT} (h:roomy S=true):S.n<512:=by
 unfold roomy at h; rw [blt_iff] at h; simp at h; omega

noncomputable def newK (b:Bool) (n:Nat) (z:AV) (X:RowT) (k:AV→RowT→Option β):Option β :=
 ifB (b && z.ok && Nat.beq z.cells.length n && roomy X) (X.pushK (some ⟨n,[z],none⟩) (k (.ptr X.n 0 0)))
theorem newK_spec {b n z X} {k:AV→RowT→Option β} {out} (h:newK b n z X k=some out):z.ok=true∧z.cells.length=n∧Good X (X.push (some ⟨n,[z],none⟩))∧(X.push (some ⟨n,[z],none⟩)).L=X.L ++ [some ⟨n,[z],none⟩]∧k (.ptr X.n 0 0) (X.push (some ⟨n,[z],none⟩))=some out:=by
 obtain ⟨h1,h2⟩:=ifB_spec h
 simp only [Bool.and_eq_true,Nat.beq_eq] at h1
 obtain ⟨⟨⟨_,h3⟩,h4⟩,h5⟩:=h1
 have h5:=roomy_spec h5
 rw [RowT.pushK_eq] at h2
 exact ⟨h3,h4,Good.push h5 _,RowT.push_L h5 _,h2⟩
noncomputable def allocK (P:Program) (t:TypeId) (X:RowT) (k:AV→RowT→Option β):Option β:=match zeroA P t with
 | some z=>newK true (P.cellsOf t) z X k
 | none=>none
noncomputable def storeK (kn:Bool) (n:Nat) (p x:AV) (X:RowT) (k:AV→RowT→Option β):Option β:=match p with
 | .ptr r i j=>(match X.row r with
  | some R=>nthK R.els i fun e=>ifB (kn && x.ok && Nat.beq x.cells.length n && !Nat.beq x.cells.length 0 && Nat.ble (Nat.add j x.cells.length) R.sz)
    (putElK e j x fun e'=>setLK R.els i e' fun els=>X.setK r (some ⟨R.sz,els,R.ob⟩) (k .any))
  | none=>none)
 | _=>none
where
 putElK (e:AV) (j:Nat) (x:AV) (k:AV→Option β):Option β:=match e with
  | .agg cs=>overK cs j x.cells fun c=>k (.agg c)
  | _=>k x
theorem putElK_spec {e j x} {k:AV→Option β} {out} (h:storeK.putElK e j x k=some out):k (putEl e j x)=some out:=by
 cases e with
 | agg cs=>exact overK_spec h
 | _=>exact h
theorem storeK_spec {t p x X} {k:AV→RowT→Option β} {out} (hX:X.n≤512) (h:storeK (known P t) (P.cellsOf t) p x X k=some out):∃ v X',aStore P t p x X.L v X'.L∧Good X X'∧k v X'=some out:=by
 unfold storeK at h
 unfold aStore
 split at h
 ·rename_i r i j
  split at h
  ·rename_i R hR
   obtain ⟨e,h1,h⟩:=nthK_spec h
   obtain ⟨hc,h⟩:=ifB_spec h
   simp only [Bool.and_eq_true,Nat.beq_eq,Bool.not_eq_true',Nat.ble_eq] at hc
   obtain ⟨⟨⟨⟨c1,c2⟩,c3⟩,c4⟩,c5⟩:=hc
   have h:=putElK_spec h
   rw [setLK_eq,RowT.setK_eq] at h
   obtain ⟨hi,he⟩:=List.getElem?_eq_some_iff.1 h1
   have hr:=RowT.row_lt hR
   have hge:R.els.getD i .any=e:=by unfold List.getD; rw [h1]; rfl
   refine ⟨.any,_,⟨R,X.get hR,hi,c1,c2,c3,?_,c5,rfl,?_⟩,Good.set hX hr _,h⟩
   ·intro h0; rw [h0] at c4; cases c4
   ·rw [RowT.set_L hX hr,hge]
  ·cases h
 ·cases h
noncomputable def elemsE (S:Nat) (X:RowT):AV→Option (List AV)
 | .isl sz L=>(match Nat.beq sz S with
  | true=>some L
  | false=>none)
 | .sl r o m=>(match X.row r with
  | some R=>(match Nat.ble (Nat.add o m) R.els.length && Nat.beq R.sz S with
   | true=>some ((R.els.drop o).take m)
   | false=>none)
  | none=>none)
 | .sub r i j sz n=>(match X.row r with
  | some R=>(match Nat.beq sz S && Nat.blt i R.els.length && Nat.ble (Nat.add j (Nat.mul n sz)) R.sz with
   | true=>some ((List.range n).map fun k=>.agg (((R.els.getD i .any).cells.drop (j+k*sz)).take sz))
   | false=>none)
  | none=>none)
 | .sc (.slice none 0 0)=>some []
 | _=>none
theorem elemsE_spec {S X x L} (h:elemsE S X x=some L):elemsOf S X.L x=some L:=by
 unfold elemsE at h
 split at h
 ·rename_i sz L'
  split at h
  ·rename_i hb; cases h; simp at hb; simp [elemsOf,hb]
  ·cases h
 ·rename_i r o m
  split at h
  ·rename_i R hR
   split at h
   ·rename_i hb
    cases h
    simp only [Bool.and_eq_true,Nat.ble_eq,Nat.beq_eq] at hb
    have hb:o+m≤R.els.length∧R.sz=S:=hb
    simp only [elemsOf,X.get hR]
    rw [if_pos hb]
   ·cases h
  ·cases h
 ·rename_i r i j sz n
  split at h
  ·rename_i R hR
   split at h
   ·rename_i hb
    cases h
    simp only [Bool.and_eq_true,Nat.ble_eq,Nat.beq_eq,blt_iff,decide_eq_true_eq] at hb
    have hb:sz=S∧i<R.els.length∧j+n*sz≤R.sz:=⟨hb.1.1,hb.1.2,hb.2⟩
    simp only [elemsOf,X.get hR]
    rw [if_pos hb]
   ·cases h
  ·cases h
 ·cases h; rfl
 ·cases h
noncomputable def dstK (S:Nat) (x:AV) (xs:List AV) (X:RowT) (k:RowT→Option β):Option β:=match x with
 | .sl r o n=>(match X.row r with
  | some R=>ifB (Nat.ble (Nat.add o n) R.els.length && Nat.beq R.sz S && Nat.ble xs.length n) (match xs with
   | []=>k X
   | x :: xs=>overK R.els o (x :: xs) fun els=>X.setK r (some ⟨R.sz,els,R.ob⟩) k)
  | none=>none)
 | .sub r i j sz n=>(match X.row r with
  | some R=>ifB (Nat.beq sz S && !Nat.beq S 0 && Nat.ble (Nat.add j (Nat.mul n S)) R.sz && Nat.ble xs.length n) (nthK R.els i fun e=>match xs with
   | []=>k X
   | x :: xs=>storeK.putElK e j (.agg ((x :: xs).flatMap AV.cells)) fun e'=>setLK R.els i e' fun els=>X.setK r (some ⟨R.sz,els,R.ob⟩) k)
  | none=>none)
 | .sc (.slice none 0 0)=>(match xs with
  | []=>k X
  | _ :: _=>none)
 | _=>none
theorem dstK_spec {S x xs X} {k:RowT→Option β} {out} (hX:X.n≤512) (h:dstK S x xs X k=some out):∃ X',dstA S X.L x xs=some X'.L∧Good X X'∧k X'=some out:=by
 unfold dstK at h
 split at h
 ·rename_i r o n
  split at h
  ·rename_i R hR
   obtain ⟨hc,h⟩:=ifB_spec h
   simp only [Bool.and_eq_true,Nat.ble_eq,Nat.beq_eq] at hc
   have hc:o+n≤R.els.length∧R.sz=S∧xs.length≤n:=⟨hc.1.1,hc.1.2,hc.2⟩
   have hr:=RowT.row_lt hR
   split at h
   ·refine ⟨X,?_,Good.refl hX,h⟩
    simp only [dstA,X.get hR]
    rw [if_pos hc,if_pos trivial]
   ·have h:=overK_spec h
    rw [RowT.setK_eq] at h
    refine ⟨_,?_,Good.set hX hr _,h⟩
    simp only [dstA,X.get hR]
    rw [if_pos hc,if_neg (by simp),RowT.set_L hX hr]
  ·cases h
 ·rename_i r i j sz n
  split at h
  ·rename_i R hR
   obtain ⟨hc,h⟩:=ifB_spec h
   simp only [Bool.and_eq_true,Nat.ble_eq,Nat.beq_eq,Bool.not_eq_true'] at hc
   obtain ⟨e,h1,h⟩:=nthK_spec h
   obtain ⟨hi,he⟩:=List.getElem?_eq_some_iff.1 h1
   have hge:R.els.getD i .any=e:=by unfold List.getD; rw [h1]; rfl
   have hS:S≠0:=fun e=>by have:=hc.1.1.2; rw [e] at this; cases this
   have hc:sz=S∧S≠0∧i<R.els.length∧j+n*S≤R.sz∧xs.length≤n:=⟨hc.1.1.1,hS,hi,hc.1.2,hc.2⟩
   have hr:=RowT.row_lt hR
   split at h
   ·refine ⟨X,?_,Good.refl hX,h⟩
    simp only [dstA,X.get hR]
    rw [if_pos hc,if_pos trivial]
   ·have h:=putElK_spec h
    rw [setLK_eq,RowT.setK_eq] at h
    refine ⟨_,?_,Good.set hX hr _,h⟩
    simp only [dstA,X.get hR]
    rw [if_pos hc,if_neg (by simp),RowT.set_L hX hr,hge]
  ·cases h
 ·split at h
  ·exact ⟨X,rfl,Good.refl hX,h⟩
  ·cases h
 ·cases h
noncomputable def copyBK (P:Program) (se:Option (TypeId × Nat)) (d s:AV) (X:RowT) (k:AV→RowT→Option β):Option β:=match se with
 | some (e,S)=>(match lenA d,elemsE S X s with
  | some n,some L=>ifB (L.all AV.ok) (takeM n L fun xs=>dstK S d xs X fun X'=>forceNat (minN L.length n) fun m=>k (.sc (.int .i64 (.ofNat m))) X')
  | _,_=>none)
 | none=>none
where takeM (n:Nat) (l:List AV) (k:List AV→Option β):Option β:=copyK (l.take n) k
theorem copyBK_spec {t d s X} {k:AV→RowT→Option β} {out} (hX:X.n≤512) (h:copyBK P (slElem P t) d s X k=some out):∃ v X',aCopy P t d s X.L v X'.L∧Good X X'∧k v X'=some out:=by
 unfold copyBK at h
 split at h
 ·rename_i e S hse
  obtain ⟨hu,hk,hS⟩:=slElem_spec hse
  simp only at hu hk hS
  split at h
  ·rename_i n L hn hL
   obtain ⟨hc,h⟩:=ifB_spec h
   unfold copyBK.takeM at h
   rw [copyK_eq] at h
   obtain ⟨X',h1,h2,h3⟩:=dstK_spec hX h
   rw [forceNat_eq,minN_eq] at h3
   subst hS
   exact ⟨_,X',⟨e,n,L,hu,hk,hn,elemsE_spec hL,hc,h1,rfl⟩,h2,h3⟩
  ·cases h
 ·cases h
noncomputable def clearBK (P:Program) (t:TypeId) (se:Option (TypeId × Nat)) (x:AV) (X:RowT) (k:AV→RowT→Option β):Option β:=match x with
 | .sc (.map none)=>ifB (known P t) (k (.tup []) X)
 | .mp r=>ifB (known P t) (match X.row r with
  | some R=>(match R.ob with
   | some (.map _ n)=>X.setK r (some ⟨R.sz,[],some (.map [] n)⟩) (k (.tup []))
   | _=>none)
  | none=>none)
 | x=>(match se with
  | some (e,S)=>(match lenA x,zeroA P e with
   | some n,some z=>ifB (z.ok && Nat.beq z.cells.length S) (copyK (List.replicate n z) fun xs=>dstK S x xs X (k (.tup [])))
   | _,_=>none)
  | none=>none)
theorem clearBK_spec {t x X} {k:AV→RowT→Option β} {out} (hX:X.n≤512) (h:clearBK P t (slElem P t) x X k=some out):∃ v X',aClear P t x X.L v X'.L∧Good X X'∧k v X'=some out:=by
 unfold clearBK at h
 split at h
 ·obtain ⟨hk,h⟩:=ifB_spec h
  exact ⟨_,X,⟨rfl,hk,rfl⟩,Good.refl hX,h⟩
 ·rename_i r
  obtain ⟨hk,h⟩:=ifB_spec h
  split at h
  ·rename_i R hR
   split at h
   ·rename_i es n ho
    rw [RowT.setK_eq] at h
    have hr:=RowT.row_lt hR
    exact ⟨_,_,⟨rfl,hk,R,es,n,X.get hR,ho,RowT.set_L hX hr _⟩,Good.set hX hr _,h⟩
   ·cases h
  ·cases h
 ·rename_i x h1 h2
  split at h
  ·rename_i e S hse
   obtain ⟨hu,hk,hS⟩:=slElem_spec hse
   simp only at hu hk hS
   split at h
   ·rename_i n z hn hz
    obtain ⟨hc,h⟩:=ifB_spec h
    simp only [Bool.and_eq_true,Nat.beq_eq] at hc
    rw [copyK_eq] at h
    obtain ⟨X',h3,h4,h5⟩:=dstK_spec hX h
    subst hS
    refine ⟨_,X',⟨rfl,?_⟩,h4,h5⟩
    split
    ·exact absurd rfl h1
    ·exact absurd rfl (h2 _)
    ·exact ⟨e,n,z,hu,hk,hn,hz,hc.1,hc.2,h3⟩
   ·cases h
  ·cases h
noncomputable def baseK (S:Nat) (X:RowT) (s:AV) (k:List AV→RowT→Option β):Option β:=match s with
 | .sl r o n=>(match X.row r with
  | some R=>ifB (Nat.ble (Nat.add o n) R.els.length && Nat.beq R.sz S) (match Nat.beq o 0 && Nat.beq R.els.length n with
   | true=>X.setK r none (k R.els)
   | false=>takeK n (dropN R.els o) fun els=>X.setK r none (k els))
  | none=>none)
 | .sc (.slice none 0 0)=>k [] X
 | _=>none
theorem baseK_spec {S X s} {k:List AV→RowT→Option β} {out} (hX:X.n≤512) (h:baseK S X s k=some out) (x:AV):∃ els X1,baseOf S X.L x s=some (els,X1.L)∧Good X X1∧X1.n=X.n∧k els X1=some out:=by
 unfold baseK at h
 split at h
 ·rename_i r o n
  split at h
  ·rename_i R hR
   obtain ⟨hc,h⟩:=ifB_spec h
   simp only [Bool.and_eq_true,Nat.beq_eq,Nat.ble_eq] at hc
   have hc1:o+n≤R.els.length:=hc.1
   have hr:=RowT.row_lt hR
   have fin:∀ els,els=(R.els.drop o).take n→k els (X.set r none)=some out→∃ els X1,baseOf S X.L x (.sl r o n)=some (els,X1.L)∧Good X X1∧X1.n=X.n∧k els X1=some out:=by
    rintro els rfl h
    refine ⟨_,_,?_,Good.set hX hr none,rfl,h⟩
    simp only [baseOf,X.get hR]
    rw [if_pos ⟨hc1,hc.2⟩,RowT.set_L hX hr]
   split at h
   ·rename_i hb
    simp only [Bool.and_eq_true,Nat.beq_eq] at hb
    rw [RowT.setK_eq] at h
    refine fin _ ?_ h
    rw [hb.1,List.drop_zero,List.take_of_length_le (by omega)]
   ·obtain ⟨_,h⟩:=takeK_spec h
    rw [RowT.setK_eq,dropN_eq] at h
    exact fin _ rfl h
  ·cases h
 ·exact ⟨[],X,rfl,Good.refl hX,rfl,h⟩
 ·cases h
noncomputable def appendK (P:Program) (se:Option (TypeId × Nat)) (s x:AV) (X:RowT) (k:AV→RowT→Option β):Option β:=match se with
 | some (e,S)=>(match zeroA P e,elemsE S X x with
  | some z,some L=>baseK S X s fun els X1=>ifB (z.ok && Nat.beq z.cells.length S && L.all AV.ok && Nat.ble (Nat.add els.length L.length) 1048576 && Nat.ble (Nat.mul (Nat.add els.length L.length) (P.bytesOf e)) 140737488355328 && roomy X)
    (appK els L fun l=>forceNat (Nat.add els.length L.length) fun n=>X1.pushK (some ⟨S,l,none⟩) (k (.sl X.n 0 n)))
  | _,_=>none)
 | none=>none
theorem appendK_spec {t s x X} {k:AV→RowT→Option β} {out} (hX:X.n≤512) (h:appendK P (slElem P t) s x X k=some out):∃ v X',aAppend P t s x X.L v X'.L∧Good X X'∧k v X'=some out:=by
 unfold appendK at h
 split at h
 ·rename_i e S hse
  obtain ⟨hu,hk,hS⟩:=slElem_spec hse
  simp only at hu hk hS
  split at h
  ·rename_i z L hz hL
   obtain ⟨els,X1,hb,hg,hn,h⟩:=baseK_spec hX h x
   obtain ⟨hc,h⟩:=ifB_spec h
   simp only [Bool.and_eq_true,Nat.beq_eq,Nat.ble_eq] at hc
   obtain ⟨⟨⟨⟨⟨c1,c2⟩,c3⟩,c4⟩,c5⟩,c6⟩:=hc
   have c6:=roomy_spec c6
   rw [appK_eq,forceNat_eq,RowT.pushK_eq] at h
   have hL:=elemsE_spec hL
   subst hS
   have c5':(els.length+L.length)*P.bytesOf e≤140737488355328:=c5
   have c4':els.length+L.length≤1048576:=c4
   refine ⟨_,_,⟨e,z,els,X1.L,L,hu,hk,hz,c1,c2,hb,hL,c3,c5',by omega,by rw [X.length]; rfl,RowT.push_L (by omega) _⟩,hg.trans (Good.push (by omega) _),h⟩
  ·cases h
 ·cases h
noncomputable def makeK (P:Program) (se:Option (TypeId × Nat)) (l c:AV) (X:RowT) (k:AV→RowT→Option β):Option β:=match se,l,c with
 | some (e,S),.sc (.int _ n),.sc (.int _ m)=>(match zeroA P e with
  | some z=>ifB (z.ok && Nat.beq z.cells.length S && inB n m 1048576 && decide (m*P.bytesOf e≤140737488355328) && roomy X)
    (copyK (List.replicate n.toNat z) fun els=>forceNat n.toNat fun q=>X.pushK (some ⟨S,els,none⟩) (k (.sl X.n 0 q)))
  | none=>none)
 | _,_,_=>none
theorem makeK_spec {t l c X} {k:AV→RowT→Option β} {out} (h:makeK P (slElem P t) l c X k=some out):∃ v X',aMakeSlice P t l c X.L v X'.L∧Good X X'∧k v X'=some out:=by
 unfold makeK at h
 split at h
 ·rename_i e S K n K' m hse
  obtain ⟨hu,hk,hS⟩:=slElem_spec hse
  simp only at hu hk hS
  split at h
  ·rename_i z hz
   obtain ⟨hc,h⟩:=ifB_spec h
   simp only [Bool.and_eq_true,Nat.beq_eq,decide_eq_true_eq] at hc
   obtain ⟨⟨⟨⟨c1,c2⟩,c3⟩,c4⟩,c5⟩:=hc
   have c5:=roomy_spec c5
   obtain ⟨b1,b2,b3⟩:=inB_spec c3
   rw [copyK_eq,forceNat_eq,RowT.pushK_eq] at h
   subst hS
   exact ⟨_,_,⟨e,z,K,n,K',m,hu,hk,hz,c1,c2,rfl,rfl,b1,b2,by omega,c4,by rw [X.length],RowT.push_L c5 _⟩,Good.push c5 _,h⟩
  ·cases h
 ·cases h
noncomputable def litK (P:Program) (se:Option (TypeId × Nat)) (len:Nat) (is:List Nat) (xs:List AV) (X:RowT) (k:AV→RowT→Option β):Option β:=match se with
 | some (e,S)=>(match zeroA P e with
  | some z=>ifB (Nat.ble (Nat.mul len S) 16777216 && decide (is=List.range len) && xs.all AV.ok && (xs.all fun x=>Nat.beq x.cells.length S) && Nat.beq xs.length is.length)
    (match len with
    | 0=>ifB (roomy X) (X.pushK (some ⟨S,[],none⟩) (k (.sl X.n 0 0)))
    | _+1=>k (.isl S xs) X)
  | none=>none)
 | none=>none
theorem litK_spec {t len X} {parts:List (Nat × AV)} {k:AV→RowT→Option β} {out} (hX:X.n≤512) (h:litK P (slElem P t) len (parts.map (·.1)) (parts.map (·.2)) X k=some out):∃ v X',aLit P t len parts X.L v X'.L∧Good X X'∧k v X'=some out:=by
 unfold litK at h
 split at h
 ·rename_i e S hse
  obtain ⟨hu,hk,hS⟩:=slElem_spec hse
  simp only at hu hk hS
  split at h
  ·rename_i z hz
   obtain ⟨hc,h⟩:=ifB_spec h
   simp only [Bool.and_eq_true,Nat.ble_eq,decide_eq_true_eq,List.all_map] at hc
   obtain ⟨⟨⟨⟨c1,c2⟩,c3⟩,c4⟩,c5⟩:=hc
   subst hS
   have c4':(parts.all fun p=>p.2.cells.length == P.cellsOf e)=true:=by
    rw [← c4]; congr 1; funext p; rw [Bool.eq_iff_iff]; simp
   have base:∀ v ρ',((len=0∧v=.sl X.L.length 0 0∧ρ'=X.L ++ [some ⟨P.cellsOf e,[],none⟩])∨(len≠0∧v=.isl (P.cellsOf e) (parts.map (·.2))∧ρ'=X.L))→aLit P t len parts X.L v ρ' :=
    fun v ρ' hv=>⟨e,z,hu,hk,hz,c1,c2,c3,c4',hv⟩
   split at h
   ·obtain ⟨c6,h⟩:=ifB_spec h
    have c6:=roomy_spec c6
    rw [RowT.pushK_eq] at h
    exact ⟨_,_,base _ _ (.inl ⟨rfl,by rw [X.length],RowT.push_L c6 _⟩),Good.push c6 _,h⟩
   ·exact ⟨_,_,base _ _ (.inr ⟨by omega,rfl,rfl⟩),Good.refl hX,h⟩
  ·cases h
 ·cases h

noncomputable def litRK (P:Program) (se:Option (TypeId × Nat)) (len:Nat) (is:List Nat) (xs:List AV) (X:RowT) (k:AV→RowT→Option β):Option β:=match se with
 | some (e,S)=>(match zeroA P e with
  | some z=>ifB (Nat.ble (Nat.mul len S) 16777216 && decide (is=List.range len) && xs.all AV.ok && (xs.all fun x=>Nat.beq x.cells.length S) && Nat.beq xs.length is.length && Nat.blt 0 S && roomy X)
    (X.pushK (some ⟨S,xs,none⟩) (k (.sl X.n 0 len)))
  | none=>none)
 | none=>none
theorem litRK_spec {t len X} {parts:List (Nat × AV)} {k:AV→RowT→Option β} {out} (hX:X.n≤512) (h:litRK P (slElem P t) len (parts.map (·.1)) (parts.map (·.2)) X k=some out) :
  ∃ v X',aLitR P t len parts X.L v X'.L∧(∃ xs,X'.L=X.L ++ xs)∧Good X X'∧k v X'=some out:=by
 unfold litRK at h
 split at h
 ·rename_i e S hse
  obtain ⟨hu,hk,hS⟩:=slElem_spec hse
  simp only at hu hk hS
  split at h
  ·rename_i z hz
   obtain ⟨hc,h⟩:=ifB_spec h
   simp only [Bool.and_eq_true,Nat.ble_eq,Nat.blt_eq,decide_eq_true_eq,List.all_map] at hc
   obtain ⟨⟨⟨⟨⟨⟨c1,c2⟩,c3⟩,c4⟩,c5⟩,c7⟩,c6⟩:=hc
   subst hS
   have c4':(parts.all fun p=>p.2.cells.length == P.cellsOf e)=true:=by
    rw [← c4]; congr 1; funext p; rw [Bool.eq_iff_iff]; simp
   have c6:=roomy_spec c6
   rw [RowT.pushK_eq] at h
   exact ⟨_,_,⟨e,z,hu,hk,hz,c1,c2,c3,c4',c7,by rw [X.length],RowT.push_L c6 _⟩,⟨_,RowT.push_L c6 _⟩,Good.push c6 _,h⟩
  ·cases h
 ·cases h

noncomputable def makeMapK (P:Program) (t:TypeId) (r:Option AV) (X:RowT) (k:AV→RowT→Option β):Option β :=
 ifB ((match r with
  | none=>true
  | some (.sc (.int _ _))=>(match P.underlying t with
   | some (.map _ _)=>true
   | _=>false)
  | _=>false) && roomy X) (X.pushK (some ⟨0,[],some (.map [] 0)⟩) (k (.mp X.n)))
theorem makeMapK_spec {t r X} {k:AV→RowT→Option β} {out} (h:makeMapK P t r X k=some out):∃ v X',aMakeMap P r X.L v X'.L t∧Good X X'∧k v X'=some out:=by
 obtain ⟨hc,h⟩:=ifB_spec h
 simp only [Bool.and_eq_true] at hc
 have h5:=roomy_spec hc.2
 rw [RowT.pushK_eq] at h
 refine ⟨_,_,⟨?_,by rw [X.length],RowT.push_L h5 _⟩,Good.push h5 _,h⟩
 have hc:=hc.1
 split at hc
 ·trivial
 ·split at hc
  ·rename_i a b hu; exact ⟨_,_,hu⟩
  ·cases hc
 ·cases hc
noncomputable def findR (P:Program) (kt:TypeId) (k:Value) (l:List (Value × Nat × AV)) (i:Nat) (K:Option Nat→Option β):Option β :=
 List.rec (motive:=fun _=>Nat→Option β) (fun _=>K none) (fun x _ ih i=>match (Op.equal kt k x.1).pv P with
  | some true=>K (some i)
  | some false=>ih (Nat.succ i)
  | none=>none) l i
theorem findR_spec {kt k} {K:Option Nat→Option β} {out}:∀ {l:List (Value × Nat × AV)} {i:Nat},findR P kt k l i K=some out→∃ hit,findE P kt k (l.map (·.1)) i=some hit∧K hit=some out
 | [],i,h=>⟨none,rfl,h⟩
 | x :: l,i,h=>by
  have h:(match (Op.equal kt k x.1).pv P with
   | some true=>K (some i)
   | some false=>findR P kt k l (Nat.succ i) K
   | none=>none)=some out:=h
  simp only [List.map_cons]
  unfold findE
  split at h
  ·rename_i he; exact ⟨_,by simp [he],h⟩
  ·rename_i he
   obtain ⟨hit,h1,h2⟩:=findR_spec h
   exact ⟨hit,by simp only [he]; exact h1,h2⟩
  ·cases h
noncomputable def entK (X:RowT) (x:AV) (k:List (Value × Nat × AV)→Option β):Option β:=match x with
 | .mp r=>(match X.row r with
  | some R=>(match R.ob with
   | some (.map es _)=>k es
   | _=>none)
  | none=>none)
 | .sc (.map none)=>k []
 | _=>none
theorem entK_spec {X x} {k:List (Value × Nat × AV)→Option β} {out} (h:entK X x k=some out):∃ es,entA X.L x=some es∧k es=some out:=by
 unfold entK at h
 split at h
 ·split at h
  ·rename_i R hR
   split at h
   ·rename_i es n ho
    exact ⟨es,by simp only [entA,X.get hR,ho],h⟩
   ·cases h
  ·cases h
 ·exact ⟨[],rfl,h⟩
 ·cases h
def mapKind (t:Option TypeDesc):Option (TypeId × TypeId):=match t with
 | some (.map k e)=>some (k,e)
 | _=>none
theorem mapKind_spec {t:Option TypeDesc} {k e} (h:mapKind t=some (k,e)):t=some (.map k e):=by
 unfold mapKind at h; split at h <;> cases h; rfl
def okPv (s:Option Unit):Bool:=match s with
 | some ()=>true
 | none=>false
theorem okPv_spec {s:Option Unit} (h:okPv s=true):s=some ():=by unfold okPv at h; split at h <;> first | rfl | cases h
noncomputable def lookupK (P:Program) (t:TypeId) (x i:AV) (ok:Bool) (X:RowT) (k:AV→Option β):Option β:=match mapKind (P.underlying t),toV i with
 | some (kt,et),some kv=>ifB (known P kt) (entK X x fun es=>ifB (okPv ((Instr.checkKey es.isEmpty 10000 kt kv).pv P)) (findR P kt kv es 0 fun hit=>match hit with
  | some j=>(match es[j]? with
   | some e=>(match ok with
    | true=>k (.tup [e.2.2,.sc (.bool true)])
    | false=>k e.2.2)
   | none=>none)
  | none=>(match zeroA P et with
   | some z=>(match ok with
    | true=>k (.tup [z,.sc (.bool false)])
    | false=>k z)
   | none=>none)))
 | _,_=>none
theorem lookupK_spec {t x i ok X} {k:AV→Option β} {out} (h:lookupK P t x i ok X k=some out):∃ v,aLookup P t x i ok X.L v∧k v=some out:=by
 unfold lookupK at h
 split at h
 ·rename_i kt et kv hm hk
  obtain ⟨hkn,h⟩:=ifB_spec h
  obtain ⟨es,h1,h⟩:=entK_spec h
  obtain ⟨h2,h⟩:=ifB_spec h
  obtain ⟨hit,h3,h⟩:=findR_spec h
  obtain ⟨dk,hdk⟩:=Option.isSome_iff_exists.1 hkn
  have base:∀ res b,(match hit with
   | some j=>∃ e,es[j]?=some e∧res=e.2.2∧b=true
   | none=>zeroA P et=some res∧b=false)→∀ v,v=(if ok then .tup [res,.sc (.bool b)] else res)→aLookup P t x i ok X.L v:=fun res b hr v hv =>
    ⟨kt,et,dk,kv,es,hit,res,b,mapKind_spec hm,hdk,hk,h1,okPv_spec h2,h3,(by cases hit <;> exact hr),hv⟩
  cases hit with
  | some j =>
   simp only at h
   split at h
   ·rename_i e he
    cases ok
    ·exact ⟨_,base e.2.2 true ⟨e,he,rfl,rfl⟩ _ rfl,h⟩
    ·exact ⟨_,base e.2.2 true ⟨e,he,rfl,rfl⟩ _ rfl,h⟩
   ·cases h
  | none =>
   simp only at h
   split at h
   ·rename_i z hz
    cases ok
    ·exact ⟨_,base z false ⟨hz,rfl⟩ _ rfl,h⟩
    ·exact ⟨_,base z false ⟨hz,rfl⟩ _ rfl,h⟩
   ·cases h
 ·cases h
noncomputable def mapUpdateK (P:Program) (t:TypeId) (m i x:AV) (X:RowT) (k:AV→RowT→Option β):Option β:=match mapKind (P.underlying t),toV i,m with
 | some (kt,et),some kv,.mp r=>ifB (known P kt && okPv ((Instr.checkKey false 10000 kt kv).pv P)) (match X.row r with
  | some R=>(match R.ob with
   | some (.map es n)=>findR P kt kv es 0 fun hit=>match hit with
    | some j=>(match es[j]? with
     | some e=>ifB (Instr.sameBits 10000 e.1 kv) (X.setK r (some ⟨R.sz,[],some (.map (es.set j (kv,e.2.1,x)) n)⟩) (k .any))
     | none=>none)
    | none=>X.setK r (some ⟨R.sz,[],some (.map (es ++ [(kv,n,x)]) (n+1))⟩) (k .any)
   | _=>none)
  | none=>none)
 | _,_,_=>none
theorem mapUpdateK_spec {t m i x X} {k:AV→RowT→Option β} {out} (hX:X.n≤512) (h:mapUpdateK P t m i x X k=some out):∃ v X',aMapUpdate P t m i x X.L v X'.L∧Good X X'∧k v X'=some out:=by
 unfold mapUpdateK at h
 split at h
 ·rename_i kt et kv r hm hk
  obtain ⟨hc,h⟩:=ifB_spec h
  simp only [Bool.and_eq_true] at hc
  obtain ⟨dk,hdk⟩:=Option.isSome_iff_exists.1 hc.1
  split at h
  ·rename_i R hR
   have hr:=RowT.row_lt hR
   split at h
   ·rename_i es n ho
    obtain ⟨hit,h3,h⟩:=findR_spec h
    cases hit with
    | some j =>
     simp only at h
     split at h
     ·rename_i e he
      obtain ⟨hs,h⟩:=ifB_spec h
      rw [RowT.setK_eq] at h
      refine ⟨_,_,⟨r,R,es,n,kt,et,dk,kv,some j,rfl,X.get hR,ho,mapKind_spec hm,hdk,hk,okPv_spec hc.2,h3,?_,rfl,?_⟩,Good.set hX hr _,h⟩
      ·intro j' hj; cases hj; exact ⟨e,he,hs⟩
      ·rw [RowT.set_L hX hr]; simp only [aPut,he]
     ·cases h
    | none =>
     simp only at h
     rw [RowT.setK_eq] at h
     refine ⟨_,_,⟨r,R,es,n,kt,et,dk,kv,none,rfl,X.get hR,ho,mapKind_spec hm,hdk,hk,okPv_spec hc.2,h3,?_,rfl,?_⟩,Good.set hX hr _,h⟩
     ·intro j' hj; cases hj
     ·rw [RowT.set_L hX hr]; simp only [aPut]
   ·cases h
  ·cases h
 ·cases h
def notIfc (d:TypeDesc):Bool:=match d with
 | .interface _=>false
 | _=>true
def makeIfcK (P:Program) (t:TypeId) (x:AV) (k:AV→Option β):Option β:=match P.underlying t with
 | some d=>ifB (notIfc d) (k (.ifc t x))
 | none=>none
theorem makeIfcK_spec {t x} {k:AV→Option β} {out} (h:makeIfcK P t x k=some out):∃ v,aMakeIfc P t x v∧k v=some out:=by
 unfold makeIfcK at h
 split at h
 ·rename_i d hd
  obtain ⟨hn,h⟩:=ifB_spec h
  refine ⟨_,⟨?_,rfl⟩,h⟩
  rw [hd]; cases d <;> first | trivial | (cases hn)
 ·cases h
noncomputable def taFail (P:Program) (as:TypeId) (ok:Bool) (k:AV→Option β):Option β:=match ok with
 | false=>none
 | true=>(match zeroA P as with
  | some z=>k (.tup [z,.sc (.bool false)])
  | none=>none)
theorem taFail_spec {as ok} {k:AV→Option β} {out} (h:taFail P as ok k=some out):∃ v,(ok=true∧∃ z,zeroA P as=some z∧v=AV.tup [z,.sc (.bool false)])∧k v=some out:=by
 unfold taFail at h
 split at h
 ·cases h
 ·split at h
  ·rename_i z hz; exact ⟨_,⟨rfl,z,hz,rfl⟩,h⟩
  ·cases h
def taHold (ok:Bool) (a:AV) (k:AV→Option β):Option β:=match ok with
 | true=>k (.tup [a,.sc (.bool true)])
 | false=>k a
theorem taHold_spec {ok a} {k:AV→Option β} {out} (h:taHold ok a k=some out):∃ v,v=(if ok then .tup [a,.sc (.bool true)] else a)∧k v=some out:=by
 cases ok
 ·exact ⟨_,rfl,h⟩
 ·exact ⟨_,rfl,h⟩
def ifcWant (d:TypeDesc):Option (Array (String × TypeId)):=match d with
 | .interface want=>some want
 | _=>none
noncomputable def typeAssertK (P:Program) (x:AV) (as:TypeId) (ok:Bool) (k:AV→Option β):Option β:=match P.underlying as with
 | some d=>(match x with
  | .ifc t a=>(match ifcWant d with
   | some want=>(match P.info? t with
    | some i=>(match Instr.missingMethod want i.methods with
     | none=>taHold ok (.ifc t a) k
     | some _=>taFail P as ok k)
    | none=>none)
   | none=>(match Nat.beq t as with
    | true=>taHold ok a k
    | false=>taFail P as ok k))
  | .sc .nilIface=>taFail P as ok k
  | _=>none)
 | none=>none
theorem typeAssertK_spec {x xt as ok} {k:AV→Option β} {out} (h:typeAssertK P x as ok k=some out):∃ v,aTypeAssert P x xt as ok v∧k v=some out:=by
 unfold typeAssertK at h
 split at h
 ·rename_i d hu
  split at h
  ·rename_i t a
   split at h
   ·rename_i want hw
    have hd:d=.interface want:=by unfold ifcWant at hw; split at hw <;> cases hw; rfl
    subst hd
    split at h
    ·rename_i i hi
     split at h
     ·rename_i hm
      obtain ⟨v,h1,h2⟩:=taHold_spec h
      exact ⟨v,⟨_,hu,i,hi,by simp only [hm]; exact h1⟩,h2⟩
     ·rename_i mm hm
      obtain ⟨v,h1,h2⟩:=taFail_spec h
      exact ⟨v,⟨_,hu,i,hi,by simp only [hm]; exact h1⟩,h2⟩
    ·cases h
   ·rename_i hw
    have hd:∀ want,d≠.interface want:=by intro want e; subst e; cases hw
    split at h
    ·rename_i hb
     have hb:t=as:=by simpa using hb
     obtain ⟨v,h1,h2⟩:=taHold_spec h
     refine ⟨v,⟨_,hu,?_⟩,h2⟩
     cases d with
     | interface want=>exact (hd _ rfl).elim
     | _=>show (if t=as then _ else _); rw [if_pos hb]; exact h1
    ·rename_i hb
     have hb:¬ t=as:=fun e=>by subst e; simp at hb
     obtain ⟨v,h1,h2⟩:=taFail_spec h
     refine ⟨v,⟨_,hu,?_⟩,h2⟩
     cases d with
     | interface want=>exact (hd _ rfl).elim
     | _=>show (if t=as then _ else _); rw [if_neg hb]; exact h1
  ·obtain ⟨v,h1,h2⟩:=taFail_spec h
   exact ⟨v,⟨_,hu,h1⟩,h2⟩
  ·cases h
 ·cases h

def pureK (v:Option AV) (X:RowT) (k:AV→RowT→Option β):Option β:=plainK v fun v=>k v X
def pickK (c a b:AV) (X:RowT) (k:AV→RowT→Option β):Option β:=match c with
 | .sc (.bool true)=>k a X
 | .sc (.bool false)=>k b X
 | _=>none
def nilK (P:Program) (x:AV) (X:RowT) (k:AV→RowT→Option β):Option β:=match x with
 | .ptr ..=>k x X
 | .iptr _=>k x X
 | .clo (.method name) (.ifc t _ :: _) _=>ifB (methodOf P t name).isSome (k x X)
 | _=>none
noncomputable def indexK (se:Option (TypeId × Nat)) (ae:Option (Nat × TypeId × Nat)) (x i:AV) (X:RowT) (k:AV→RowT→Option β):Option β:=match i with
 | .sc (.int _ n)=>indexAddrK se ae x n X fun v=>k v X
 | _=>none
noncomputable def extractK (x:AV) (i:Nat) (X:RowT) (k:AV→RowT→Option β):Option β:=match x with
 | .tup l=>nthK l i fun v=>k v X
 | _=>none
noncomputable def sliceK (P:Program) (t:TypeId) (x:AV) (lo hi mx:Option AV) (X:RowT) (k:AV→RowT→Option β):Option β:=match mx with
 | none=>pureK (eSlice P t x lo hi X) X k
 | some (.sc (.int _ m))=>(match P.underlying t,hi with
  | some (.slice _),some (.sc (.int _ h))=>bif decide (m=h) then pureK (eSlice P t x lo hi X) X k else none
  | _,_=>none)
 | some _=>none
noncomputable def buildK (P:Program) (t:TypeId) (ev:Operand→AV) (parts:Array (Nat × Operand)) (X:RowT) (k:AV→RowT→Option β):Option β :=
 pureK (eBuild P t (parts.toList.map fun p=>(p.1,ev p.2))) X k

noncomputable def opK (P:Program) (ev:Operand→AV) (X:RowT) (call:(AV→RowT→Option β)→Call→Option β) (pan:Operand→Option β) (o:Op) (k:AV→RowT→Option β):Option β :=
 Op.casesOn (motive:=fun _=>Option β) o
  (fun x=>k (ev x) X)
  (fun x=>k (ev x) X)
  (fun c a b=>pickK (ev c) (ev a) (ev b) X k)
  (fun t=>allocK P t X k)
  (fun t x=>newK true (P.cellsOf t) (ev x) X k)
  (fun t parts=>buildK P t ev parts X k)
  (fun t len parts=>mapK (fun p:Nat × Operand=>ev p.2) parts.toList fun xs=>litK P (slElem P t) len (parts.toList.map (·.1)) xs X k)
  (fun t m i x=>mapUpdateK P t (ev m) (ev i) (ev x) X k)
  (fun t x=>loadK (packN P t) (ev x) X fun v=>k v X)
  (fun t p x=>storeK (known P t) (P.cellsOf t) (ev p) (ev x) X k)
  (fun _=>none)
  (fun _=>none)
  (fun x=>nilK P (ev x) X k)
  (fun op t x y _=>binK P op t x y (ev x) (ev y) fun v=>k v X)
  (fun op _ x=>pureK (eUn P op (ev x)) X k)
  (fun s d x=>pureK (eConv P s d (ev x)) X k)
  (fun _ _=>none)
  (fun t x=>makeIfcK P t (ev x) fun v=>k v X)
  (fun fn fs cs=>mapK ev fs.toList fun fs=>mapK ev cs.toList fun cs=>k (.clo fn fs cs) X)
  (fun t r=>makeMapK P t (r.map ev) X k)
  (fun _ _=>none)
  (fun t l c=>makeK P (slElem P t) (ev l) (ev c) X k)
  (fun t x lo hi mx=>sliceK P t (ev x) (lo.map ev) (hi.map ev) (mx.map ev) X k)
  (fun s x f=>fieldAddrK (fieldOff P s f) (ev x) fun v=>k v X)
  (fun s x f=>pureK (eField P s (ev x) f) X k)
  (fun t x i=>indexK (slElem P t) (arElem P t) (ev x) (ev i) X k)
  (fun t x i=>pureK (eIndex P t (ev x) (ev i)) X k)
  (fun t x i ok=>lookupK P t (ev x) (ev i) ok X fun v=>k v X)
  (fun t m i x=>mapUpdateK P t (ev m) (ev i) (ev x) X k)
  (fun _ _ _=>none)
  (fun _ _ _ _=>none)
  (fun _ _=>none)
  (fun _ _=>none)
  (fun _=>none)
  (fun x _ as ok=>typeAssertK P (ev x) as ok fun v=>k v X)
  (fun t i=>extractK (ev t) i X k)
  (fun c=>call k c)
  (fun _=>none)
  (fun _=>none)
  (fun x=>pan x)
  (fun _ _=>none)
  (fun _ _ _=>none)
  (fun _ _=>none)

def Did (P:Program) (o:Oper) (ev:Operand→AV) (X:RowT) (k:AV→RowT→Option β) (out:β):Prop:=∃ v X',aop P o ev X.L v X'.L∧Good X X'∧k v X'=some out

theorem opK_spec {o:Oper} {ev:Operand→AV} {X:RowT} {call:(AV→RowT→Option β)→Call→Option β} {pan:Operand→Option β} {k:AV→RowT→Option β} {out} (hX:X.n≤512) (h:opK P ev X call pan o.op k=some out) :
  Did P o ev X k out∨(∃ c,o.op=.call c∧call k c=some out)∨∃ x,o.op=.panic x∧pan x=some out:=by
 obtain ⟨dst,op,type,pos,after,guard⟩:=o
 have pure:∀ {v:Option AV},pureK v X k=some out→(∀ u,v=some u→aPure P ⟨dst,op,type,pos,after,guard⟩ ev X.L u)→(∀ u,aPure P ⟨dst,op,type,pos,after,guard⟩ ev X.L u→aop P ⟨dst,op,type,pos,after,guard⟩ ev X.L u X.L)→Did P ⟨dst,op,type,pos,after,guard⟩ ev X k out:=by
  intro v h1 h2 h3
  obtain ⟨u,hu,hk⟩:=plainK_spec h1
  exact ⟨u,X,h3 u (h2 u hu),Good.refl hX,hk⟩
 cases op with
 | move x=>exact .inl ⟨_,X,⟨rfl,rfl⟩,Good.refl hX,h⟩
 | assign x=>exact .inl ⟨_,X,⟨rfl,rfl⟩,Good.refl hX,h⟩
 | pick c a b =>
  have h:pickK (ev c) (ev a) (ev b) X k=some out:=h
  unfold pickK at h
  split at h
  ·rename_i hc; exact .inl ⟨_,X,⟨by simp only [aPure,hc]; rfl,rfl⟩,Good.refl hX,h⟩
  ·rename_i hc; exact .inl ⟨_,X,⟨by simp only [aPure,hc]; rfl,rfl⟩,Good.refl hX,h⟩
  ·cases h
 | alloc t =>
  have h:allocK P t X k=some out:=h
  unfold allocK at h
  split at h
  ·rename_i z hz
   obtain ⟨h1,h2,h3,h4,h5⟩:=newK_spec h
   exact .inl ⟨_,_,⟨z,hz,h1,h2,by rw [X.length],h4⟩,h3,h5⟩
  ·cases h
 | box t x =>
  have h:newK true (P.cellsOf t) (ev x) X k=some out:=h
  obtain ⟨h1,h2,h3,h4,h5⟩:=newK_spec h
  exact .inl ⟨_,_,⟨h1,h2,by rw [X.length],h4⟩,h3,h5⟩
 | build t parts =>
  have h:pureK (eBuild P t (parts.toList.map fun p=>(p.1,ev p.2))) X k=some out:=h
  exact .inl (pure h (fun u hu=>eBuild_spec hu) (fun u hu=>⟨hu,rfl⟩))
 | buildSlice t len parts =>
  have h:(mapK (fun p:Nat × Operand=>ev p.2) parts.toList fun xs=>litK P (slElem P t) len (parts.toList.map (·.1)) xs X k)=some out:=h
  rw [mapK_eq] at h
  have e1:parts.toList.map (·.1)=(parts.toList.map fun p=>(p.1,ev p.2)).map (·.1):=by simp
  have e2:(parts.toList.map fun p=>ev p.2)=(parts.toList.map fun p=>(p.1,ev p.2)).map (·.2):=by simp
  rw [e1,e2] at h
  obtain ⟨v,X',h1,h2,h3⟩:=litK_spec hX h
  exact .inl ⟨v,X',h1,h2,h3⟩
 | load t x =>
  obtain ⟨v,h1,h2⟩:=loadK_spec (P:=P) h
  exact .inl ⟨v,X,⟨h1,rfl⟩,Good.refl hX,h2⟩
 | store t p x =>
  obtain ⟨v,X',h1,h2,h3⟩:=storeK_spec (P:=P) hX h
  exact .inl ⟨v,X',h1,h2,h3⟩
 | nilCheck x =>
  have h:nilK P (ev x) X k=some out:=h
  unfold nilK at h
  split at h
  ·rename_i hx; exact .inl ⟨_,X,⟨by simp only [aPure,hx],rfl⟩,Good.refl hX,h⟩
  ·rename_i hx; exact .inl ⟨_,X,⟨by simp only [aPure,hx],rfl⟩,Good.refl hX,h⟩
  ·rename_i hx
   obtain ⟨h1,h⟩:=ifB_spec h
   exact .inl ⟨_,X,⟨by simp only [aPure,hx]; exact ⟨h1,by first | rfl | trivial⟩,rfl⟩,Good.refl hX,h⟩
  ·cases h
 | binOp op t x y yt =>
  obtain ⟨v,h1,h2⟩:=binK_spec (P:=P) h
  exact .inl ⟨v,X,⟨h1,rfl⟩,Good.refl hX,h2⟩
 | unOp op t x =>
  have h:pureK (eUn P op (ev x)) X k=some out:=h
  exact .inl (pure h (fun u hu=>eUn_spec hu) (fun u hu=>⟨hu,rfl⟩))
 | convert s d x =>
  have h:pureK (eConv P s d (ev x)) X k=some out:=h
  exact .inl (pure h (fun u hu=>eConv_spec hu) (fun u hu=>⟨hu,rfl⟩))
 | makeFunc fn fs cs =>
  have h:(mapK ev fs.toList fun fs=>mapK ev cs.toList fun cs=>k (.clo fn fs cs) X)=some out:=h
  rw [mapK_eq,mapK_eq] at h
  exact .inl ⟨_,X,⟨rfl,rfl⟩,Good.refl hX,h⟩
 | makeSlice t l c =>
  obtain ⟨v,X',h1,h2,h3⟩:=makeK_spec (P:=P) h
  exact .inl ⟨v,X',h1,h2,h3⟩
 | slice t x lo hi mx =>
  have h:sliceK P t (ev x) (lo.map ev) (hi.map ev) (mx.map ev) X k=some out:=h
  unfold sliceK at h
  split at h
  ·rename_i e
   have e:mx=none:=by cases mx <;> simp_all
   exact .inl (pure h (fun u hu=>by obtain ⟨h1,h2⟩:=eSlice_spec hu; exact ⟨.inl e,h2,h1⟩) (fun u hu=>⟨hu,rfl⟩))
  ·rename_i k1 m em
   split at h
   ·rename_i el k0 z hu hz
    cases hb:decide (m=z) with
    | false=>rw [hb] at h; cases h
    | true =>
     rw [hb] at h
     have h:pureK (eSlice P t (ev x) (lo.map ev) (hi.map ev) X) X k=some out:=h
     have hmz:m=z:=by simpa using hb
     exact .inl (pure h (fun u hu'=>by obtain ⟨h1,h2⟩:=eSlice_spec hu'; exact ⟨.inr ⟨⟨el,hu⟩,k0,k1,z,hz,by rw [em,hmz]⟩,h2,h1⟩) (fun u hu=>⟨hu,rfl⟩))
   ·cases h
  ·cases h
 | fieldAddr s x f =>
  have h:fieldAddrK (fieldOff P s f) (ev x) (fun v=>k v X)=some out:=h
  obtain ⟨v,h1,h2⟩:=fieldAddrK_spec (P:=P) h
  exact .inl ⟨v,X,⟨h1,rfl⟩,Good.refl hX,h2⟩
 | field s x f =>
  have h:pureK (eField P s (ev x) f) X k=some out:=h
  exact .inl (pure h (fun u hu=>eField_spec hu) (fun u hu=>⟨hu,rfl⟩))
 | indexAddr t x i =>
  have h:indexK (slElem P t) (arElem P t) (ev x) (ev i) X k=some out:=h
  unfold indexK at h
  split at h
  ·rename_i K n hi
   obtain ⟨v,h1,h2⟩:=indexAddrK_spec (P:=P) (K:=K) h
   exact .inl ⟨v,X,⟨by simp only [aPure,hi]; exact h1,rfl⟩,Good.refl hX,h2⟩
  ·cases h
 | index t x i =>
  have h:pureK (eIndex P t (ev x) (ev i)) X k=some out:=h
  exact .inl (pure h (fun u hu=>eIndex_spec hu) (fun u hu=>⟨hu,rfl⟩))
 | extract t i =>
  have h:extractK (ev t) i X k=some out:=h
  unfold extractK at h
  split at h
  ·rename_i l ht
   obtain ⟨v,h1,h2⟩:=nthK_spec h
   exact .inl ⟨v,X,⟨by simp only [aPure,ht]; exact h1,rfl⟩,Good.refl hX,h2⟩
  ·cases h
 | insert t m i x =>
  obtain ⟨v,X',h1,h2,h3⟩:=mapUpdateK_spec (P:=P) hX h
  exact .inl ⟨v,X',h1,h2,h3⟩
 | mapUpdate t m i x =>
  obtain ⟨v,X',h1,h2,h3⟩:=mapUpdateK_spec (P:=P) hX h
  exact .inl ⟨v,X',h1,h2,h3⟩
 | makeMap t r =>
  obtain ⟨v,X',h1,h2,h3⟩:=makeMapK_spec (P:=P) h
  exact .inl ⟨v,X',h1,h2,h3⟩
 | lookup t x i ok =>
  have h:lookupK P t (ev x) (ev i) ok X (fun v=>k v X)=some out:=h
  obtain ⟨v,h1,h2⟩:=lookupK_spec (P:=P) h
  exact .inl ⟨v,X,⟨h1,rfl⟩,Good.refl hX,h2⟩
 | makeInterface t x =>
  have h:makeIfcK P t (ev x) (fun v=>k v X)=some out:=h
  obtain ⟨v,h1,h2⟩:=makeIfcK_spec (P:=P) h
  exact .inl ⟨v,X,⟨h1,rfl⟩,Good.refl hX,h2⟩
 | typeAssert x xt as ok =>
  have h:typeAssertK P (ev x) as ok (fun v=>k v X)=some out:=h
  obtain ⟨v,h1,h2⟩:=typeAssertK_spec (P:=P) (xt:=xt) h
  exact .inl ⟨v,X,⟨h1,rfl⟩,Good.refl hX,h2⟩
 | call c=>exact .inr (.inl ⟨c,rfl,h⟩)
 | panic x=>exact .inr (.inr ⟨x,rfl,h⟩)
 | _=>cases h
end Go.Lg
