import Derived.ProofKit
import Derived.Test.YtbedomoilakcaaaProg
import Derived.Test.YtbedomoilakcaaaPfPgPhPiPjPkPnPu
set_option linter.unusedVariables false
set_option linter.unusedSimpArgs false
namespace Go.Proofs.Ytbedomoilakcaaa
open Go Go.Lg
attribute [local irreducible] bodyH
def rI (x : Int) : Prop := -9223372036854775808 ≤ x ∧ x ≤ 9223372036854775807
def rE {α : Type} (a : α) : Prop := a = a
def tt3 : Prop := True ∧ True ∧ True
def tt4 : Prop := True ∧ True ∧ True ∧ True
def tt5 : Prop := True ∧ True ∧ True ∧ True ∧ True
def tt13 : Prop := True ∧ True ∧ True ∧ True ∧ True ∧ True ∧ True ∧ True ∧ True ∧ True ∧ True ∧ True ∧ True
def tt14 : Prop := True ∧ tt13
noncomputable def appN (n s1 : Nat) (inv : Nat → Prop) (μ : Nat → Nat) (nr : Nat) (t : Nat → FS) (X : Nat → XS) : HSpec :=
  { toLSpec := { σ := Nat, inv := inv, μ := μ, nr := nr, t := t, X := X, rd := fun _ _ k => ∃ z, k z, rdOK := fun _ _ _ h => h,
                 ms := fun t _ => match sget n t s1 with
                   | .sl r _ _ => [some r]
                   | _ => [none] } }
structure Wg where
  elo : Int
  ehi : Int
  flo : Int
  fhi : Int
def Wg.sv (w : Wg) : SV := .agg [i6 w.elo, i6 w.ehi, i6 w.flo, i6 w.fhi]
structure Wl where
  n : Nat
  f : Nat → Wg
def Wl.sv (W : Wl) : SV := .lst 4 W.n fun i => (W.f i).sv
def wOf : SV → Wg
  | .agg [.int _ a, .int _ b, .int _ c, .int _ d] => ⟨a, b, c, d⟩
  | _ => ⟨0, 0, 0, 0⟩
def wlOf (n : Nat) (f : Nat → SV) : Wl := ⟨n, fun i => wOf (f i)⟩
structure Tw where
  lo : Int
  hi : Int
def Tw.sv (t : Tw) : SV := .agg [i6 t.lo, i6 t.hi]
def tOf : SV → Tw
  | .agg [.int _ a, .int _ b] => ⟨a, b⟩
  | _ => ⟨0, 0⟩
structure okSp (m lo hi : Int) : Prop where
  a : 0 ≤ lo
  b : lo ≤ hi
  c : hi ≤ m
structure okW (w : Wg) : Prop where
  e : okSp 100000 w.elo w.ehi
  f : okSp 100000 w.flo w.fhi
  c : w.elo ≤ w.fhi
def okWl (W : Wl) : Prop := ∀ i, i < W.n → okW (W.f i)
def ldW (w : Wg) : Tw := ⟨max 0 (w.flo - w.ehi), w.fhi - w.elo⟩
noncomputable def sumJ (g : Nat → Int) : Nat → Int
  | 0 => 0
  | j + 1 => sumJ g j + g j
def frC (g : FuncId) : Ctr := ⟨g, fun args k => match args with
  | [.int .i64 n, .int .i64 a, .int .i64 b] => k (.dec (a ≤ n ∧ n ≤ b) (Classical.propDecidable _))
  | _ => False⟩
noncomputable def frG (n a b : Int) : Prop := funH Try.prog (ctrs []) noX (ictrs []) noL noL 50 [i6 n, i6 a, i6 b] (.dec (a ≤ n ∧ n ≤ b) (Classical.propDecidable _))
noncomputable def rfrG (n a b : Int) : Prop := funH Try.prog (ctrs []) noX (ictrs []) noL noL 33 [i6 n, i6 a, i6 b] (.dec (a ≤ n ∧ n ≤ b) (Classical.propDecidable _))
def vhC (g : FuncId) : Ctr := ⟨g, fun args k => match args with
  | [.agg [.int .i64 a, .int .i64 b], .int .i64 m] => k (.dec (okSp m a b) (Classical.propDecidable _))
  | _ => False⟩
noncomputable def vhG (m a b : Int) : Prop := funH Try.prog (ctrs [frC 50]) noX (ictrs []) noL noL 49 [.agg [i6 a, i6 b], i6 m] (.dec (okSp m a b) (Classical.propDecidable _))
noncomputable def rvhG (m a b : Int) : Prop := funH Try.prog (ctrs []) noX (ictrs []) noL noL 39 [.agg [i6 a, i6 b], i6 m] (.dec (okSp m a b) (Classical.propDecidable _))
noncomputable def cntL (nt s : Nat) (x : SV) (n : Nat) (inv : Nat → Prop) : Nat → Option HSpec :=
  oneL 0 (natH (fun k => k ≤ n ∧ inv k) (fun k => n - k) 0 (fun k => mkF nt [(s, x), (s + 1, i6 n), (s + 2, i6 k)]) (fun _ => mkX []) fun _ => none)
noncomputable def vwG (W : Wl) : Prop := funH Try.prog (ctrs [vhC 49]) noX (ictrs []) (cntL 31 5 W.sv W.n fun k => ∀ i, i < k → okW (W.f i)) noL 36 [W.sv] (.dec (okWl W) (Classical.propDecidable _))
noncomputable def vwC : Ctr := ⟨36, fun args k => match args with
  | [.lst 4 n f] => SV.lst 4 n f = (wlOf n f).sv ∧ n ≤ 1000 ∧ k (.dec (okWl (wlOf n f)) (Classical.propDecidable _))
  | _ => False⟩
def loC : Ctr := ⟨37, fun args k => match args with
  | [.agg [.int .i64 a, .int .i64 b, .int .i64 c, .int .i64 d]] => okW ⟨a, b, c, d⟩ ∧ k (ldW ⟨a, b, c, d⟩).sv
  | _ => False⟩
noncomputable def loG (w : Wg) : Prop := funH Try.prog (ctrs []) noX (ictrs []) noL noL 37 [w.sv] (ldW w).sv
def plC : Ctr := ⟨78, fun args k => match args with
  | [.agg [.int .i64 a, .int .i64 b], .agg [.int .i64 c, .int .i64 d]] => (rI (a + c) ∧ rI (b + d)) ∧ k (.agg [i6 (a + c), i6 (b + d)])
  | _ => False⟩
noncomputable def plG (a b c d : Int) : Prop := funH Try.prog (ctrs []) noX (ictrs []) noL noL 78 [.agg [i6 a, i6 b], .agg [i6 c, i6 d]] (.agg [i6 (a + c), i6 (b + d)])
def bdT (t : Tw) : Prop := 0 ≤ t.lo ∧ t.lo ≤ 100000000 ∧ 0 ≤ t.hi ∧ t.hi ≤ 100000000
def twL (n : Nat) (f : Nat → Tw) : SV := .lst 2 n fun i => (f i).sv
noncomputable def smJ (f : Nat → Tw) (k : Nat) : Tw := ⟨sumJ (fun i => (f i).lo) k, sumJ (fun i => (f i).hi) k⟩
noncomputable def smG (n : Nat) (f : Nat → Tw) : Prop := funH Try.prog (ctrs [plC]) noX (ictrs [])
  (oneL 0 (natH (fun k => k ≤ n) (fun k => n - k) 2 (fun k => mkF 18 [(2, .ptr 0 0 0), (3, .ptr 1 0 0), (6, twL n f), (7, i6 n), (8, i6 k)]) (fun k => mkX [vr 2 (Tw.sv ⟨0, 0⟩), vr 2 (smJ f k).sv]) fun _ => none)) noL
  38 [twL n f] (smJ f n).sv
def ftOf (f : Nat → SV) (i : Nat) : Tw := tOf (f i)
noncomputable def smC : Ctr := ⟨38, fun args k => match args with
  | [.lst 2 n f] => SV.lst 2 n f = twL n (ftOf f) ∧ n ≤ 1000 ∧ (∀ i, i < n → bdT (ftOf f i)) ∧ k (smJ (ftOf f) n).sv
  | _ => False⟩
end Go.Proofs.Ytbedomoilakcaaa

set_option maxRecDepth 100000
namespace Go.Proofs.Ytbedomoilakcaaa
open Go Go.Lg
theorem frG_vc (n:Int) (a:Int) (b:Int):frG n a b =
((a≤n→(n≤b↔a≤n∧n≤b)∧True)∧(¬a≤n→(false=true↔a≤n∧n≤b)∧True)):=by kernel_rfl
theorem rfrG_vc (n:Int) (a:Int) (b:Int):rfrG n a b =
((a≤n→(n≤b↔a≤n∧n≤b)∧True)∧(¬a≤n→(false=true↔a≤n∧n≤b)∧True)):=by kernel_rfl
theorem vhG_vc (m:Int) (a:Int) (b:Int):vhG m a b =
((0:Nat)<(1:Nat) ∧
 (0:Nat)<(1:Nat) ∧
  ((0:Int)≤a∧a≤b→(0:Nat)<(1:Nat)∧(b≤m↔okSp m a b)∧True) ∧
   (¬((0:Int)≤a∧a≤b)→(false=true↔okSp m a b)∧True)):=by kernel_rfl
theorem rvhG_vc (m:Int) (a:Int) (b:Int):rvhG m a b =
((0:Nat)<(1:Nat) ∧
 ((0:Int)≤a →
   (0:Nat)<(1:Nat) ∧
    (0:Nat)<(1:Nat) ∧
     (a≤b→(0:Nat)<(1:Nat)∧(b≤m↔okSp m a b)∧True) ∧
      (¬a≤b→(false=true↔okSp m a b)∧True)) ∧
  (¬(0:Int)≤a→(false=true↔okSp m a b)∧True)):=by kernel_rfl
theorem vwG_vc (W:Wl):vwG W =
((∃ (z:Nat),(z≤W.1∧∀ (i:Nat),i<z→okW (W.f i))∧W.1=W.1∧(∀ (i:Nat),i<W.1→rE ((W.f i).sv.den)∧True∧True∧True∧True∧True)∧rE (↑W.1:Int)∧(0:Int)=(↑z:Int)∧True)∧∀ (z:Nat),(z≤W.1∧∀ (i:Nat),i<z→okW (W.f i))→((↑z:Int)<(↑W.1:Int)→(0:Int)≤(↑z:Int)∧(↑z:Int)<(↑W.1:Int)∧(0:Nat)<(1:Nat)∧(¬okSp (100000:Int) (W.f (↑z:Int).toNat).elo (W.f (↑z:Int).toNat).ehi→(false=true↔okWl W)∧True)∧(¬¬okSp (100000:Int) (W.f (↑z:Int).toNat).elo (W.f (↑z:Int).toNat).ehi→(0:Nat)<(1:Nat)∧(¬okSp (100000:Int) (W.f (↑z:Int).toNat).flo (W.f (↑z:Int).toNat).fhi→(false=true↔okWl W)∧True)∧(¬¬okSp (100000:Int) (W.f (↑z:Int).toNat).flo (W.f (↑z:Int).toNat).fhi→(0:Nat)<(1:Nat)∧(0:Nat)<(1:Nat)∧((W.f (↑z:Int).toNat).4<(W.f (↑z:Int).toNat).1→(false=true ↔
okWl W)∧True)∧(¬(W.f (↑z:Int).toNat).4<(W.f (↑z:Int).toNat).1→rI ((↑z:Int)+(1:Int))∧∃ (z_1:Nat),(z_1≤W.1∧∀ (i:Nat),i<z_1→okW (W.f i))∧W.1 - z_1<W.1 - z∧W.1=W.1∧(∀ (i:Nat),i<W.1→rE ((W.f i).sv.den)∧True∧True∧True∧True∧True)∧rE (↑W.1:Int)∧(↑z:Int)+(1:Int)=(↑z_1:Int)∧True))))∧(¬(↑z:Int)<(↑W.1:Int)→(rE true↔okWl W)∧True)):=by kernel_rfl
theorem loG_vc (w:Wg):loG w =
((0:Nat)<(1:Nat) ∧
 (0:Nat)<(1:Nat) ∧
  ((-9223372036854775808:Int)≤w.3 - w.2∧w.3 - w.2≤(9223372036854775807:Int)) ∧
   (0:Nat)<(1:Nat) ∧
    (0:Nat)<(1:Nat) ∧
     ((-9223372036854775808:Int)≤w.4 - w.1∧w.4 - w.1≤(9223372036854775807:Int)) ∧
      (0:Nat)<(1:Nat)∧max (0:Int) (w.3 - w.2)=max (0:Int) (w.3 - w.2)∧w.4 - w.1=w.4 - w.1∧True):=by kernel_rfl
theorem plG_vc (a:Int) (b:Int) (c:Int) (d:Int):plG a b c d =
((0:Nat)<(1:Nat) ∧
 (0:Nat)<(1:Nat) ∧
  ((-9223372036854775808:Int)≤a+c∧a+c≤(9223372036854775807:Int)) ∧
   (0:Nat)<(1:Nat) ∧
    (0:Nat)<(1:Nat) ∧
     ((-9223372036854775808:Int)≤b+d∧b+d≤(9223372036854775807:Int)) ∧
      (0:Nat)<(1:Nat)∧a+c=a+c∧b+d=b+d∧True):=by kernel_rfl
theorem smG_vc (n:Nat) (f:Nat→Tw):smG n f =
((∃ (z:Nat),z≤n∧rE (0:Nat)∧rE (0:Nat)∧rE (0:Nat)∧rE (0:Nat)∧n=n∧(∀ (i:Nat),i<n→rE ((f i).sv.den)∧True∧True∧True)∧rE (↑n:Int)∧(0:Int)=(↑z:Int)∧rE (0:Int)∧rE (0:Int)∧(0:Int)=sumJ (fun i=>(f i).lo) z∧(0:Int)=sumJ (fun i=>(f i).hi) z∧True)∧∀ (z:Nat),z≤n→((↑z:Int)<(↑n:Int)→(0:Int)≤(↑z:Int)∧(↑z:Int)<(↑n:Int)∧(0:Nat)<(1:Nat)∧(0:Nat)<(1:Nat)∧(rI ((smJ f z).lo+(f (↑z:Int).toNat).lo)∧rI ((smJ f z).hi+(f (↑z:Int).toNat).hi))∧rI ((↑z:Int)+(1:Int))∧∃ (z_1:Nat),z_1≤n∧n - z_1<n - z∧rE (0:Nat)∧rE (0:Nat)∧rE (0:Nat)∧rE (0:Nat)∧n=n∧(∀ (i:Nat),i<n→rE ((f i).sv.den)∧True∧True∧True)∧rE (↑n:Int)∧(↑z:Int)+(1:Int)=(↑z_1:Int)∧rE (0:Int)∧rE (0:Int)∧sumJ (fun i=>(f i).lo) z+(f (↑z:Int).toNat).1
= sumJ (fun i=>(f i).lo) z_1∧sumJ (fun i=>(f i).hi) z+(f (↑z:Int).toNat).2=sumJ (fun i=>(f i).hi) z_1∧True)∧(¬(↑z:Int)<(↑n:Int)→(0:Nat)<(1:Nat)∧(0:Nat)<(1:Nat)∧sumJ (fun i=>(f i).lo) z=sumJ (fun i=>(f i).lo) n∧sumJ (fun i=>(f i).hi) z=sumJ (fun i=>(f i).hi) n∧True)):=by kernel_rfl
end Go.Proofs.Ytbedomoilakcaaa

set_option maxRecDepth 100000
namespace Go.Proofs.Ytbedomoilakcaaa
open Go Go.Lg
attribute [local irreducible] funS bodyH
theorem mixed:Try.prog.follows .mixedOrders=true:=by kernel_rfl
theorem nilS_x {γ:GS→noGhost.S}:SoundXH Try.prog noGhost γ noX:=noX_sound
theorem nilS_ic:SoundIH Try.prog (ictrs []):=ictrs_sound (by intro x hx; simp at hx)
theorem nilS_cs:SoundS Try.prog (ctrs []):=ctrs_sound (by intro x hx; simp at hx)
theorem wl_fold (W:Wl):(wlOf W.n fun i=>(W.f i).sv)=W:=rfl
theorem wsv_fold (W:Wl):(SV.lst 4 W.n fun i=>(W.f i).sv)=W.sv:=rfl
theorem wg_fold (w:Wg):Wg.mk w.elo w.ehi w.flo w.fhi=w:=rfl
theorem plainD {cs:CSpec} {cx:CX} {ic:IC} {sp isp f args res} (hcs:SoundS Try.prog cs) (hcx:SoundXH Try.prog noGhost γ0 cx) (hic:SoundIH Try.prog ic) (h:funH Try.prog cs cx ic sp isp f args res) (hp:plainS res):Does Try.prog f true (SV.denL args) res.den :=
 Does.plain (funH_does hcs hcx hic mixed h) hp
theorem newD {cs:CSpec} {cx:CX} {ic:IC} {sp isp f args res} (hcs:SoundS Try.prog cs) (hcx:SoundXH Try.prog noGhost γ0 cx) (hic:SoundIH Try.prog ic) (h:funN Try.prog cs cx ic sp isp f args res) (hp:flatS res):Does Try.prog f true (SV.denL args) res.den :=
 funN_does hcs hcx hic mixed h hp
theorem fr_true (n a b:Int):frG n a b:=by
 rw [frG_vc]
 simp only [and_true,Bool.false_eq_true,false_iff]
 exact ⟨fun h=>⟨fun h2=>⟨h,h2⟩,fun h2=>h2.2⟩,fun h h2=>h h2.1⟩
theorem rfr_true (n a b:Int):rfrG n a b:=by
 rw [rfrG_vc]
 simp only [and_true,Bool.false_eq_true,false_iff]
 exact ⟨fun h=>⟨fun h2=>⟨h,h2⟩,fun h2=>h2.2⟩,fun h h2=>h h2.1⟩
theorem fr_ok:(frC 50).Ok Try.prog:=by
 refine ⟨by kernel_rfl,fun x k hk=>?_⟩
 simp only [frC] at hk
 split at hk
 ·rename_i n a b
  exact ⟨_,plainD nilS_cs nilS_x nilS_ic (fr_true n a b) trivial,hk⟩
 ·exact hk.elim
theorem rfr_ok:(frC 33).Ok Try.prog:=by
 refine ⟨by kernel_rfl,fun x k hk=>?_⟩
 simp only [frC] at hk
 split at hk
 ·rename_i n a b
  exact ⟨_,plainD nilS_cs nilS_x nilS_ic (rfr_true n a b) trivial,hk⟩
 ·exact hk.elim
theorem one_cs {x:Ctr} (h:x.Ok Try.prog):SoundS Try.prog (ctrs [x]):=ctrs_sound (by intro y hy; simp at hy; subst hy; exact h)
theorem two_cs {x y:Ctr} (h:x.Ok Try.prog) (h2:y.Ok Try.prog):SoundS Try.prog (ctrs [x,y]):=ctrs_sound (by intro z hz; simp at hz; rcases hz with rfl | rfl; exact h; exact h2)
theorem three_cs {x y z:Ctr} (h:x.Ok Try.prog) (h2:y.Ok Try.prog) (h3:z.Ok Try.prog):SoundS Try.prog (ctrs [x,y,z]):=ctrs_sound (by intro u hu; simp at hu; rcases hu with rfl | rfl | rfl; exact h; exact h2; exact h3)
theorem vh_true (m a b:Int):vhG m a b:=by
 rw [vhG_vc]
 simp only [and_true,true_and,Nat.zero_lt_one,Bool.false_eq_true,false_iff]
 exact ⟨fun h=>⟨fun h2=>⟨h.1,h.2,h2⟩,fun h2=>h2.c⟩,fun h h2=>h ⟨h2.a,h2.b⟩⟩
theorem rvh_true (m a b:Int):rvhG m a b:=by
 rw [rvhG_vc]
 simp only [and_true,true_and,Nat.zero_lt_one,Bool.false_eq_true,false_iff]
 exact ⟨fun h=>⟨fun h1=>⟨fun h2=>⟨h,h1,h2⟩,fun h2=>h2.c⟩,fun h1 h2=>h1 h2.b⟩,fun h h2=>h h2.a⟩
theorem vh_ok:(vhC 49).Ok Try.prog:=by
 refine ⟨by kernel_rfl,fun x k hk=>?_⟩
 simp only [vhC] at hk
 split at hk
 ·rename_i a b m
  exact ⟨_,plainD (one_cs fr_ok) nilS_x nilS_ic (vh_true m a b) trivial,hk⟩
 ·exact hk.elim
theorem rvh_ok:(vhC 39).Ok Try.prog:=by
 refine ⟨by kernel_rfl,fun x k hk=>?_⟩
 simp only [vhC] at hk
 split at hk
 ·rename_i a b m
  exact ⟨_,plainD nilS_cs nilS_x nilS_ic (rvh_true m a b) trivial,hk⟩
 ·exact hk.elim
theorem vw_true (W:Wl) (hn:W.n≤1000):vwG W:=by
 rw [vwG_vc]
 simp only [rI,rE,and_true,true_and,Nat.zero_lt_one,Bool.false_eq_true,false_iff,Classical.not_not,implies_true,Int.toNat_natCast,true_iff]
 refine ⟨⟨0,⟨by omega,fun i hi=>by omega⟩,rfl⟩,fun z hz=>⟨fun hl=>⟨by omega,hl,fun h1 h=>h1 (h z (by omega)).e,fun h1=>⟨fun h2 h=>h2 (h z (by omega)).f,fun h2=>⟨fun h3 h=>?_,fun h3=>⟨by omega,z+1,⟨by omega,fun i hi=>?_⟩,by omega,by omega⟩⟩⟩⟩,fun hl i hi=>hz.2 i (by omega)⟩⟩
 ·have:=(h z (by omega)).c
  exact absurd h3 (by omega)
 ·by_cases e:i<z
  ·exact hz.2 i e
  ·have:i=z:=by omega
   subst this; exact ⟨h1,h2,by omega⟩
theorem vw_ok:vwC.Ok Try.prog:=by
 refine ⟨by kernel_rfl,fun x k hk=>?_⟩
 simp only [vwC] at hk
 split at hk
 ·rename_i n f
  obtain ⟨hf,hn,hk⟩:=hk
  have hh:=vw_true (wlOf n f) hn
  unfold vwG at hh
  rw [← hf] at hh
  exact ⟨_,plainD (one_cs vh_ok) nilS_x nilS_ic hh trivial,hk⟩
 ·exact hk.elim
theorem lo_true {w:Wg} (h:okW w):loG w:=by
 rw [loG_vc]
 have h1:=h.e.a
 have h2:=h.e.b
 have h3:=h.e.c
 have h4:=h.f.a
 have h5:=h.f.b
 have h6:=h.f.c
 simp only [and_true,true_and,Nat.zero_lt_one]
 omega
theorem lo_ok:loC.Ok Try.prog:=by
 refine ⟨by kernel_rfl,fun x k hk=>?_⟩
 simp only [loC] at hk
 split at hk
 ·rename_i a b c d
  obtain ⟨h1,hk⟩:=hk
  exact ⟨_,plainD nilS_cs nilS_x nilS_ic (lo_true h1) (by simp [plainS,plainS.plainL,Tw.sv]),hk⟩
 ·exact hk.elim
theorem pl_true {a b c d:Int} (h:rI (a+c)∧rI (b+d)):plG a b c d:=by
 rw [plG_vc]
 simp only [rI] at h
 simp only [and_true,true_and,Nat.zero_lt_one]
 exact h
theorem pl_ok:plC.Ok Try.prog:=by
 refine ⟨by kernel_rfl,fun x k hk=>?_⟩
 simp only [plC] at hk
 split at hk
 ·rename_i a b c d
  obtain ⟨h1,hk⟩:=hk
  exact ⟨_,plainD nilS_cs nilS_x nilS_ic (pl_true h1) (by simp [plainS,plainS.plainL]),hk⟩
 ·exact hk.elim
theorem sum_bd {g:Nat→Int} {B:Int}:∀ {m:Nat},(∀ j,j<m→0≤g j∧g j≤B)→0≤sumJ g m∧sumJ g m≤m*B
 | 0,_=>by simp [sumJ]
 | m+1,h=>by
  have h1:=sum_bd (g:=g) (B:=B) (m:=m) fun j hj=>h j (by omega)
  have h2:=h m (by omega)
  have:((m+1:Nat):Int)*B=m*B+B:=by push_cast; rw [Int.add_mul,Int.one_mul]
  rw [this]
  show 0≤sumJ g m+g m∧sumJ g m+g m≤_
  omega
theorem sm_true {n:Nat} {f:Nat→Tw} (hn:n≤1000) (h:∀ i,i<n→bdT (f i)):smG n f:=by
 rw [smG_vc]
 simp only [rI,rE,and_true,true_and,Nat.zero_lt_one,implies_true,Int.toNat_natCast]
 refine ⟨⟨0,by omega,rfl,rfl,rfl⟩,fun z hz=>⟨fun hl=>?_,fun hl=>?_⟩⟩
 ·have b1:=sum_bd (g:=fun i=>(f i).lo) (B:=100000000) (m:=z) fun j hj=>⟨(h j (by omega)).1,(h j (by omega)).2.1⟩
  have b2:=sum_bd (g:=fun i=>(f i).hi) (B:=100000000) (m:=z) fun j hj=>⟨(h j (by omega)).2.2.1,(h j (by omega)).2.2.2⟩
  have b3:=h z (by omega)
  unfold bdT at b3
  simp only [smJ]
  exact ⟨by omega,by omega,by omega,by omega,z+1,by omega,by omega,by omega,rfl,rfl⟩
 ·have:z=n:=by omega
  subst this; exact ⟨rfl,rfl⟩
theorem sm_ok:smC.Ok Try.prog:=by
 refine ⟨by kernel_rfl,fun x k hk=>?_⟩
 simp only [smC] at hk
 split at hk
 ·rename_i n f
  obtain ⟨hf,hn,hb,hk⟩:=hk
  have hh:=sm_true hn hb
  unfold smG at hh
  rw [← hf] at hh
  exact ⟨_,plainD (one_cs pl_ok) nilS_x nilS_ic hh (by simp [plainS,plainS.plainL,Tw.sv]),hk⟩
 ·exact hk.elim
end Go.Proofs.Ytbedomoilakcaaa

namespace Go.Proofs.Ytbedomoilakcaaa
open Go Go.Lg
attribute [local irreducible] bodyH funS
theorem nil_relS {S:Nat} {c:Nat→Nat→Option Value} {I:Nat→Prop} {N:Nat} {β:Nat→Option Lg.Loc} {v:Value} (h:Rel c I N β (.sc (.slice none 0 0)) v):Rel c I N β (.isl S []) v:=by
 cases h with
 | sc _=>exact .islz S none
theorem nil_doesS {S:Nat} {g:FuncId} {fr:Bool} {pre post:List AV} {res:AV} (h:Does Try.prog g fr (pre ++ .isl S [] :: post) res):Does Try.prog g fr (pre ++ .sc (.slice none 0 0) :: post) res:=by
 intro w I vals hI hr
 refine h w I vals hI ?_
 clear h
 generalize vals.toList=l at hr
 induction pre generalizing l with
 | nil =>
  obtain ⟨v,r,e,h1,h2⟩:=hr.cons
  rw [e]
  exact RelL.mk (nil_relS h1) h2
 | cons x pre ih =>
  obtain ⟨v,r,e,h1,h2⟩:=hr.cons
  rw [e]
  exact RelL.mk h1 (ih _ h2)
def nilAt (S:Nat) (e:SV):Nat→List SV→(List SV→Prop)→Prop
 | 0,args,k=>(match args with
  | .val (.slice none 0 0) :: r=>k (.lst S 0 (fun _=>e) :: r)
  | _=>k args)
 | i+1,args,k=>(match args with
  | x :: r=>nilAt S e i r fun r=>k (x :: r)
  | []=>k [])
theorem nilAt_spec {S:Nat} {e:SV}:∀ {i:Nat} {args:List SV} {k:List SV→Prop},nilAt S e i args k→(∃ a,k a∧∀ {g fr res} (pre:List AV),Does Try.prog g fr (pre ++ SV.denL a) res→Does Try.prog g fr (pre ++ SV.denL args) res)
 | 0,args,k,h=>by
  unfold nilAt at h
  split at h
  ·rename_i r
   exact ⟨_,h,fun pre hd=>nil_doesS (S:=S) (pre:=pre) (post:=SV.denL r) (by simpa [SV.denL,SV.den] using hd)⟩
  ·exact ⟨_,h,fun pre hd=>hd⟩
 | i+1,args,k,h=>by
  unfold nilAt at h
  split at h
  ·rename_i x r
   obtain ⟨a,h1,h2⟩:=nilAt_spec (i:=i) h
   refine ⟨_,h1,fun pre hd=>?_⟩
   have:=h2 (pre ++ [x.den]) (by simpa [SV.denL] using hd)
   simpa [SV.denL] using this
  ·exact ⟨_,h,fun pre hd=>hd⟩
def nilC (S:Nat) (e:SV) (i:Nat) (C:Ctr):Ctr:=⟨C.f,fun args k=>nilAt S e i args fun args=>C.c args k⟩
theorem nilC_ok {S:Nat} {e:SV} {i:Nat} {C:Ctr} (h:C.Ok Try.prog):(nilC S e i C).Ok Try.prog:=by
 refine ⟨h.1,fun x k hk=>?_⟩
 obtain ⟨a,h1,h2⟩:=nilAt_spec hk
 obtain ⟨v,h3,h4⟩:=h.2 _ _ h1
 exact ⟨v,h2 (g:=C.f) [] h3,h4⟩
open Classical in
noncomputable def erC (W:Wl):Int:=if 32<W.n then 3 else if okWl W then 0 else 1
noncomputable def caN (W:Wl):Nat:=if erC W=0 then W.n else 0
noncomputable def caA (W:Wl):Tw:=if erC W=0 then smJ (fun i=>ldW (W.f i)) W.n else ⟨0,0⟩
def ldL (W:Wl) (i:Nat):Tw:=ldW (W.f i)
noncomputable def caR (W:Wl):SV:=.tup [twL (caN W) (ldL W),(caA W).sv,i6 (erC W)]
noncomputable def csC:CSpec:=ctrs [vwC,loC,nilC 2 (Tw.sv ⟨0,0⟩) 0 smC]
noncomputable def caX (W:Wl):CX:=inl Try.prog (ctrs []) none (ictrs []) 32
 (oneL 0 (appH1 18 3 (fun k=>k≤W.n) (fun k=>W.n - k) (W.n+1) 2 (fun k=>mkF 18 [(3,.sl 2 0 k),(6,.sl 1 0 W.n),(7,i6 W.n),(8,i6 k)]) fun k=>mkX [vr 2 (Tw.sv ⟨0,0⟩),rw' 2 W.n fun i=>(ldL W i).sv,rw' 2 k fun i=>(ldL W i).sv])) noL noX
noncomputable def caG (W:Wl):Prop:=funN Try.prog csC (caX W) (ictrs [])
 (oneL 1 (appH1 34 5 (fun k=>k≤W.n) (fun k=>W.n - k) (W.n+1) 1 (fun k=>mkF 34 [(3,.ptr 0 0 0),(5,.sl 1 0 k),(18,W.sv),(19,i6 W.n),(20,i6 k)]) fun k=>mkX [vr 2 (Tw.sv ⟨0,0⟩),rw' 2 k fun i=>(ldL W i).sv])) noL
 18 [W.sv] (caR W)
noncomputable def caC:Ctr:=⟨18,fun args k=>match args with
 | [.lst 4 n f]=>SV.lst 4 n f=(wlOf n f).sv∧n≤1000∧k (caR (wlOf n f))
 | _=>False⟩
end Go.Proofs.Ytbedomoilakcaaa

set_option maxRecDepth 100000
namespace Go.Proofs.Ytbedomoilakcaaa
open Go Go.Lg
theorem caG_vc (W:Wl):caG W =
(((32:Int)<(↑W.1:Int)→(0:Nat)<(1:Nat)∧(0:Nat)=caN W∧(0:Int)=(caA W).1∧(0:Int)=(caA W).2∧(3:Int)=erC W∧True)∧(¬(32:Int)<(↑W.1:Int)→(∀ (i:Nat),i<W.1→True∧True∧True∧True∧True)∧(SV.lst (4:Nat) W.n fun i=>(W.f i).sv)=(wlOf W.n fun i=>(W.f i).sv).sv∧W.1≤(1000:Nat)∧(¬okWl (wlOf W.n fun i=>(W.f i).sv)→(0:Nat)<(1:Nat)∧(0:Nat)=caN W∧(0:Int)=(caA W).1∧(0:Int)=(caA W).2∧(1:Int)=erC W∧True)∧(¬¬okWl (wlOf W.n fun i=>(W.f i).sv)→(((0:Int)<(↑W.1:Int)→(0:Int)≤(0:Int)∧(0:Int)<(↑W.1:Int)∧(0:Nat)<(1:Nat)∧okW (Wg.mk (W.f (Int.toNat (0:Int))).elo (W.f (Int.toNat (0:Int))).ehi (W.f (Int.toNat (0:Int))).flo (W.f (Int.toNat (0:Int))).fhi)∧True∧(∀ (i:Nat),i<(1:Nat)→rE true)∧(1:Nat)*(16:Nat)≤(140737488355328:Nat)∧(1:Nat) ≤
(4611686018427387904:Nat)∧rI ((0:Int)+(1:Int))∧∃ (z:Nat),z≤W.1∧W.1 - z<W.1+(1:Nat)∧rE (0:Nat)∧rE (0:Nat)∧rE (0:Nat)∧(1:Nat)=z∧W.1=W.1∧(∀ (i:Nat),i<W.1→rE ((W.f i).sv.den)∧True∧True∧True∧True∧True)∧rE (↑W.1:Int)∧(0:Int)+(1:Int)=(↑z:Int)∧rE (0:Int)∧rE (0:Int)∧z=(1:Nat)∧(∀ (i:Nat),i<z→rE (2:Nat)∧max (0:Int) ((W.f (Int.toNat (0:Int))).3 - (W.f (Int.toNat (0:Int))).2)=max (0:Int) ((W.f i).3 - (W.f i).2)∧(W.f (Int.toNat (0:Int))).4 - (W.f (Int.toNat (0:Int))).1=(W.f i).4 - (W.f i).1∧True)∧True)∧(¬(0:Int)<(↑W.1:Int)→(((0:Int)<(↑(0:Nat):Int)→False)∧(¬(0:Int)<(↑(0:Nat):Int)→(SV.lst (2:Nat) (0:Nat) fun x=>(Tw.mk (0:Int) (0:Int)).sv)=twL (0:Nat) (ftOf fun x=>(Tw.mk (0:Int) (0:Int)).sv)∧(0:Nat)≤(1000:Nat)∧(∀
(i:Nat),i<(0:Nat)→bdT (ftOf (fun x=>(Tw.mk (0:Int) (0:Int)).sv) i))∧(0:Nat)<(1:Nat)∧(0:Nat)=caN W∧sumJ (fun i=>(ftOf (fun x=>(Tw.mk (0:Int) (0:Int)).sv) i).lo) (0:Nat)=(caA W).1∧sumJ (fun i=>(ftOf (fun x=>(Tw.mk (0:Int) (0:Int)).sv) i).hi) (0:Nat)=(caA W).2∧(0:Int)=erC W∧True))∧∀ (z:Nat),z≤W.1→((↑z:Int)<(↑W.1:Int)→(0:Int)≤(↑z:Int)∧(↑z:Int)<(↑W.1:Int)∧(0:Nat)+(↑z:Int).toNat<W.1∧(0:Nat)<(1:Nat)∧True∧(∀ (i:Nat),i<(1:Nat)→rE true)∧rE (0:Nat)∧z=z∧(∀ (i:Nat),rE true)∧(z+(1:Nat))*(16:Nat)≤(140737488355328:Nat)∧z+(1:Nat)≤(4611686018427387904:Nat)∧rI ((↑z:Int)+(1:Int))∧∃ (z_1:Nat),z_1≤W.1∧W.1 - z_1<W.1 - z∧rE (0:Nat)∧z+(1:Nat)=z_1∧rE (0:Nat)∧W.1=W.1∧rE (↑W.1:Int)∧(↑z:Int)+(1:Int) =
(↑z_1:Int)∧rE (0:Int)∧rE (0:Int)∧W.1=W.1∧(∀ (i:Nat),i<W.1→rE (2:Nat)∧rE (max (0:Int) ((W.f i).3 - (W.f i).2))∧rE ((W.f i).4 - (W.f i).1)∧True)∧z_1=z+(1:Nat)∧(∀ (i:Nat),i<z_1→rE (2:Nat)∧(if i<z then max (0:Int) ((W.f i).3 - (W.f i).2) else max (0:Int) ((W.f ((0:Nat)+(↑z:Int).toNat)).3 - (W.f ((0:Nat)+(↑z:Int).toNat)).2))=max (0:Int) ((W.f i).3 - (W.f i).2)∧(if i<z then (W.f i).4 - (W.f i).1 else (W.f ((0:Nat)+(↑z:Int).toNat)).4 - (W.f ((0:Nat)+(↑z:Int).toNat)).1)=(W.f i).4 - (W.f i).1∧True)∧True)∧(¬(↑z:Int)<(↑W.1:Int)→(SV.lst (2:Nat) (0:Nat) fun x=>(Tw.mk (0:Int) (0:Int)).sv)=twL (0:Nat) (ftOf fun x=>(Tw.mk (0:Int) (0:Int)).sv)∧(0:Nat)≤(1000:Nat)∧(∀ (i:Nat),i<(0:Nat)→bdT (ftOf (fun x=>(Tw.mk (0:Int) (0:Int)).sv) i))∧(0:Nat)<(1 :
Nat)∧z=caN W∧(0:Nat)+caN W≤z∧(∀ (i:Nat),i<caN W→rE (2:Nat)∧rE (2:Nat)∧max (0:Int) ((W.f (i+(0:Nat))).3 - (W.f (i+(0:Nat))).2)=max (0:Int) ((W.f i).3 - (W.f i).2)∧(W.f (i+(0:Nat))).4 - (W.f (i+(0:Nat))).1=(W.f i).4 - (W.f i).1∧True)∧sumJ (fun i=>(ftOf (fun x=>(Tw.mk (0:Int) (0:Int)).sv) i).lo) (0:Nat)=(caA W).1∧sumJ (fun i=>(ftOf (fun x=>(Tw.mk (0:Int) (0:Int)).sv) i).hi) (0:Nat)=(caA W).2∧(0:Int)=erC W∧True)))∧∀ (z:Nat),z≤W.1→((↑z:Int)<(↑W.1:Int)→(0:Int)≤(↑z:Int)∧(↑z:Int)<(↑W.1:Int)∧(0:Nat)<(1:Nat)∧okW (Wg.mk (W.f (↑z:Int).toNat).elo (W.f (↑z:Int).toNat).ehi (W.f (↑z:Int).toNat).flo (W.f (↑z:Int).toNat).fhi)∧True∧(∀ (i:Nat),i<(1:Nat)→rE true)∧rE (0:Nat)∧z=z∧(∀ (i:Nat),rE true)∧(z+(1:Nat))*(16:Nat) ≤
(140737488355328:Nat)∧z+(1:Nat)≤(4611686018427387904:Nat)∧rI ((↑z:Int)+(1:Int))∧∃ (z_1:Nat),z_1≤W.1∧W.1 - z_1<W.1 - z∧rE (0:Nat)∧rE (0:Nat)∧rE (0:Nat)∧z+(1:Nat)=z_1∧W.1=W.1∧(∀ (i:Nat),i<W.1→rE ((W.f i).sv.den)∧True∧True∧True∧True∧True)∧rE (↑W.1:Int)∧(↑z:Int)+(1:Int)=(↑z_1:Int)∧rE (0:Int)∧rE (0:Int)∧z_1=z+(1:Nat)∧(∀ (i:Nat),i<z_1→rE (2:Nat)∧(if i<z then max (0:Int) ((W.f i).3 - (W.f i).2) else max (0:Int) ((W.f (↑z:Int).toNat).3 - (W.f (↑z:Int).toNat).2))=max (0:Int) ((W.f i).3 - (W.f i).2)∧(if i<z then (W.f i).4 - (W.f i).1 else (W.f (↑z:Int).toNat).4 - (W.f (↑z:Int).toNat).1)=(W.f i).4 - (W.f i).1∧True)∧True)∧(¬(↑z:Int)<(↑W.1:Int)→(((0:Int)<(↑z:Int)→(0:Int)≤(0:Int)∧(0:Int)<(↑z:Int)∧(0:Nat)+Int.toNat (0 :
Int)<z∧(0:Nat)<(1:Nat)∧True∧(∀ (i:Nat),i<(1:Nat)→rE true)∧(1:Nat)*(16:Nat)≤(140737488355328:Nat)∧(1:Nat)≤(4611686018427387904:Nat)∧rI ((0:Int)+(1:Int))∧∃ (z_1:Nat),z_1≤W.1∧W.1 - z_1<W.1+(1:Nat)∧rE (0:Nat)∧(1:Nat)=z_1∧rE (0:Nat)∧z=W.1∧(↑z:Int)=(↑W.1:Int)∧(0:Int)+(1:Int)=(↑z_1:Int)∧rE (0:Int)∧rE (0:Int)∧W.1=z∧(∀ (i:Nat),i<W.1→rE (2:Nat)∧rE (max (0:Int) ((W.f i).3 - (W.f i).2))∧rE ((W.f i).4 - (W.f i).1)∧True)∧z_1=(1:Nat)∧(∀ (i:Nat),i<z_1→rE (2:Nat)∧max (0:Int) ((W.f ((0:Nat)+Int.toNat (0:Int))).3 - (W.f ((0:Nat)+Int.toNat (0:Int))).2)=max (0:Int) ((W.f i).3 - (W.f i).2)∧(W.f ((0:Nat)+Int.toNat (0:Int))).4 - (W.f ((0:Nat)+Int.toNat (0:Int))).1=(W.f i).4 - (W.f i).1∧True)∧True)∧(¬(0:Int)<(↑z :
Int)→(0:Nat)+z≤z∧(∀ (i:Nat),i<z→rE (2:Nat)∧True∧True∧True)∧(SV.lst (2:Nat) z fun i=>(ldL W (i+(0:Nat))).sv)=twL z (ftOf fun i=>(ldL W (i+(0:Nat))).sv)∧z≤(1000:Nat)∧(∀ (i:Nat),i<z→bdT (ftOf (fun i=>(ldL W (i+(0:Nat))).sv) i))∧(0:Nat)<(1:Nat)∧(0:Nat)=caN W∧sumJ (fun i=>(ftOf (fun i=>(ldL W (i+(0:Nat))).sv) i).lo) z=(caA W).1∧sumJ (fun i=>(ftOf (fun i=>(ldL W (i+(0:Nat))).sv) i).hi) z=(caA W).2∧(0:Int)=erC W∧True))∧∀ (z_1:Nat),z_1≤W.1→((↑z_1:Int)<(↑W.1:Int)→(0:Int)≤(↑z_1:Int)∧(↑z_1:Int)<(↑W.1:Int)∧(0:Nat)+(↑z_1:Int).toNat<W.1∧(0:Nat)<(1:Nat)∧True∧(∀ (i:Nat),i<(1:Nat)→rE true)∧rE (0:Nat)∧z_1=z_1∧(∀ (i:Nat),rE true)∧(z_1+(1:Nat))*(16:Nat)≤(140737488355328:Nat)∧z_1+(1:Nat) ≤
(4611686018427387904:Nat)∧rI ((↑z_1:Int)+(1:Int))∧∃ (z:Nat),z≤W.1∧W.1 - z<W.1 - z_1∧rE (0:Nat)∧z_1+(1:Nat)=z∧rE (0:Nat)∧W.1=W.1∧rE (↑W.1:Int)∧(↑z_1:Int)+(1:Int)=(↑z:Int)∧rE (0:Int)∧rE (0:Int)∧W.1=W.1∧(∀ (i:Nat),i<W.1→rE (2:Nat)∧rE (max (0:Int) ((W.f i).3 - (W.f i).2))∧rE ((W.f i).4 - (W.f i).1)∧True)∧z=z_1+(1:Nat)∧(∀ (i:Nat),i<z→rE (2:Nat)∧(if i<z_1 then max (0:Int) ((W.f i).3 - (W.f i).2) else max (0:Int) ((W.f ((0:Nat)+(↑z_1:Int).toNat)).3 - (W.f ((0:Nat)+(↑z_1:Int).toNat)).2))=max (0:Int) ((W.f i).3 - (W.f i).2)∧(if i<z_1 then (W.f i).4 - (W.f i).1 else (W.f ((0:Nat)+(↑z_1:Int).toNat)).4 - (W.f ((0:Nat)+(↑z_1:Int).toNat)).1)=(W.f i).4 - (W.f i).1∧True)∧True)∧(¬(↑z_1:Int)<(↑W.1:Int)→(0:Nat)+z≤W.1∧(∀ (i:Nat),i<z
→ rE (2:Nat)∧True∧True∧True)∧(SV.lst (2:Nat) z fun i=>(ldL W (i+(0:Nat))).sv)=twL z (ftOf fun i=>(ldL W (i+(0:Nat))).sv)∧z≤(1000:Nat)∧(∀ (i:Nat),i<z→bdT (ftOf (fun i=>(ldL W (i+(0:Nat))).sv) i))∧(0:Nat)<(1:Nat)∧z_1=caN W∧(0:Nat)+caN W≤z_1∧(∀ (i:Nat),i<caN W→rE (2:Nat)∧rE (2:Nat)∧max (0:Int) ((W.f (i+(0:Nat))).3 - (W.f (i+(0:Nat))).2)=max (0:Int) ((W.f i).3 - (W.f i).2)∧(W.f (i+(0:Nat))).4 - (W.f (i+(0:Nat))).1=(W.f i).4 - (W.f i).1∧True)∧sumJ (fun i=>(ftOf (fun i=>(ldL W (i+(0:Nat))).sv) i).lo) z=(caA W).1∧sumJ (fun i=>(ftOf (fun i=>(ldL W (i+(0:Nat))).sv) i).hi) z=(caA W).2∧(0:Int)=erC W∧True))))):=by kernel_rfl
end Go.Proofs.Ytbedomoilakcaaa

set_option maxRecDepth 100000
namespace Go.Proofs.Ytbedomoilakcaaa
open Go Go.Lg
attribute [local irreducible] funS bodyH
theorem ld_bd {w:Wg} (h:okW w):bdT (ldW w):=by
 have h1:=h.e.a
 have h2:=h.e.b
 have h3:=h.e.c
 have h4:=h.f.a
 have h5:=h.f.b
 have h6:=h.f.c
 have h7:=h.c
 simp only [bdT,ldW]
 omega
theorem erC_yes {W:Wl} (h:¬ 32<(W.n:Int)) (hw:okWl W):erC W=0∧caN W=W.n∧caA W=smJ (ldL W) W.n:=by
 have e:erC W=0:=by rw [erC,if_neg (by omega),if_pos hw]
 refine ⟨e,by rw [caN,if_pos e],by rw [caA,if_pos e]; rfl⟩
theorem erC_no {W:Wl} (h:erC W≠0):caN W=0∧caA W=⟨0,0⟩:=⟨by rw [caN,if_neg h],by rw [caA,if_neg h]⟩
theorem ca_true {W:Wl} (hn:W.n≤1000):caG W:=by
 rw [caG_vc]
 simp only [rI,rE,and_true,true_and,Nat.zero_lt_one,implies_true,Int.toNat_natCast,Nat.zero_add,Nat.add_zero,wl_fold,wsv_fold,wg_fold,Classical.not_not]
 refine ⟨fun h=>?_,fun h=>⟨hn,fun h1=>?_,fun h1=>?_⟩⟩
 ·have e:erC W=3:=by rw [erC,if_pos (by omega)]
  obtain ⟨e1,e2⟩:=erC_no (W:=W) (by omega)
  rw [e1,e2]; exact ⟨rfl,rfl,rfl,e.symm⟩
 ·have e:erC W=1:=by rw [erC,if_neg (by omega),if_neg h1]
  obtain ⟨e1,e2⟩:=erC_no (W:=W) (by omega)
  rw [e1,e2]; exact ⟨rfl,rfl,rfl,e.symm⟩
 ·obtain ⟨e0,e1,e2⟩:=erC_yes h h1
  rw [e0,e1,e2]
  have hb:∀ i,i<W.n→bdT (ldL W i):=fun i hi=>ld_bd (h1 i hi)
  have st:∀ z i:Nat,i<z+1→((if i<z then max 0 ((W.f i).3 - (W.f i).2) else max 0 ((W.f z).3 - (W.f z).2))=max 0 ((W.f i).3 - (W.f i).2))∧((if i<z then (W.f i).4 - (W.f i).1 else (W.f z).4 - (W.f z).1)=(W.f i).4 - (W.f i).1):=fun z i hi=>by
   by_cases e:i<z
   ·simp only [if_pos e]; exact ⟨trivial,trivial⟩
   ·have:i=z:=by omega
    subst this; simp only [if_neg e]; exact ⟨trivial,trivial⟩
  have ft:∀ z,(SV.lst 2 z fun i=>(ldL W i).sv)=twL z (ftOf fun i=>(ldL W i).sv):=fun z=>rfl
  have sj:∀ z,z=W.n→sumJ (fun i=>(ftOf (fun i=>(ldL W i).sv) i).lo) z=(smJ (ldL W) W.n).1∧sumJ (fun i=>(ftOf (fun i=>(ldL W i).sv) i).hi) z=(smJ (ldL W) W.n).2:=fun z hz=>by subst hz; exact ⟨rfl,rfl⟩
  have step:∀ z:Nat,z<W.n→∃ z_1:Nat,z_1≤W.n∧W.n - z_1<W.n - z∧z+1=z_1∧(z:Int)+1=(z_1:Int)∧z_1=z+1∧∀ i,i<z_1→((if i<z then max 0 ((W.f i).3 - (W.f i).2) else max 0 ((W.f z).3 - (W.f z).2))=max 0 ((W.f i).3 - (W.f i).2))∧((if i<z then (W.f i).4 - (W.f i).1 else (W.f z).4 - (W.f z).1)=(W.f i).4 - (W.f i).1) :=
   fun z hz=>⟨z+1,by omega,by omega,rfl,by omega,rfl,fun i hi=>st z i hi⟩
  refine ⟨⟨fun hp=>?_,fun hp=>?_⟩,fun z hz=>⟨fun hl=>⟨by omega,hl,h1 z (by omega),by omega,by omega,by omega,step z (by omega)⟩,fun hl=>?_⟩⟩
  ·refine ⟨by omega,hp,h1 _ (by simp; omega),by omega,by omega,by omega,1,by omega,by omega,rfl,rfl,rfl,fun i hi=>?_⟩
   have:i=0:=by omega
   subst this; exact ⟨rfl,rfl⟩
  ·have hz:W.n=0:=by omega
   rw [hz]
   refine ⟨⟨fun h=>by omega,fun _=>?_⟩,fun z hz=>⟨fun hl=>by omega,fun hl=>?_⟩⟩
   ·and_intros <;> first | rfl | omega | (intro i hi; first | (and_intros <;> rfl) | omega)
   ·and_intros <;> first | rfl | omega | (intro i hi; first | (and_intros <;> rfl) | omega)
  ·have hzn:z=W.n:=by omega
   subst hzn
   refine ⟨⟨fun hp=>?_,fun hp=>?_⟩,fun z1 hz1=>⟨fun hl=>⟨by omega,hl,by omega,by omega,by omega,by omega,step z1 (by omega)⟩,fun hl=>?_⟩⟩
   ·refine ⟨by omega,hp,by (first | omega | (simp; omega)),by omega,by omega,by omega,1,?_⟩
    and_intros <;> first | rfl | omega | (intro i hi; have h0:i=0:=(by omega); rw [h0]; exact ⟨rfl,rfl⟩)
   ·and_intros <;> first | rfl | omega | exact ft _ | exact fun i hi=>hb i hi
   ·and_intros <;> first | rfl | omega | exact ft _ | exact fun i hi=>hb i hi
theorem ca_ok:caC.Ok Try.prog:=by
 refine ⟨by kernel_rfl,fun x k hk=>?_⟩
 simp only [caC] at hk
 split at hk
 ·rename_i n f
  obtain ⟨hf,hn,hk⟩:=hk
  have hh:=ca_true (W:=wlOf n f) hn
  unfold caG at hh
  rw [← hf] at hh
  refine ⟨_,newD (three_cs vw_ok lo_ok (nilC_ok sm_ok)) ?_ nilS_ic hh (by simp [flatS,flatSL,scS,SV.cells,twL,Tw.sv,caR]),hk⟩
  unfold caX
  exact inl_sound nilS_cs nilS_x (ys:=none) trivial nilS_ic mixed
 ·exact hk.elim
end Go.Proofs.Ytbedomoilakcaaa

namespace Go.Proofs.Ytbedomoilakcaaa
open Go Go.Lg
attribute [local irreducible] bodyH funS
def awC:Ctr:=⟨10,fun args k=>match args with
 | []=>k (.bool true)
 | _=>False⟩
end Go.Proofs.Ytbedomoilakcaaa

set_option maxRecDepth 100000
namespace Go.Proofs.Ytbedomoilakcaaa
open Go Go.Lg
end Go.Proofs.Ytbedomoilakcaaa

set_option maxRecDepth 100000
namespace Go.Proofs.Ytbedomoilakcaaa
open Go Go.Lg
attribute [local irreducible] funS bodyH
end Go.Proofs.Ytbedomoilakcaaa
