import Derived.Test.YtfobgmecnlehaaaDaDaVDb
set_option linter.unusedVariables false
set_option linter.unusedSimpArgs false
namespace Go.Proofs.Ytfobgmecnlehaaa
open Go Go.Lg
attribute [local irreducible] bodyH funS
def two (n e:Int):SV:=.tup [i6 n,i6 e]
def grN (a:Act) (r:Int):Nat→Int
 | 0=>if r≤rtA a 0 then 0 else -1
 | k+1=>if r≤rtA a ((k+1:Nat):Int) then ((k+1:Nat):Int) else grN a r k
def dst (a:Act) (r:Int):Int:=grN a r 100000
structure seI (a:Act) (r:Int) (z:Nat × Nat):Prop where
 le:z.1≤z.2
 n:z.2≤100001
 lo:∀ p:Nat,p<z.1→r≤rtA a p
 hi:∀ p:Nat,z.2≤p→p≤100000→rtA a p<r
end Go.Proofs.Ytfobgmecnlehaaa

set_option maxRecDepth 100000
namespace Go.Proofs.Ytfobgmecnlehaaa
open Go Go.Lg
end Go.Proofs.Ytfobgmecnlehaaa

set_option maxRecDepth 100000
namespace Go.Proofs.Ytfobgmecnlehaaa
open Go Go.Lg
attribute [local irreducible] funS bodyH
theorem a_fold (a:Act):Act.mk a.pr a.dv a.st a.gn a.mo a.ba=a:=rfl
theorem ch1' (a:Int):(SV.lst 1 1 (chainF [SV.int IntKind.i64 a])=inL 1 (iOf (chainF [SV.int IntKind.i64 a])))=True:=eq_true rfl
theorem two_plain (n e:Int):plainS (two n e):=by simp [two,plainS,plainS.plainL]
end Go.Proofs.Ytfobgmecnlehaaa
