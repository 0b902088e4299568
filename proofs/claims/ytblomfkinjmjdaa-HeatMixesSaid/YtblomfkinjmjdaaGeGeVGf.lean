import Derived.Test.YtblomfkinjmjdaaGaGaVGbGcGcVGd
set_option linter.unusedVariables false
set_option linter.unusedSimpArgs false
namespace Go.Proofs.Ytblomfkinjmjdaa
open Go Go.Lg
attribute [local irreducible] bodyH funS
def two (a b:SV):Nat→SV
 | 0=>a
 | _=>b
def gapP (T:Tl) (st p h:Int):Prop:=∀ i,i<T.n→(T.f i).s=st→¬ inW (T.f i) h p
structure isFi (T:Tl) (st p a u:Int):Prop where
 l:a≤u
 g:gapP T st p u
 n:∀ x,a≤x→x<u→¬ gapP T st p x
structure okMi (st p lo hi:Int):Prop where
 s0:1≤st
 s1:st≤16
 p0:1≤p
 p1:p≤10000
 h:okHs lo hi
end Go.Proofs.Ytblomfkinjmjdaa

set_option maxRecDepth 100000
namespace Go.Proofs.Ytblomfkinjmjdaa
open Go Go.Lg
end Go.Proofs.Ytblomfkinjmjdaa

set_option maxRecDepth 100000
namespace Go.Proofs.Ytblomfkinjmjdaa
open Go Go.Lg
attribute [local irreducible] funS bodyH
end Go.Proofs.Ytblomfkinjmjdaa
