/-
  Texts of one proof, joined: Cv4z.
-/
import Derived.Test.YtgcinolbkllkkaaGreatZFConverged28
import Derived.Test.YtgcinolbkllkkaaGreatZFConverged29
import Derived.Test.YtgcinolbkllkkaaGreatZFConverged30
import Derived.Test.YtgcinolbkllkkaaGreatZFConverged31
import Derived.Test.YtgcinolbkllkkaaGreatZFConverged32
set_option linter.unusedSimpArgs false
set_option linter.unusedVariables false
namespace Go.Proofs.YtgcinolbkllkkaaGreat
open Go.ChangeShapes Go.WideShapes Go.ChangeAt Go.RowKit
theorem l6Act_any (now:Int)(a:Option Addr)(n c3:Nat)(a2:Option Addr)(n2 c4:Nat)(xs ys:List Value)(rs:List M1.Rg)(ms:List M1.Ml)(lo:Nat)(kd wh tt ta:Int)(x:M1.OpV)(w:World){T:Nat→Prop}(HT:WT w lo (.slice a n c3) (.slice a2 n2 c4) xs ys rs ms T)(hTl:∀ k,T k→k<w.heap.size)(hlo:lo≤w.heap.size)(hxs:x.s.size≤maxLen)(hwk:Hid (M1.wOk now rs ms=true)) :
  Calls Tryz.prog 111 #[.agg #[.int .i64 now,.slice a n c3,.slice a2 n2 c4],.agg #[.int .i64 kd,.int .i64 wh,.int .i64 tt,.int .i64 ta,.int .i64 x.k,.int .i64 x.t,.int .i64 x.id,.int .i64 x.pa,.string x.s,.int .i64 x.st,.int .i64 x.en]] w fun e w'=>WA w w' (OB (.slice a n c3) (.slice a2 n2 c4)) T e now:=by
 by_cases h1:kd=1
 ·exact l6Act_1 now a n c3 a2 n2 c4 xs ys rs ms lo kd wh tt ta x w HT hTl hlo hxs hwk h1
 by_cases h2:kd=2
 ·exact l6Act_2 now a n c3 a2 n2 c4 xs ys rs ms lo kd wh tt ta x w HT hTl hlo hxs hwk h2
 by_cases h3:kd=3
 ·exact l6Act_3 now a n c3 a2 n2 c4 xs ys rs ms lo kd wh tt ta x w HT hTl hlo hxs hwk h3
 by_cases h4:kd=4
 ·exact l6Act_4 now a n c3 a2 n2 c4 xs ys rs ms lo kd wh tt ta x w HT hTl hlo hxs hwk h4
 by_cases h5:kd=5
 ·exact l6Act_5 now a n c3 a2 n2 c4 xs ys rs ms lo kd wh tt ta x w HT hTl hlo hxs hwk h5
 exact l6Act_0 now a n c3 a2 n2 c4 xs ys rs ms lo kd wh tt ta x w HT hTl hlo hxs hwk ⟨h1,h2,h3,h4,h5⟩
end Go.Proofs.YtgcinolbkllkkaaGreat
