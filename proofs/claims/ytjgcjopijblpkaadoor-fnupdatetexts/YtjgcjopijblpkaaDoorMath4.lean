/-
  Plain mathematics of updates (no program): when one is right.
-/
import Derived.Test.YtjgcjopijblpkaaDoorMath2
import Derived.Test.YtjgcjopijblpkaaDoorMath3
namespace M1

/-- A span that is zero. -/
def zeroB (id pa : Int) (s : ByteArray) (st en : Int) : Bool := decide (id = 0) && decide (pa = 0) && decide (s.toList = []) && decide (st = 0) && decide (en = 0)
def headB (dr dn sw sc sr tr : Int) : Bool := dotOk dr dn && stOk sw sc sr && decide (sr = dr) && inB tr 1 1000
def kindB (k id pa : Int) (s : ByteArray) (st en lv : Int) : Bool :=
  if k = 1 then spanB id pa s st en && (lv == 0)
  else if k = 2 then zeroB id pa s st en && (lv == 0)
  else if k = 3 then zeroB id pa s st en && inB lv 1 1000000
  else false
def updB (dr dn sw sc sr k tr id pa : Int) (s : ByteArray) (st en lv : Int) : Bool := headB dr dn sw sc sr tr && kindB k id pa s st en lv
end M1
