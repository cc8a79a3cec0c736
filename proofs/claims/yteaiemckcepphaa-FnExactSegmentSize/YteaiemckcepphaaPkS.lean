/-
  The model's PacketFault, EchoFault and SamePackets.
-/
import Derived.Test.YteaiemckcepphaaFrm
import Derived.Test.YteaiemckcepphaaStr
namespace Go.Proofs.Yteaiemckcepphaa
open Go.ChangeShapes Go.WideShapes Go.ChangeAt Go.RowKit

def packB (kf kt kp kl : Int) : Bool := ipB kf && ipB kt && inB kp 0 255 && inB kl 1 255
def packC (kf kt kp kl : Int) (n : Nat) : Int := if packB kf kt kp kl then (if n ≤ 560 then 0 else 2) else 3

def echoB (ei es : Int) : Bool := inB ei 0 65535 && inB es 0 65535
def echoC (ei es : Int) (n : Nat) : Int := if echoB ei es then (if n ≤ 552 then 0 else 2) else 3

def sameP (kf kt kp kl : Int) (zs : List Int) (kf' kt' kp' kl' : Int) (zs' : List Int) : Bool := decide (kf = kf') && decide (kt = kt') && decide (kp = kp') && decide (kl = kl') && eqL zs zs'

end Go.Proofs.Yteaiemckcepphaa
