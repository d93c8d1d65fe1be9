/-
  Chapter 6: what a scope covers, what a filter admits.
-/
import Derived.Test.YtidjebepgpbcnaaFilG
namespace Go.Proofs.Ytidjebepgpbcnaa
open Go.RowKit

def coversB (s : Scp) (sel nm : List UInt8) : Bool :=
  if s.kind = 1 then nm == sel && !(nm == []) else if s.kind = 2 then nameB nm else if s.kind = 3 then s.names.any (underB nm) else if s.kind = 4 then s.names.any (· == nm) else false
def admitB (sel nm : List UInt8) (ev : Int) (s : Scp) : Bool := !(bits .and .i64 s.events ev == 0) && coversB s sel nm
def admitsB (f : Flt) (sel nm : List UInt8) (ev : Int) : Bool := f.on && f.scopes.any (admitB sel nm ev)

end Go.Proofs.Ytidjebepgpbcnaa
