/-
  Chapter 8: TagIn as its exact law asks it.
-/
import Derived.Test.YtbgcpdhaihfmpaaTagA
import Derived.Test.YtbgcpdhaihfmpaaLawTagIn
namespace Go.Proofs.Ytbgcpdhaihfmpaa
open Go.RowKit

theorem specTagIn_c : CtrTagIn 4 (fun _ => True) := fun s W _ hs => specTagIn_at ⟨s.toArray⟩ W (by show s.toArray.size ≤ _; simpa using hs)

theorem implTagIn_c : CtrTagIn 5 Mx := fun s W hM hs => implTagIn_at ⟨s.toArray⟩ W hM (by show s.toArray.size ≤ _; simpa using hs)

end Go.Proofs.Ytbgcpdhaihfmpaa
