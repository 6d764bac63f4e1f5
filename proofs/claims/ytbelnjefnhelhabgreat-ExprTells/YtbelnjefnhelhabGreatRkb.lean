/-
  The document's kindOf: of an expression with Args.
-/
import Derived.Test.YtbelnjefnhelhabGreatRcq
import Derived.BigQuiet
import Derived.Deep.QuietTactic
namespace Go.Proofs.YtbelnjefnhelhabGreat
open Go.RowKit

theorem Tryz.info_int : (Tryz.prog.info? 3).map (fun i => (i.zero, i.size, i.bytes)) = some (some (.int .i64 0), 1, 8) := by kernel_rfl

theorem own1_below {w w' : World} {B : Nat} {v : Value} {n : Nat} {fl : List Value} (h : w.ownsRow B 3 1 v n fl) (hb : Below w.heap.size w w') : w'.ownsRow B 3 1 v n fl := by
  refine ⟨h.1, ?_⟩
  rcases h.2 with h' | ⟨g, cap, cur, hv, hB, hg, r⟩
  · exact .inl h'
  · exact .inr ⟨g, cap, cur, hv, hB, (hb.block g (Array.getElem?_eq_some_iff.1 hg).1).trans hg, r⟩

end Go.Proofs.YtbelnjefnhelhabGreat
