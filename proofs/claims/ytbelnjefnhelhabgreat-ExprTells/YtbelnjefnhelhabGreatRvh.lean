/-
  The document's ValueOf: of an expression with Args.
-/
import Derived.Test.YtbelnjefnhelhabGreatRcp
import Derived.Test.YtbelnjefnhelhabGreatRv9
namespace Go.Proofs.YtbelnjefnhelhabGreat
open Go.RowKit

theorem bytes_cat (a b : List UInt8) : ((⟨a.toArray⟩ : ByteArray) ++ ⟨b.toArray⟩) = ⟨(a ++ b).toArray⟩ := by
  apply ByteArray.ext
  simp
theorem opR_3 (a b : Vl) : opR 3 a b = if a.k = 0 ∨ b.k = 0 then vl0 else truthV (decide (a.n = 0)) := by simp [opR]
theorem opR_4 (a b : Vl) : opR 4 a b = truthV (decide (a.k = 0)) := by simp [opR]
theorem opR_5 (a b : Vl) : opR 5 a b = if a.k = 3 ∧ a.n = 0 ∨ b.k = 3 ∧ b.n = 0 then truthV false else if a.k = 0 ∨ b.k = 0 then vl0 else truthV true := by simp [opR]
theorem opR_6 (a b : Vl) : opR 6 a b = if a.k = 3 ∧ a.n = 1 ∨ b.k = 3 ∧ b.n = 1 then truthV true else if a.k = 0 ∨ b.k = 0 then vl0 else truthV false := by simp [opR]
theorem opR_7 (a b : Vl) : opR 7 a b = if a.k = 0 ∨ b.k = 0 then vl0 else if isInt (a.n + b.n) = true then ⟨1, a.n + b.n, []⟩ else vl0 := by simp [opR]
theorem opR_8 (a b : Vl) : opR 8 a b = if a.k = 0 ∨ b.k = 0 then vl0 else if isInt (a.n - b.n) = true then ⟨1, a.n - b.n, []⟩ else vl0 := by simp [opR]
theorem opR_9 (a b : Vl) : opR 9 a b = if a.k = 0 ∨ b.k = 0 then vl0 else if 20 < a.s.length + b.s.length then vl0 else ⟨2, 0, a.s ++ b.s⟩ := by simp [opR]
theorem opR_10 (a b : Vl) : opR 10 a b = if a.k = 0 ∨ b.k = 0 then vl0 else truthV (decide (ordV a.k a.n a.s b.k b.n b.s < 0)) := by simp [opR]
theorem opR_11 (a b : Vl) : opR 11 a b = if a.k = 0 ∨ b.k = 0 then vl0 else truthV (decide (ordV a.k a.n a.s b.k b.n b.s = 0)) := by simp [opR]

end Go.Proofs.YtbelnjefnhelhabGreat
