/-
  What app.obey answers.
-/
import Derived.Test.YtbjlfhabnjpdmaaGreatDoorlaApKit
import Derived.Test.YtbjlfhabnjpdmaaGreatDoorlaApFit
import Derived.Test.YtbjlfhabnjpdmaaGreatDoorlaApGiveM
namespace Go.Proofs.YtbjlfhabnjpdmaaGreatDoor
open Go.RowKit

/-- what came of a message, told -/
def OutV (N base : Nat) (w : World) (x : Value) (O : Out) : Prop := ∃ v od nd cd, x = .tuple #[v, .agg #[.int .i64 O.err, .int .i64 O.num, .int .i64 O.pk.src, .int .i64 O.pk.dst, .int .i64 O.pk.seq, .slice od nd cd, .int .i64 O.pk.tmo]] ∧ HoldsS N base w v O.st ∧ HoldsP N base w (.agg #[.int .i64 O.pk.src, .int .i64 O.pk.dst, .int .i64 O.pk.seq, .slice od nd cd, .int .i64 O.pk.tmo]) O.pk
theorem HoldsP.only {N base g : Nat} {w w2 : World} {v : Value} {t : Pk} (h : HoldsP N base w v t) (O : Only g w w2) (h1 : N ≤ g) (h2 : g < base) : HoldsP N base w2 v t :=
  (Held.on h O.below fun b hb => O.same b (by omega)).wide (fun _ hb => ⟨hb.1, by rw [O.size]; exact hb.2⟩) (fun _ hb => hb.2)
theorem HoldsP.lower {N base base' : Nat} {w : World} {v : Value} {t : Pk} (h : HoldsP N base w v t) (hb : base' ≤ base) : HoldsP N base' w v t := Held.wide h (fun _ hF => ⟨hF.1.imp id (Nat.le_trans hb), hF.2⟩) (fun _ hF => hF.2)
theorem HoldsP.below {N base : Nat} {w w2 : World} {v : Value} {t : Pk} (h : HoldsP N base w v t) (hb : Below w.heap.size w w2) : HoldsP N base w2 v t :=
  (Held.below h hb).wide (fun _ hF => ⟨hF.1, Nat.lt_of_lt_of_le hF.2 hb.size⟩) (fun _ hF => hF.2)
theorem HoldsP.past {N base : Nat} {w w2 : World} {v : Value} {t : Pk} (h : HoldsP N base w v t) (hb : Below 0 w w2) (hk : ∀ b, b < w.heap.size → b < N ∨ base ≤ b → w2.heap[b]? = w.heap[b]?) : HoldsP N base w2 v t :=
  (Held.on h hb fun b hF => hk b hF.2 hF.1).wide (fun _ hF => ⟨hF.1, Nat.lt_of_lt_of_le hF.2 hb.size⟩) (fun _ hF => hF.2)
/-- a value that reads as a state, in the open -/
theorem HoldsS.open {N base : Nat} {w : World} {v : Value} {t : St} (h : HoldsS N base w v t) : ∃ o1 n1 c1 o2 n2 c2 o3 n3 c3 o4 n4 c4 o5 n5 c5 o6 n6 c6 o7 n7 c7, v = .agg #[.string t.name, .int .i64 t.height, .int .i64 t.time, .slice o1 n1 c1, .slice o2 n2 c2, .slice o3 n3 c3, .slice o4 n4 c4, .slice o5 n5 c5, .slice o6 n6 c6, .slice o7 n7 c7] := by
  obtain ⟨o1, c1, o2, c2, o3, c3, o4, c4, o5, c5, o6, c6, o7, c7, rfl, -⟩ := h.now.open
  exact ⟨o1, _, c1, o2, _, c2, o3, _, c3, o4, _, c4, o5, _, c5, o6, _, c6, o7, _, c7, rfl⟩
end Go.Proofs.YtbjlfhabnjpdmaaGreatDoor
