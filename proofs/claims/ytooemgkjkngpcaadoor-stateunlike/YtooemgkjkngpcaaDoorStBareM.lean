/-
  What reads as a state that is bare.
-/
import Derived.Test.YtooemgkjkngpcaaDoorStSame
namespace Go.Proofs.YtooemgkjkngpcaaDoor
open Go.RowKit

/-- what is shown of a state -/
def bareS (s : St) : St := ⟨⟨#[]⟩, 0, 0, [], s.conns, s.chans.map bareCh, s.sent, s.got, s.acks, []⟩
/-- a bare state's cells -/
structure BareM (w : World) (N : Nat) (s : St) (v2 v3 v4 v5 v6 : Value) : Prop where
  conns : Many CnR 4 w N v2 s.conns
  chans : Many ChR 7 w N v3 (s.chans.map bareCh)
  sent : Many MkR 3 w N v4 s.sent
  got : Many MkR 3 w N v5 s.got
  acks : Many MkR 3 w N v6 s.acks
theorem BareM.below {w w' : World} {N : Nat} {s : St} {v2 v3 v4 v5 v6 : Value} (h : BareM w N s v2 v3 v4 v5 v6) (hg : Below N w w') : BareM w' N s v2 v3 v4 v5 v6 :=
  ⟨h.conns.below CnR.stays hg, h.chans.below ChR.stays hg, h.sent.below MkR.stays hg, h.got.below MkR.stays hg, h.acks.below MkR.stays hg⟩
theorem BareM.mono {w : World} {N M : Nat} {s : St} {v2 v3 v4 v5 v6 : Value} (h : BareM w N s v2 v3 v4 v5 v6) (hN : N ≤ M) : BareM w M s v2 v3 v4 v5 v6 :=
  ⟨h.conns.mono CnR.stays hN, h.chans.mono ChR.stays hN, h.sent.mono MkR.stays hN, h.got.mono MkR.stays hN, h.acks.mono MkR.stays hN⟩
end Go.Proofs.YtooemgkjkngpcaaDoor
