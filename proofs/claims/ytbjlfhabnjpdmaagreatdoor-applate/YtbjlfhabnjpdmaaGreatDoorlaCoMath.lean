/-
  What comes of the steps of a connection.
-/
import Derived.Test.YtbjlfhabnjpdmaaGreatDoorlaStCopy
import Derived.Test.YtbjlfhabnjpdmaaGreatDoorlaPairsAll
import Derived.Test.YtbjlfhabnjpdmaaGreatDoorlaBookMath
import Derived.Test.YtbjlfhabnjpdmaaGreatDoorlaBookTree
import Derived.Test.YtbjlfhabnjpdmaaGreatDoorlaShaAll
import Derived.Test.YtbjlfhabnjpdmaaGreatDoorlaSameB
import Derived.Test.YtbjlfhabnjpdmaaGreatDoorlaClAsk
import Derived.Deep.RegionLaw
import Derived.Deep.RegionHeld3
import Derived.Lib.BytesEntry
import Derived.Lib.Bytealg
import Derived.Laws.Externs
import Derived.Lib.SliceRun
namespace Go.Proofs.YtbjlfhabnjpdmaaGreatDoor
open Go.RowKit

/-- what is shown of the other chain -/
structure Sh where
  height : Int
  prf : Prf
  gap : Gp
def Sh.fits (h : Sh) : Prop := h.prf.fits ∧ h.gap.fits

/-- a right state's pieces -/
theorem wrongS_name {s : St} (h : wrongS s = 0) : nameB s.name = true ∧ (fromB 0 s.height = true ∧ fromB 0 s.time = true) ∧ manyB s = false ∧ deepS s = 0 := by
  unfold wrongS at h
  split at h
  · cases h
  split at h
  · cases h
  split at h
  · cases h
  rename_i h1 h2 h3
  refine ⟨by simpa using h1, ?_, by simpa using h3, h⟩
  cases e1 : fromB 0 s.height <;> cases e2 : fromB 0 s.time <;> simp_all
theorem wrongS_client {s : St} (h : wrongS s = 0) : ∀ c ∈ s.clients, wrongCl c = 0 := by
  have h' := (orN_iff _).1 (wrongS_name h).2.2.2
  simp only [List.mem_cons, List.not_mem_nil, or_false, forall_eq_or_imp, forall_eq] at h'
  exact (firstW_iff _ _).1 h'.1
theorem wrongS_few {s : St} (h : wrongS s = 0) : few s := by
  have h3 := (wrongS_name h).2.2.1
  unfold manyB at h3
  have h4 := of_decide_eq_false h3
  exact ⟨by omega, by omega, by omega, by omega, by omega, by omega, by omega, fun c hc => by have := ((wrongCl_iff c).1 (wrongS_client h c hc)).2.2.1; omega⟩
/-- what reads as a state: below N, or from base on -/
def HoldsS (N base : Nat) (w : World) (v : Value) (t : St) : Prop := Held (fun b => (b < N ∨ base ≤ b) ∧ b < w.heap.size) w (fun w2 => StV w2 w2.heap.size v t)
theorem HoldsS.now {N base : Nat} {w : World} {v : Value} {t : St} (h : HoldsS N base w v t) : StV w w.heap.size v t := Held.now h
theorem HoldsS.on {N base : Nat} {w w2 : World} {v : Value} {t : St} (h : HoldsS N base w v t) (hb : Below 0 w w2) (hk : ∀ b, b < w.heap.size → b < N ∨ base ≤ b → w2.heap[b]? = w.heap[b]?) : HoldsS N base w2 v t :=
  (Held.on h hb (fun b hF => hk b hF.2 hF.1)).wide (fun _ hF => ⟨hF.1, Nat.lt_of_lt_of_le hF.2 hb.size⟩) (fun _ hF => hF.2)
theorem HoldsS.below {N base : Nat} {w w2 : World} {v : Value} {t : St} (h : HoldsS N base w v t) (hb : Below w.heap.size w w2) : HoldsS N base w2 v t := h.on (hb.mono (Nat.zero_le _)) (fun b hlt _ => hb.block b hlt)
theorem HoldsS.lower {N base base' : Nat} {w : World} {v : Value} {t : St} (h : HoldsS N base w v t) (hb : base' ≤ base) : HoldsS N base' w v t := Held.wide h (fun _ hF => ⟨hF.1.imp id (Nat.le_trans hb), hF.2⟩) (fun _ hF => hF.2)
theorem setRow_below {B g : Nat} {w0 w : World} (hb : Below B w0 w) (hg : B ≤ g) (cs : Array Value) : Below B w0 (w.setRow g cs) := hb.trans ⟨rfl, rfl, rfl, by simp, fun k hk => setRow_other w g k cs (by omega)⟩
theorem HoldsS.row {N base : Nat} {w : World} {v : Value} {t : St} (h : HoldsS N base w v t) {g : Nat} (h1 : N ≤ g) (h2 : g < base) (cs : Array Value) : HoldsS N base (w.setRow g cs) v t :=
  h.on (setRow_below (Below.refl 0 w) (Nat.zero_le _) cs) (fun b _ hlt => setRow_other w g b cs (by omega))
theorem HoldsS.setCell {N base : Nat} {w : World} {v : Value} {t : St} (h : HoldsS N base w v t) {a : Addr} (h1 : N ≤ a.block) (h2 : a.block < base) (x : Value) : HoldsS N base (w.setCell a x) v t :=
  h.on ((Below.refl 0 w).setCell (Nat.zero_le _) x) (fun b _ hlt => Below.heap_setCell _ _ _ _ (by omega))
theorem stV_none (w : World) (N : Nat) : StV w N (.agg #[.string ⟨#[]⟩, .int .i64 0, .int .i64 0, .slice none 0 0, .slice none 0 0, .slice none 0 0, .slice none 0 0, .slice none 0 0, .slice none 0 0, .slice none 0 0]) St.none := ⟨_, _, _, _, _, _, _, rfl, Many.nil _ _ _ _, Many.nil _ _ _ _, Many.nil _ _ _ _, Many.nil _ _ _ _, Many.nil _ _ _ _, Many.nil _ _ _ _, Many.nil _ _ _ _⟩
theorem holdsS_none (N base : Nat) (w : World) : HoldsS N base w (.agg #[.string ⟨#[]⟩, .int .i64 0, .int .i64 0, .slice none 0 0, .slice none 0 0, .slice none 0 0, .slice none 0 0, .slice none 0 0, .slice none 0 0, .slice none 0 0]) St.none := ⟨fun _ h => h.2, fun w2 _ _ => stV_none w2 _⟩
theorem StOwn.holds {N base : Nat} {w : World} {t : St} {v1 v2 v3 v4 v5 v6 v7 : Value} (h : StOwn N base w t v1 v2 v3 v4 v5 v6 v7) : HoldsS N base w (.agg #[.string t.name, .int .i64 t.height, .int .i64 t.time, v1, v2, v3, v4, v5, v6, v7]) t :=
  ⟨fun _ hb => hb.2, fun _ hb hk => ⟨v1, v2, v3, v4, v5, v6, v7, rfl, (h.on hb (fun b hlt hr => hk b ⟨hr, hlt⟩)).mem⟩⟩
end Go.Proofs.YtbjlfhabnjpdmaaGreatDoor
