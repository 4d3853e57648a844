/-
  What Parts answers: SHA-256 of all that its parts read as, one behind the other, in new memory; nothing that was there turns.
-/
import Derived.Test.YtedjmhiocmefiaaDoorShaBase
namespace Go.Proofs.YtedjmhiocmefiaaDoor
open Go.RowKit

/-- sv is a slice of slices that read as ls -/
def Lists (w : World) (N : Nat) (sv : Value) (ls : List (List (BitVec 8))) : Prop :=
  (sv = .slice none 0 0 ∧ ls = []) ∨ (∃ a cap, sv = .slice (some a) 0 cap ∧ ls = []) ∨ ∃ b off cap, sv = .slice (some ⟨b, off, none⟩) ls.length cap ∧ ls.length ≤ cap ∧
    ∀ i, i < ls.length → b < N ∧ ∃ x, w.cell? ⟨b, off + i, none⟩ = some x ∧ Bytes w N x (ls.getD i [])
theorem Lists.shape {w : World} {N : Nat} {sv : Value} {ls : List (List (BitVec 8))} (h : Lists w N sv ls) : ∃ oa cap, sv = .slice oa ls.length cap ∧ ls.length ≤ cap := by
  rcases h with ⟨rfl, rfl⟩ | ⟨a, cap, rfl, rfl⟩ | ⟨b, off, cap, rfl, hc, _⟩
  · exact ⟨none, 0, rfl, Nat.le_refl _⟩
  · exact ⟨_, cap, rfl, Nat.zero_le _⟩
  · exact ⟨_, cap, rfl, hc⟩
theorem Lists.some {w : World} {N : Nat} {oa : Option Addr} {cap : Nat} {ls : List (List (BitVec 8))} (h : Lists w N (.slice oa ls.length cap) ls) (hl : 0 < ls.length) :
    ∃ b off, oa = some ⟨b, off, none⟩ ∧ ∀ i, i < ls.length → b < N ∧ ∃ x, w.cell? ⟨b, off + i, none⟩ = some x ∧ Bytes w N x (ls.getD i []) := by
  rcases h with ⟨_, rfl⟩ | ⟨_, _, _, rfl⟩ | ⟨b, off, c, h1, _, h3⟩
  · simp at hl
  · simp at hl
  · simp at h1
    exact ⟨b, off, h1.1, h3⟩
theorem Lists.below {w w' : World} {N : Nat} {sv : Value} {ls : List (List (BitVec 8))} (h : Lists w N sv ls) (hg : Below N w w') : Lists w' N sv ls := by
  rcases h with h | h | ⟨b, off, cap, h1, h2, h3⟩
  · exact .inl h
  · exact .inr (.inl h)
  · refine .inr (.inr ⟨b, off, cap, h1, h2, fun i hi => ?_⟩)
    obtain ⟨h4, x, h5, h6⟩ := h3 i hi
    exact ⟨h4, x, (hg.cell h4).trans h5, h6.below hg⟩
theorem flatten_take_succ (ls : List (List (BitVec 8))) (k : Nat) (h : k < ls.length) : (ls.take (k + 1)).flatten = (ls.take k).flatten ++ ls.getD k [] := by
  have e : ls.getD k [] = ls[k] := by simp [h]
  have e2 : [ls[k]].flatten = ls[k] := by simp
  rw [List.take_succ_eq_append_getElem h, List.flatten_append, e, e2]
theorem flatten_take_le (ls : List (List (BitVec 8))) : ∀ k, (ls.take k).flatten.length ≤ ls.flatten.length := by
  induction ls with
  | nil => intro k; simp
  | cons x r ih =>
    intro k
    cases k with
    | zero => simp
    | succ k => have := ih k; simp at this ⊢; omega

set_option maxRecDepth 100000 in
set_option maxHeartbeats 1000000 in
theorem parts_any (ls : List (List (BitVec 8))) (sv : Value) (N : Nat) (w : World) (hN : N ≤ w.heap.size) (hb : Lists w N sv ls) (hK : tableAt w) (hlen : ls.flatten.length < 2305843009213693952) (hn : ls.length < 2305843009213693952) :
    Calls Tryd.prog 13 #[sv] w fun e w' =>
      ∃ v, e = .returned v ∧ w'.ownsRow w.heap.size 5 1 v 32 ((sha ls.flatten).map V) ∧ Below w.heap.size w w' := by
  obtain ⟨oa, cap, rfl, hcap⟩ := hb.shape
  have hzv := zero_dig
  have HBY := hid hb
  have HK := hid hK
  have HLEN := hid hlen
  clear hb hK hlen
  go_enter Tryd.func13, Tryd.ntmps13
  go_wp2_with fail
  refine (begin_any _).mono ?_
  rintro e w1 ⟨rfl, hb1⟩
  have HB1 := hid hb1
  clear hb1
  go_wp2_with (refine wpList_store_row rfl 44 _ _ rfl w1.heap.size dig0.toArray rfl rfl 44 digZ.toArray (heap_alloc_new _ _) info_dig0 digZ_dig0 dig0_all ?_)
  obtain ⟨w2, hw2⟩ : ∃ w2, World.setRow (w1.alloc (.cells digZ.toArray 44)) w1.heap.size dig0.toArray = w2 := ⟨_, rfl⟩
  rw [hw2]
  have hrow2 : Row w2 w1.heap.size 44 (digOf [] (List.replicate 64 0)) := by
    rw [← hw2, digOf_nil]; exact setRow_heap _ _ digZ.toArray _ _ _ (heap_alloc_new _ _)
  have hbel2 : Below w1.heap.size w1 w2 := by
    rw [← hw2]; exact ((Below.refl _ _).alloc (Nat.le_refl _) _).trans ⟨rfl, rfl, rfl, by simp, fun k hk => setRow_other _ _ _ _ (by omega)⟩
  have hsz1 := HB1.out.size
  have hbel02 : Below w.heap.size w w2 := HB1.out.trans (hbel2.mono hsz1)
  have hne : w1.heap.size ≠ 0 := by have := HK.out.lt; omega
  have HR2 := hid hrow2
  have HB02 := hid hbel02
  have HNE := hid hne
  clear hbel02 hrow2 hbel2 hw2 hne
  generalize hn0 : ls.length = n at *
  have HN0 := hid hn0
  clear hn0
  go_loopw [9] (fun i wr => ∃ (k : Nat) (R' : List (BitVec 8)), k ≤ n ∧ i = .int .i64 k ∧ Abs (ls.take k).flatten R' ∧ Row wr w1.heap.size 44 (digOf (ls.take k).flatten R') ∧ w2.grownBy wr (some w1.heap.size)) (fun i _ => n - (intOf i).toNat)
  case atStart => exact ⟨0, _, by omega, rfl, abs_nil, HR2.out, grown_refl _ _⟩
  case round =>
    obtain ⟨k, R', hk, rfl, hA, hrow, hgr⟩ := hrel
    have hltr := hrow.lt
    have hltb := HR2.out.lt
    have hbelr : Below w.heap.size w wr := HB02.out.trans (below_grown hgr hsz1 (by omega))
    by_cases hlt : k < n
    · have h1 : Lists w N (.slice oa ls.length cap) ls := by rw [HN0.out]; exact HBY.out
      obtain ⟨b, off, rfl, hc⟩ := h1.some (by rw [HN0.out]; omega)
      obtain ⟨hbN, x, hx, hbx⟩ := hc k (by rw [HN0.out]; exact hlt)
      have hxr : wr.cell? ⟨b, off + k, none⟩ = some x := (hbelr.cell (by show b < w.heap.size; omega)).trans hx
      have hfl := flatten_take_succ ls k (by rw [HN0.out]; exact hlt)
      have hle := flatten_take_le ls (k + 1)
      have htake := take_any (ls.take k).flatten (ls.getD k []) R' x N w1.heap.size wr hA hrow (by omega) HNE.out (hbx.below (hbelr.mono hN)) (HK.out.below hbelr HK.out.lt) (by have h2 := HLEN.out; rw [hfl, List.length_append] at hle; omega)
      rw [← hfl] at htake
      have HTK := hid htake
      have HG := hid hgr
      clear htake hle hfl hbx hx hA hrow hgr h1 hc hbelr
      have hlt' : (k : Int) < (n : Int) := by omega
      go_wp2_with (go_at_call 23; refine HTK.out.mono ?_; rintro e w5 ⟨rfl, hg5, R5, hA5, hrow5⟩)
      go_roundw
      case rel => exact ⟨k + 1, R5, by omega, by go_num, hA5, hrow5, grown_trans HG.out hg5⟩
      case measure => simp [intOf]; omega
    · have hkn : k = n := by omega
      subst hkn
      have hall : ls.take k = ls := List.take_of_length_le (by rw [HN0.out]; omega)
      rw [hall] at hA hrow
      have hfin := finish_any ls.flatten R' w1.heap.size wr hA hrow HNE.out (HK.out.below hbelr HK.out.lt) HLEN.out
      have HFIN := hid hfin
      have HBR := hid hbelr
      clear hfin hA hrow hgr hbelr hall
      go_wp2_with fail
      refine HFIN.out.mono ?_
      rintro e w6 ⟨v, rfl, hown, hg6⟩
      go_wp2
      go_ret
      have hsr := HBR.out.size
      exact ⟨_, rfl, ownsRow_mono hown hsr, HBR.out.trans (below_grown hg6 hsz1 hsr)⟩
end Go.Proofs.YtedjmhiocmefiaaDoor
