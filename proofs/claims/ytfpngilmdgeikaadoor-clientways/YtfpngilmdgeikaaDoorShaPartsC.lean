/-
  What Parts answers: SHA-256 of all that its parts read as, one behind the other, in new memory; nothing that was there turns.
-/
import Derived.Test.YtfpngilmdgeikaaDoorShaAll
import Derived.Test.YtfpngilmdgeikaaDoorMemB
namespace Go.Proofs.YtfpngilmdgeikaaDoor
open Go.RowKit

set_option maxRecDepth 100000 in
set_option maxHeartbeats 1000000 in
theorem parts_any (ls : List (List (BitVec 8))) (sv : Value) (N : Nat) (w : World) (hN : N ≤ w.heap.size) (hb : Lists w N sv ls) (hK : tableAt w) (hlen : ls.flatten.length < 2305843009213693952) (hn : ls.length < 2305843009213693952) :
    Calls Tryd.prog 181 #[sv] w fun e w' =>
      ∃ v, e = .returned v ∧ w'.ownsRow w.heap.size 5 1 v 32 ((sha ls.flatten).map V) ∧ Below w.heap.size w w' := by
  obtain ⟨oa, cap, rfl, hcap⟩ := hb.shape
  have hzv := zero_dig
  have HBY := hid hb
  have HK := hid hK
  have HLEN := hid hlen
  clear hb hK hlen
  go_enter Tryd.func181, Tryd.ntmps181
  go_wp2_with fail
  refine (begin_any _).mono ?_
  rintro e w1 ⟨rfl, hb1⟩
  have HB1 := hid hb1
  clear hb1
  go_wp2_with (refine wpList_store_row rfl 133 _ _ rfl w1.heap.size dig0.toArray rfl rfl 133 digZ.toArray (heap_alloc_new _ _) info_dig0 digZ_dig0 dig0_all ?_)
  obtain ⟨w2, hw2⟩ : ∃ w2, World.setRow (w1.alloc (.cells digZ.toArray 133)) w1.heap.size dig0.toArray = w2 := ⟨_, rfl⟩
  rw [hw2]
  have hrow2 : Row w2 w1.heap.size 133 (digOf [] (List.replicate 64 0)) := by
    rw [← hw2, digOf_nil]; exact setRow_heap _ _ digZ.toArray _ _ _ (heap_alloc_new _ _)
  have hbel2 : Below w1.heap.size w1 w2 := by
    rw [← hw2]; exact ((Below.refl _ _).alloc (Nat.le_refl _) _).trans ⟨rfl, rfl, rfl, by simp, fun k hk => setRow_other _ _ _ _ (by omega)⟩
  have hsz1 := HB1.out.size
  have hbel02 : Below w.heap.size w w2 := HB1.out.trans (hbel2.mono hsz1)
  have hne : w1.heap.size ≠ 0 := by have := HK.out.lt; omega
  have HR2 := hid hrow2
  have HB02 := hid hbel02
  have HNE := hid hne
  clear hbel02 hrow2 hbel2 hw2 hne
  generalize hn0 : ls.length = n at *
  have HN0 := hid hn0
  clear hn0
  go_loopw [9] (fun i wr => ∃ (k : Nat) (R' : List (BitVec 8)), k ≤ n ∧ i = .int .i64 k ∧ Abs (ls.take k).flatten R' ∧ Row wr w1.heap.size 133 (digOf (ls.take k).flatten R') ∧ w2.grownBy wr (some w1.heap.size)) (fun i _ => n - (intOf i).toNat)
  case atStart => exact ⟨0, _, by omega, rfl, abs_nil, HR2.out, grown_refl _ _⟩
  case round =>
    obtain ⟨k, R', hk, rfl, hA, hrow, hgr⟩ := hrel
    have hltr := hrow.lt
    have hltb := HR2.out.lt
    have hbelr : Below w.heap.size w wr := HB02.out.trans (below_grown hgr hsz1 (by omega))
    by_cases hlt : k < n
    · have h1 : Lists w N (.slice oa ls.length cap) ls := by rw [HN0.out]; exact HBY.out
      obtain ⟨b, off, rfl, hc⟩ := h1.some (by rw [HN0.out]; omega)
      obtain ⟨hbN, x, hx, hbx⟩ := hc k (by rw [HN0.out]; exact hlt)
      have hxr : wr.cell? ⟨b, off + k, none⟩ = some x := (hbelr.cell (by show b < w.heap.size; omega)).trans hx
      have hfl := flatten_take_succ ls k (by rw [HN0.out]; exact hlt)
      have hle := flatten_take_le ls (k + 1)
      have htake := take_any (ls.take k).flatten (ls.getD k []) R' x N w1.heap.size wr hA hrow (by omega) HNE.out (hbx.below (hbelr.mono hN)) (HK.out.below hbelr HK.out.lt) (by have h2 := HLEN.out; rw [hfl, List.length_append] at hle; omega)
      rw [← hfl] at htake
      have HTK := hid htake
      have HG := hid hgr
      clear htake hle hfl hbx hx hA hrow hgr h1 hc hbelr
      have hlt' : (k : Int) < (n : Int) := by omega
      go_wp2_with (go_at_call 103; refine HTK.out.mono ?_; rintro e w5 ⟨rfl, hg5, R5, hA5, hrow5⟩)
      go_roundw
      case rel => exact ⟨k + 1, R5, by omega, by go_num, hA5, hrow5, grown_trans HG.out hg5⟩
      case measure => simp [intOf]; omega
    · have hkn : k = n := by omega
      subst hkn
      have hall : ls.take k = ls := List.take_of_length_le (by rw [HN0.out]; omega)
      rw [hall] at hA hrow
      have hfin := finish_any ls.flatten R' w1.heap.size wr hA hrow HNE.out (HK.out.below hbelr HK.out.lt) HLEN.out
      have HFIN := hid hfin
      have HBR := hid hbelr
      clear hfin hA hrow hgr hbelr hall
      go_wp2_with fail
      refine HFIN.out.mono ?_
      rintro e w6 ⟨v, rfl, hown, hg6⟩
      go_wp2
      go_ret
      have hsr := HBR.out.size
      exact ⟨_, rfl, ownsRow_mono hown hsr, HBR.out.trans (below_grown hg6 hsz1 hsr)⟩
end Go.Proofs.YtfpngilmdgeikaaDoor
