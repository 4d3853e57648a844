/-
  What package state's entries answers: what makes the book of a state.
-/
import Derived.Test.YtooemgkjkngpcaaDoorStEntR
namespace Go.Proofs.YtooemgkjkngpcaaDoor
open Go.RowKit

set_option maxRecDepth 100000 in
set_option maxHeartbeats 4000000 in
theorem putMarks_any (kind : ByteArray) (ms : List Mk) (sv : Value) (l : List Dg) (base N go gp : Nat) (w : World) (hE : Ents w base N go l) (hrp : Row w gp 85 [.func (.func 38) #[] #[.pointer (some ⟨go, 0, none⟩)]]) (hne : gp ≠ go) (hN : N ≤ base) (hgo : base ≤ go) (hbw : base ≤ w.heap.size) (hv : Many MkR 3 w N sv ms) (hm : ∀ m ∈ ms, wrongMk m = 0) (hlen : l.length + ms.length ≤ 900) (hkl : kind.size ≤ 100) (hT : ∀ w', Below base w w' → powAt w') :
    Calls Tryd.prog 39 #[.string kind, sv, .pointer (some ⟨gp, 0, none⟩)] w fun e w' => e = .returned (.tuple #[]) ∧ Ents w' base N go (l ++ ms.map (entMk (lets kind))) ∧ Below base w w' ∧ KeptD go w w' := by
  obtain ⟨oa, ca, rfl, hca⟩ := hv.shape
  have HV := hid hv
  have HM := hid hm
  have HTT := hid hT
  have HRP := hid hrp
  have HE := hid hE
  clear hv hm hT hrp hE
  generalize hn : ms.length = n at *
  have HN := hid hn
  clear hn
  go_enter Tryd.func39, Tryd.ntmps39
  go_wp2_with fail
  go_loopw [6, 9] (fun _ i wr => ∃ k : Nat, k ≤ n ∧ i = .int .i64 (k : Int) ∧ Hid (Ents wr base N go (l ++ (ms.take k).map (entMk (lets kind))) ∧ Below base w wr ∧ KeptD go w wr)) (fun _ i _ => n - (intOf i).toNat)
  case atStart => exact ⟨0, by omega, rfl, hid ⟨by have := HE.out; simpa using this, Below.refl _ _, KeptD.refl _ _⟩⟩
  case round =>
    obtain ⟨k, hk, rfl, HT⟩ := hrel
    have HEN := hid HT.out.1
    have HBW := hid HT.out.2.1
    have HKW := hid HT.out.2.2
    have hszw := HBW.out.size
    clear HT
    by_cases hlt : k < n
    · obtain ⟨x, hx⟩ : ∃ x, ms[k]? = some x := ⟨ms[k]'(by rw [HN.out]; exact hlt), List.getElem?_eq_getElem _⟩
      obtain ⟨b, o, rfl, hcells⟩ := HV.out.spot (by omega)
      obtain ⟨hbN, r, hr, hc⟩ := hcells k x hx
      obtain ⟨dv, rfl, hdv⟩ := hr
      obtain ⟨od, cd, rfl, -⟩ := hdv.shape
      have hbl : b < base := by omega
      have f0 := (HBW.out.cell (p := ⟨b, o + k * 3 + 0, none⟩) hbl).trans (hc 0 _ rfl)
      have f1 := (HBW.out.cell (p := ⟨b, o + k * 3 + 1, none⟩) hbl).trans (hc 1 _ rfl)
      have f2 := (HBW.out.cell (p := ⟨b, o + k * 3 + 2, none⟩) hbl).trans (hc 2 _ rfl)
      simp only [Nat.add_zero] at f0
      have hlt' : (k : Int) < (n : Int) := by omega
      obtain ⟨w2, hw2⟩ : ∃ w2, wr.alloc (.cells #[.int .i64 x.chan, .int .i64 x.seq, .slice od x.dig.length cd] 67) = w2 := ⟨_, rfl⟩
      have hbr2 : Below wr.heap.size wr w2 := by rw [← hw2]; exact (Below.refl _ _).alloc (Nat.le_refl _) _
      have HB2 := hid (HBW.out.trans (hbr2.mono (show base ≤ wr.heap.size by omega)))
      have HRM := hid (show Row w2 wr.heap.size 67 [.int .i64 x.chan, .int .i64 x.seq, .slice od x.dig.length cd] by rw [← hw2]; exact Row.new _ _ _)
      have HE2 := hid (HEN.out.below hN (show base ≤ wr.heap.size by omega) hbr2)
      have HK2 := hid (HKW.out.trans (KeptD.of_below (go := go) hbr2))
      have HW2 := hid hw2
      have HDG := hid (hdv.below (HB2.out.mono hN))
      have HWX := hid (HM.out x (List.mem_of_getElem? hx))
      have HTK := hid (show l ++ (ms.take (k + 1)).map (entMk (lets kind)) = l ++ (ms.take k).map (entMk (lets kind)) ++ [entMk (lets kind) x] by rw [List.take_add_one, hx]; simp)
      have HLK := hid (show (l ++ (ms.take k).map (entMk (lets kind))).length ≤ 1000 by simp; omega)
      have HRP2 := hid (HRP.out.keptD HK2.out hne (by decide))
      clear hbr2 hw2 hcells hc hx hdv
      go_upto_region 3 with fail
      rw [HW2.out]
      refine markRegion (l ++ (ms.take k).map (entMk (lets kind))) kind x od cd HRP2 HE2 hN hgo (Nat.le_trans hbw HB2.out.size) HLK.out (hid (HTT.out _ HB2.out)) HRM HWX HDG hkl _ (hid ?_)
      intro σ3 w3 hE3 hb3 hk3
      have HE3 := hid hE3
      have HB3 := hid (HB2.out.trans hb3)
      have HK3 := hid (HK2.out.trans hk3)
      clear hE3 hb3 hk3
      go_wp2
      go_roundw
      case rel => exact ⟨k + 1, by omega, by go_num, hid ⟨by rw [HTK.out]; exact HE3.out, HB3.out, HK3.out⟩⟩
      case measure => simp [intOf]; omega
    · have hge : decide ((k : Int) < (n : Int)) = false := by simp; omega
      have HEE := hid (show ms.take k = ms from List.take_of_length_le (by rw [HN.out]; omega))
      go_wp2
      refine bodyPost_end (v := .tuple #[]) (by simp [results, Tryd.results39, go_sem]) rfl ⟨rfl, by have := HEN.out; rw [HEE.out] at this; exact this, HBW.out, HKW.out⟩
end Go.Proofs.YtooemgkjkngpcaaDoor
