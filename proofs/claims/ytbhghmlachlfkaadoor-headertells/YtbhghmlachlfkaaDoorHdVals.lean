/-
  What Vals answers, the landed one and the document's: what keeps a list from being validators. They turn no memory that was there.
-/
import Derived.Test.YtbhghmlachlfkaaDoorHdMems
import Derived.Deep.QuietTactic
import Derived.BigQuiet
namespace Go.Proofs.YtbhghmlachlfkaaDoor
open Go.RowKit

/-- what Vals is to answer -/
def ValsC (f : FuncId) : Prop := ∀ (l : List Vl) (sv : Value) (N : Nat) (w : World), Vals w N sv l → N ≤ w.heap.size → l.length < 2305843009213693952 →
  Calls Tryd.prog f #[sv] w fun e w' => e = .returned (.int .i64 (valsN l)) ∧ Below w.heap.size w w'
theorem below_drewH (w : World) (n N : Nat) : Below N w (w.drewN n) := ⟨rfl, rfl, rfl, Nat.le_refl _, fun _ _ => rfl⟩
theorem vals_many (l : List Vl) (h : l.length < 1 ∨ 10 < l.length) : valsN l = 5 := by unfold valsN; rw [if_pos h]
theorem vals_few (l : List Vl) (h : ¬ (l.length < 1 ∨ 10 < l.length)) : valsN l = valsGo (prevV l 0) (l.drop 0) := by unfold valsN; rw [if_neg h]; rfl
theorem prevV_zero (l : List Vl) : prevV l 0 = none := rfl
theorem prevV_succ (l : List Vl) (j : Nat) (y : Vl) (h : l[j]? = some y) : prevV l (j + 1) = some y.key := by simp [prevV, h]
set_option maxRecDepth 100000 in
set_option maxHeartbeats 2000000 in
theorem valsC : ValsC 9 := by
  intro l sv N w hb hN hlen
  obtain ⟨oa, ca, rfl, hca⟩ := hb.shape
  have HB := hid hb
  clear hb
  generalize hn : l.length = n at *
  have HN := hid hn
  clear hn
  by_cases h1 : n < 1
  · have e1 : decide ((n : Int) < 1) = true := by simp; omega
    have HV := hid (vals_many l (.inl (by rw [HN.out]; exact h1)))
    go_enter Tryd.func9, Tryd.ntmps9
    go_wp2
    go_ret
    exact ⟨by rw [HV.out]; first | done | rfl, Below.refl _ _⟩
  · have e1 : decide ((n : Int) < 1) = false := by simp; omega
    by_cases h2 : 10 < n
    · have e2 : decide ((10 : Int) < (n : Int)) = true := by simp; omega
      have HV := hid (vals_many l (.inr (by rw [HN.out]; exact h2)))
      go_enter Tryd.func9, Tryd.ntmps9
      go_wp2
      go_ret
      exact ⟨by rw [HV.out]; first | done | rfl, Below.refl _ _⟩
    · have e2 : decide ((10 : Int) < (n : Int)) = false := by simp; omega
      have HV := hid (vals_few l (by rw [HN.out]; omega))
      go_enter Tryd.func9, Tryd.ntmps9
      go_wp2
      go_loopw [3, 4, 15] (fun _ _ i wr => ∃ k : Nat, k ≤ n ∧ i = .int .i64 (k : Int) ∧ Hid (Below w.heap.size w wr ∧ valsN l = valsGo (prevV l k) (l.drop k))) (fun _ _ i _ => n - (intOf i).toNat)
      case atStart => exact ⟨0, by omega, rfl, hid ⟨Below.refl _ _, HV.out⟩⟩
      case round =>
        obtain ⟨k, hk, rfl, HT⟩ := hrel
        have hszr := HT.out.1.size
        by_cases hlt : k < n
        · obtain ⟨v, hv⟩ : ∃ v, l[k]? = some v := ⟨l[k]'(by rw [HN.out]; exact hlt), List.getElem?_eq_getElem _⟩
          obtain ⟨b, o, rfl, hcells⟩ := HB.out.spot (by omega)
          obtain ⟨hbN, d0, d1⟩ := hcells k v hv
          have hbl : b < w.heap.size := by omega
          have f0 := (HT.out.1.cell (p := ⟨b, o + k * 2, none⟩) hbl).trans d0
          have f1 := (HT.out.1.cell (p := ⟨b, o + k * 2 + 1, none⟩) hbl).trans d1
          have HST := hid (valsGo_at l k v hv)
          have hlt' : (k : Int) < (n : Int) := by omega
          obtain ⟨w2, hw2⟩ : ∃ w2, wr.alloc (.cells #[.int .u64 (v.key : Int), .int .u64 (v.power : Int)] 45) = w2 := ⟨_, rfl⟩
          have hbr2 : Below wr.heap.size wr w2 := by rw [← hw2]; exact (Below.refl _ _).alloc (Nat.le_refl _) _
          have HB2 := hid (HT.out.1.trans (hbr2.mono hszr))
          have hrow2 : Row w2 wr.heap.size 45 [.int .u64 (v.key : Int), .int .u64 (v.power : Int)] := by rw [← hw2]; exact Row.new _ _ _
          have q0 := hrow2.cell 0
          have q1 := hrow2.cell 1
          have HW2 := hid hw2
          clear d0 d1 hbr2 hrow2 hw2
          by_cases hp1 : v.power < 1
          · have g1 : decide ((v.power : Int) < 1) = true := by simp; omega
            have HV2 := hid (show valsN l = 3 by rw [HT.out.2, HST.out, if_pos (.inl hp1)])
            go_wp2_with fail
            rw [HW2.out]
            go_wp2
            go_ret
            exact ⟨by rw [HV2.out]; first | done | rfl, HB2.out⟩
          · have g1 : decide ((v.power : Int) < 1) = false := by simp; omega
            by_cases hp2 : 1000000 < v.power
            · have g2 : decide ((1000000 : Int) < (v.power : Int)) = true := by simp; omega
              have HV2 := hid (show valsN l = 3 by rw [HT.out.2, HST.out, if_pos (.inr hp2)])
              go_wp2_with fail
              rw [HW2.out]
              go_wp2
              go_ret
              exact ⟨by rw [HV2.out]; first | done | rfl, HB2.out⟩
            · have g2 : decide ((1000000 : Int) < (v.power : Int)) = false := by simp; omega
              have HST2 := hid (HST.out.trans (if_neg (by omega)))
              cases k with
              | zero =>
                have HV2 := hid (show valsN l = valsGo (prevV l 1) (l.drop 1) by rw [HT.out.2, HST2.out, if_neg (by simp [prevV_zero, aheadB])])
                have f0' : wr.cell? ⟨b, o, none⟩ = some (.int .u64 (v.key : Int)) := by simpa using f0
                have f1' : wr.cell? ⟨b, o + 1, none⟩ = some (.int .u64 (v.power : Int)) := by simpa using f1
                clear hcells
                go_wp2_with fail
                rw [HW2.out]
                go_wp2_with fail
                go_quiet (fail)
                go_wp2
                go_roundw
                case rel => exact ⟨1, by omega, by go_num, hid ⟨HB2.out.trans (below_drewH _ _ _), HV2.out⟩⟩
                case measure => simp [intOf]; omega
              | succ j =>
                obtain ⟨y, hy⟩ : ∃ y, l[j]? = some y := ⟨l[j]'(by rw [HN.out]; omega), List.getElem?_eq_getElem _⟩
                obtain ⟨_, t0, t1⟩ := hcells j y hy
                have t0' := (HB2.out.cell (p := ⟨b, o + j * 2, none⟩) hbl).trans t0
                have HPV := hid (prevV_succ l j y hy)
                have hj1 : ((j + 1 : Nat) : Int) - 1 = (j : Int) := by omega
                have hj2 : IntKind.i64.wrap (((j + 1 : Nat) : Int) - 1) = (j : Int) := by rw [hj1]; simp [IntKind.wrap, IntKind.bits, IntKind.signed]; split <;> omega
                have hjn : (j : Int) < (n : Int) := by omega
                have e4 : decide ((0 : Int) < ((j + 1 : Nat) : Int)) = true := decide_eq_true (by omega)
                clear hcells hy t0 t1
                by_cases hle : v.key ≤ y.key
                · have g5 : decide ((v.key : Int) ≤ (y.key : Int)) = true := by simp; omega
                  have HV2 := hid (show valsN l = 2 by rw [HT.out.2, HST2.out, HPV.out, if_pos (by simpa [aheadB] using hle)])
                  go_wp2_with fail
                  rw [HW2.out]
                  go_wp2_with fail
                  go_quiet (fail)
                  go_wp2
                  go_ret
                  exact ⟨by rw [HV2.out]; first | done | rfl, HB2.out.trans (below_drewH _ _ _)⟩
                · have g5 : decide ((v.key : Int) ≤ (y.key : Int)) = false := by simp; omega
                  have HV2 := hid (show valsN l = valsGo (prevV l (j + 2)) (l.drop (j + 2)) by rw [HT.out.2, HST2.out, HPV.out, if_neg (by simpa [aheadB] using hle)])
                  go_wp2_with fail
                  rw [HW2.out]
                  go_wp2_with fail
                  go_quiet (fail)
                  go_wp2
                  go_roundw
                  case rel => exact ⟨j + 2, by omega, by go_num, hid ⟨HB2.out.trans (below_drewH _ _ _), HV2.out⟩⟩
                  case measure => simp [intOf]; omega
        · have hge : decide ((k : Int) < (n : Int)) = false := by simp; omega
          have HV2 := hid (show valsN l = 0 by rw [HT.out.2, valsGo_end l k (by rw [HN.out]; omega)])
          go_wp2
          go_ret
          exact ⟨by rw [HV2.out]; first | done | rfl, HT.out.1⟩
end Go.Proofs.YtbhghmlachlfkaaDoor
