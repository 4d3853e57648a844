/-
  What isName and Wrong answer: whether a text is a name; what keeps a header from being one. They turn no memory that was there.
  What Vals answers, the landed one and the document's: what keeps a list from being validators. They turn no memory that was there.
-/
import Derived.Test.YtfpngilmdgeikaaDoorHdMems
import Derived.Deep.QuietTactic
import Derived.BigQuiet
namespace Go.Proofs.YtfpngilmdgeikaaDoor
open Go.RowKit

theorem isNameByte_any (c : UInt8) (w : World) : Calls Tryd.prog 91 #[.int .u8 (c.toNat : Int)] w fun e w' => e = .returned (.bool (nameC c)) ∧ w' = w := by
  have hc := c.toNat_lt
  unfold nameC
  by_cases h1 : 97 ≤ c.toNat
  · have e1 : decide ((97 : Int) ≤ (c.toNat : Int)) = true := by simp; omega
    by_cases h2 : c.toNat ≤ 122
    · have e2 : decide ((c.toNat : Int) ≤ 122) = true := by simp; omega
      go_enter Tryd.func91, Tryd.ntmps91
      go_wp2
      go_ret
      exact ⟨by simp [h1, h2], rfl⟩
    · have e2 : decide ((c.toNat : Int) ≤ 122) = false := by simp; omega
      have e3 : decide ((48 : Int) ≤ (c.toNat : Int)) = true := by simp; omega
      have e4 : decide ((c.toNat : Int) ≤ 57) = false := by simp; omega
      go_enter Tryd.func91, Tryd.ntmps91
      go_wp2
      go_ret
      exact ⟨by have : ¬ c.toNat ≤ 57 := by omega
                simp [h2, this], rfl⟩
  · have e1 : decide ((97 : Int) ≤ (c.toNat : Int)) = false := by simp; omega
    by_cases h3 : 48 ≤ c.toNat
    · have e3 : decide ((48 : Int) ≤ (c.toNat : Int)) = true := by simp; omega
      by_cases h4 : c.toNat ≤ 57
      · have e4 : decide ((c.toNat : Int) ≤ 57) = true := by simp; omega
        go_enter Tryd.func91, Tryd.ntmps91
        go_wp2
        go_ret
        exact ⟨by simp [h1, h3, h4], rfl⟩
      · have e4 : decide ((c.toNat : Int) ≤ 57) = false := by simp; omega
        go_enter Tryd.func91, Tryd.ntmps91
        go_wp2
        go_ret
        exact ⟨by simp [h1, h4], rfl⟩
    · have e3 : decide ((48 : Int) ≤ (c.toNat : Int)) = false := by simp; omega
      go_enter Tryd.func91, Tryd.ntmps91
      go_wp2
      go_ret
      exact ⟨by simp [h1, h3], rfl⟩
theorem isName_any (s : ByteArray) (w : World) (hs : s.size ≤ 140737488351232) : Calls Tryd.prog 42 #[.string s] w fun e w' => e = .returned (.bool (nameB s)) ∧ w' = w := by
  by_cases h1 : s.size < 1
  · have e1 : decide ((s.size : Int) < 1) = true := by simp; omega
    have HN := hid (nameB_short (.inl h1))
    go_enter Tryd.func42, Tryd.ntmps42
    go_wp2
    go_ret
    exact ⟨by rw [HN.out]; first | done | rfl, rfl⟩
  · have e1 : decide ((s.size : Int) < 1) = false := by simp; omega
    by_cases h2 : 20 < s.size
    · have e2 : decide ((20 : Int) < (s.size : Int)) = true := by simp; omega
      have HN := hid (nameB_short (.inr h2))
      go_enter Tryd.func42, Tryd.ntmps42
      go_wp2
      go_ret
      exact ⟨by rw [HN.out]; first | done | rfl, rfl⟩
    · have e2 : decide ((20 : Int) < (s.size : Int)) = false := by simp; omega
      go_enter Tryd.func42, Tryd.ntmps42
      go_wp2
      go_loop [3, 14] (fun _ i => ∃ k : Nat, k ≤ s.size ∧ i = .int .i64 (k : Int) ∧ Hid (∀ j (hj : j < s.size), j < k → nameC s[j] = true)) (fun _ i => s.size - (intOf i).toNat)
      case atStart => exact ⟨0, by omega, rfl, hid (fun j _ hj => absurd hj (by omega))⟩
      case round =>
        obtain ⟨k, hk, rfl, HR⟩ := hrel
        by_cases hlt : k < s.size
        · have hlt' : (k : Int) < (s.size : Int) := by omega
          by_cases hc : nameC s[k] = true
          · go_wp2_with (go_at_call 91; refine (isNameByte_any _ _).mono ?_; rintro e w' ⟨rfl, rfl⟩)
            go_round
            case rel => exact ⟨k + 1, by omega, by go_num, hid (fun j hj hj2 => by
              by_cases e : j = k
              · subst e; exact hc
              · exact HR.out j hj (by omega))⟩
            case measure => simp [intOf]; omega
          · have hc' : nameC s[k] = false := by simpa using hc
            have HN := hid (nameB_at k hlt hc')
            go_wp2_with (go_at_call 91; refine (isNameByte_any _ _).mono ?_; rintro e w' ⟨rfl, rfl⟩)
            go_ret
            exact ⟨by rw [HN.out]; first | done | rfl, rfl⟩
        · have hge : decide ((k : Int) < (s.size : Int)) = false := by simp; omega
          go_wp2
          go_ret
          exact ⟨by rw [nameB_all (by omega) (by omega) (fun j hj => HR.out j hj (by omega))]; first | done | rfl, rfl⟩
set_option maxHeartbeats 2000000 in
theorem wrong_any (h : Hd) (v : Value) (N : Nat) (w : World) (hv : HdV w N v h) (hf : h.fits) :
    Calls Tryd.prog 15 #[v] w fun e w' => e = .returned (.int .i64 (wrongH h)) ∧ Below w.heap.size w w' := by
  obtain ⟨rv, vv, nv, rfl, h1, h2, h3⟩ := hv
  obtain ⟨o1, c1, rfl, _⟩ := h1.shape
  obtain ⟨o2, c2, rfl, _⟩ := h2.shape
  obtain ⟨o3, c3, rfl, _⟩ := h3.shape
  obtain ⟨f1, f2, f3, f4⟩ := hf
  clear h1 h2 h3
  obtain ⟨w0, hw0⟩ : ∃ w0, w.alloc (.cells #[.string h.chain, .int .i64 h.height, .int .i64 h.time, .slice o1 h.root.length c1, .slice o2 h.vals.length c2, .slice o3 h.next.length c3] 25) = w0 := ⟨_, rfl⟩
  have HB0 := hid (show Below w.heap.size w w0 by rw [← hw0]; exact (Below.refl _ _).alloc (Nat.le_refl _) _)
  obtain ⟨k0, k1, k2, k3, k4, k5⟩ := (show Row w0 w.heap.size 25 [.string h.chain, .int .i64 h.height, .int .i64 h.time, .slice o1 h.root.length c1, .slice o2 h.vals.length c2, .slice o3 h.next.length c3] by rw [← hw0]; exact Row.new _ _ _).six
  by_cases hn : nameB h.chain = true
  · by_cases hr : h.height < 1 ∨ 1000000000000 < h.height ∨ h.time < 0 ∨ 1000000000000 < h.time
    · have HW := hid (show wrongH h = 3 by unfold wrongH; rw [if_neg (by rw [hn]; decide), if_pos hr])
      by_cases r1 : h.height < 1
      all_goals by_cases r2 : 1000000000000 < h.height
      all_goals by_cases r3 : h.time < 0
      all_goals by_cases r4 : 1000000000000 < h.time
      all_goals first | (exfalso; omega) | skip
      all_goals
        go_enter Tryd.func15, Tryd.ntmps15
        go_wp2_with (go_at_call 42; refine (isName_any _ _ f1).mono ?_; rintro e w' ⟨rfl, rfl⟩)
        go_ret
        exact ⟨by rw [HW.out]; first | done | rfl, HB0.out⟩
    · have r1 : decide (h.height < 1) = false := by simp; omega
      have r2 : decide (1000000000000 < h.height) = false := by simp; omega
      have r3 : decide (h.time < 0) = false := by simp; omega
      have r4 : decide (1000000000000 < h.time) = false := by simp; omega
      by_cases q1 : h.root.length = 32
      · have p1 : ((h.root.length : Int) != 32) = false := by simp; omega
        by_cases q2 : h.vals.length = 32
        · have p2 : ((h.vals.length : Int) != 32) = false := by simp; omega
          by_cases q3 : h.next.length = 32
          · have p3 : ((h.next.length : Int) != 32) = false := by simp; omega
            have HW := hid (show wrongH h = 0 by unfold wrongH; rw [if_neg (by rw [hn]; decide), if_neg hr, if_neg (by omega)])
            clear hr q1 q2 q3
            go_enter Tryd.func15, Tryd.ntmps15
            go_wp2_with (go_at_call 42; refine (isName_any _ _ f1).mono ?_; rintro e w' ⟨rfl, rfl⟩)
            go_ret
            exact ⟨by rw [HW.out]; first | done | rfl, HB0.out⟩
          · have p3 : ((h.next.length : Int) != 32) = true := by simp; omega
            have HW := hid (show wrongH h = 2 by unfold wrongH; rw [if_neg (by rw [hn]; decide), if_neg hr, if_pos (by omega)])
            clear hr q1 q2 q3
            go_enter Tryd.func15, Tryd.ntmps15
            go_wp2_with (go_at_call 42; refine (isName_any _ _ f1).mono ?_; rintro e w' ⟨rfl, rfl⟩)
            go_ret
            exact ⟨by rw [HW.out]; first | done | rfl, HB0.out⟩
        · have p2 : ((h.vals.length : Int) != 32) = true := by simp; omega
          have HW := hid (show wrongH h = 2 by unfold wrongH; rw [if_neg (by rw [hn]; decide), if_neg hr, if_pos (by omega)])
          clear hr q1 q2
          go_enter Tryd.func15, Tryd.ntmps15
          go_wp2_with (go_at_call 42; refine (isName_any _ _ f1).mono ?_; rintro e w' ⟨rfl, rfl⟩)
          go_ret
          exact ⟨by rw [HW.out]; first | done | rfl, HB0.out⟩
      · have p1 : ((h.root.length : Int) != 32) = true := by simp; omega
        have HW := hid (show wrongH h = 2 by unfold wrongH; rw [if_neg (by rw [hn]; decide), if_neg hr, if_pos (by omega)])
        clear hr q1
        go_enter Tryd.func15, Tryd.ntmps15
        go_wp2_with (go_at_call 42; refine (isName_any _ _ f1).mono ?_; rintro e w' ⟨rfl, rfl⟩)
        go_ret
        exact ⟨by rw [HW.out]; first | done | rfl, HB0.out⟩
  · have hn' : nameB h.chain = false := by simpa using hn
    have HW := hid (show wrongH h = 7 by unfold wrongH; rw [if_pos hn'])
    clear hn
    go_enter Tryd.func15, Tryd.ntmps15
    go_wp2_with (go_at_call 42; refine (isName_any _ _ f1).mono ?_; rintro e w' ⟨rfl, rfl⟩)
    go_ret
    exact ⟨by rw [HW.out]; first | done | rfl, HB0.out⟩
end Go.Proofs.YtfpngilmdgeikaaDoor
namespace Go.Proofs.YtfpngilmdgeikaaDoor
open Go.RowKit

/-- what Vals is to answer -/
def ValsC (f : FuncId) : Prop := ∀ (l : List Vl) (sv : Value) (N : Nat) (w : World), Vals w N sv l → N ≤ w.heap.size → l.length < 2305843009213693952 →
  Calls Tryd.prog f #[sv] w fun e w' => e = .returned (.int .i64 (valsN l)) ∧ Below w.heap.size w w'
theorem below_drewH (w : World) (n N : Nat) : Below N w (w.drewN n) := ⟨rfl, rfl, rfl, Nat.le_refl _, fun _ _ => rfl⟩
theorem vals_many (l : List Vl) (h : l.length < 1 ∨ 10 < l.length) : valsN l = 5 := by unfold valsN; rw [if_pos h]
theorem vals_few (l : List Vl) (h : ¬ (l.length < 1 ∨ 10 < l.length)) : valsN l = valsGo (prevV l 0) (l.drop 0) := by unfold valsN; rw [if_neg h]; rfl
theorem prevV_zero (l : List Vl) : prevV l 0 = none := rfl
theorem prevV_succ (l : List Vl) (j : Nat) (y : Vl) (h : l[j]? = some y) : prevV l (j + 1) = some y.key := by simp [prevV, h]
set_option maxRecDepth 100000 in
set_option maxHeartbeats 2000000 in
theorem valsC : ValsC 13 := by
  intro l sv N w hb hN hlen
  obtain ⟨oa, ca, rfl, hca⟩ := hb.shape
  have HB := hid hb
  clear hb
  generalize hn : l.length = n at *
  have HN := hid hn
  clear hn
  by_cases h1 : n < 1
  · have e1 : decide ((n : Int) < 1) = true := by simp; omega
    have HV := hid (vals_many l (.inl (by rw [HN.out]; exact h1)))
    go_enter Tryd.func13, Tryd.ntmps13
    go_wp2
    go_ret
    exact ⟨by rw [HV.out]; first | done | rfl, Below.refl _ _⟩
  · have e1 : decide ((n : Int) < 1) = false := by simp; omega
    by_cases h2 : 10 < n
    · have e2 : decide ((10 : Int) < (n : Int)) = true := by simp; omega
      have HV := hid (vals_many l (.inr (by rw [HN.out]; exact h2)))
      go_enter Tryd.func13, Tryd.ntmps13
      go_wp2
      go_ret
      exact ⟨by rw [HV.out]; first | done | rfl, Below.refl _ _⟩
    · have e2 : decide ((10 : Int) < (n : Int)) = false := by simp; omega
      have HV := hid (vals_few l (by rw [HN.out]; omega))
      go_enter Tryd.func13, Tryd.ntmps13
      go_wp2
      go_loopw [3, 4, 15] (fun _ _ i wr => ∃ k : Nat, k ≤ n ∧ i = .int .i64 (k : Int) ∧ Hid (Below w.heap.size w wr ∧ valsN l = valsGo (prevV l k) (l.drop k))) (fun _ _ i _ => n - (intOf i).toNat)
      case atStart => exact ⟨0, by omega, rfl, hid ⟨Below.refl _ _, HV.out⟩⟩
      case round =>
        obtain ⟨k, hk, rfl, HT⟩ := hrel
        have hszr := HT.out.1.size
        by_cases hlt : k < n
        · obtain ⟨v, hv⟩ : ∃ v, l[k]? = some v := ⟨l[k]'(by rw [HN.out]; exact hlt), List.getElem?_eq_getElem _⟩
          obtain ⟨b, o, rfl, hcells⟩ := HB.out.spot (by omega)
          obtain ⟨hbN, d0, d1⟩ := hcells k v hv
          have hbl : b < w.heap.size := by omega
          have f0 := (HT.out.1.cell (p := ⟨b, o + k * 2, none⟩) hbl).trans d0
          have f1 := (HT.out.1.cell (p := ⟨b, o + k * 2 + 1, none⟩) hbl).trans d1
          have HST := hid (valsGo_at l k v hv)
          have hlt' : (k : Int) < (n : Int) := by omega
          obtain ⟨w2, hw2⟩ : ∃ w2, wr.alloc (.cells #[.int .u64 (v.key : Int), .int .u64 (v.power : Int)] 45) = w2 := ⟨_, rfl⟩
          have hbr2 : Below wr.heap.size wr w2 := by rw [← hw2]; exact (Below.refl _ _).alloc (Nat.le_refl _) _
          have HB2 := hid (HT.out.1.trans (hbr2.mono hszr))
          have hrow2 : Row w2 wr.heap.size 45 [.int .u64 (v.key : Int), .int .u64 (v.power : Int)] := by rw [← hw2]; exact Row.new _ _ _
          have q0 := hrow2.cell 0
          have q1 := hrow2.cell 1
          have HW2 := hid hw2
          clear d0 d1 hbr2 hrow2 hw2
          by_cases hp1 : v.power < 1
          · have g1 : decide ((v.power : Int) < 1) = true := by simp; omega
            have HV2 := hid (show valsN l = 3 by rw [HT.out.2, HST.out, if_pos (.inl hp1)])
            go_wp2_with fail
            rw [HW2.out]
            go_wp2
            go_ret
            exact ⟨by rw [HV2.out]; first | done | rfl, HB2.out⟩
          · have g1 : decide ((v.power : Int) < 1) = false := by simp; omega
            by_cases hp2 : 1000000 < v.power
            · have g2 : decide ((1000000 : Int) < (v.power : Int)) = true := by simp; omega
              have HV2 := hid (show valsN l = 3 by rw [HT.out.2, HST.out, if_pos (.inr hp2)])
              go_wp2_with fail
              rw [HW2.out]
              go_wp2
              go_ret
              exact ⟨by rw [HV2.out]; first | done | rfl, HB2.out⟩
            · have g2 : decide ((1000000 : Int) < (v.power : Int)) = false := by simp; omega
              have HST2 := hid (HST.out.trans (if_neg (by omega)))
              cases k with
              | zero =>
                have HV2 := hid (show valsN l = valsGo (prevV l 1) (l.drop 1) by rw [HT.out.2, HST2.out, if_neg (by simp [prevV_zero, aheadB])])
                have f0' : wr.cell? ⟨b, o, none⟩ = some (.int .u64 (v.key : Int)) := by simpa using f0
                have f1' : wr.cell? ⟨b, o + 1, none⟩ = some (.int .u64 (v.power : Int)) := by simpa using f1
                clear hcells
                go_wp2_with fail
                rw [HW2.out]
                go_wp2_with fail
                go_quiet (fail)
                go_wp2
                go_roundw
                case rel => exact ⟨1, by omega, by go_num, hid ⟨HB2.out.trans (below_drewH _ _ _), HV2.out⟩⟩
                case measure => simp [intOf]; omega
              | succ j =>
                obtain ⟨y, hy⟩ : ∃ y, l[j]? = some y := ⟨l[j]'(by rw [HN.out]; omega), List.getElem?_eq_getElem _⟩
                obtain ⟨_, t0, t1⟩ := hcells j y hy
                have t0' := (HB2.out.cell (p := ⟨b, o + j * 2, none⟩) hbl).trans t0
                have HPV := hid (prevV_succ l j y hy)
                have hj1 : ((j + 1 : Nat) : Int) - 1 = (j : Int) := by omega
                have hj2 : IntKind.i64.wrap (((j + 1 : Nat) : Int) - 1) = (j : Int) := by rw [hj1]; simp [IntKind.wrap, IntKind.bits, IntKind.signed]; split <;> omega
                have hjn : (j : Int) < (n : Int) := by omega
                have e4 : decide ((0 : Int) < ((j + 1 : Nat) : Int)) = true := decide_eq_true (by omega)
                clear hcells hy t0 t1
                by_cases hle : v.key ≤ y.key
                · have g5 : decide ((v.key : Int) ≤ (y.key : Int)) = true := by simp; omega
                  have HV2 := hid (show valsN l = 2 by rw [HT.out.2, HST2.out, HPV.out, if_pos (by simpa [aheadB] using hle)])
                  go_wp2_with fail
                  rw [HW2.out]
                  go_wp2_with fail
                  go_quiet (fail)
                  go_wp2
                  go_ret
                  exact ⟨by rw [HV2.out]; first | done | rfl, HB2.out.trans (below_drewH _ _ _)⟩
                · have g5 : decide ((v.key : Int) ≤ (y.key : Int)) = false := by simp; omega
                  have HV2 := hid (show valsN l = valsGo (prevV l (j + 2)) (l.drop (j + 2)) by rw [HT.out.2, HST2.out, HPV.out, if_neg (by simpa [aheadB] using hle)])
                  go_wp2_with fail
                  rw [HW2.out]
                  go_wp2_with fail
                  go_quiet (fail)
                  go_wp2
                  go_roundw
                  case rel => exact ⟨j + 2, by omega, by go_num, hid ⟨HB2.out.trans (below_drewH _ _ _), HV2.out⟩⟩
                  case measure => simp [intOf]; omega
        · have hge : decide ((k : Int) < (n : Int)) = false := by simp; omega
          have HV2 := hid (show valsN l = 0 by rw [HT.out.2, valsGo_end l k (by rw [HN.out]; omega)])
          go_wp2
          go_ret
          exact ⟨by rw [HV2.out]; first | done | rfl, HT.out.1⟩
end Go.Proofs.YtfpngilmdgeikaaDoor
