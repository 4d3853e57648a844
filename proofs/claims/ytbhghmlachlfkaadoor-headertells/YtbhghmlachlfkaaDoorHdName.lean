/-
  What isName and Wrong answer: whether a text is a name; what keeps a header from being one. They turn no memory that was there.
-/
import Derived.Test.YtbhghmlachlfkaaDoorHdMems
namespace Go.Proofs.YtbhghmlachlfkaaDoor
open Go.RowKit

theorem isNameByte_any (c : UInt8) (w : World) : Calls Tryd.prog 57 #[.int .u8 (c.toNat : Int)] w fun e w' => e = .returned (.bool (nameC c)) ∧ w' = w := by
  have hc := c.toNat_lt
  unfold nameC
  by_cases h1 : 97 ≤ c.toNat
  · have e1 : decide ((97 : Int) ≤ (c.toNat : Int)) = true := by simp; omega
    by_cases h2 : c.toNat ≤ 122
    · have e2 : decide ((c.toNat : Int) ≤ 122) = true := by simp; omega
      go_enter Tryd.func57, Tryd.ntmps57
      go_wp2
      go_ret
      exact ⟨by simp [h1, h2], rfl⟩
    · have e2 : decide ((c.toNat : Int) ≤ 122) = false := by simp; omega
      have e3 : decide ((48 : Int) ≤ (c.toNat : Int)) = true := by simp; omega
      have e4 : decide ((c.toNat : Int) ≤ 57) = false := by simp; omega
      go_enter Tryd.func57, Tryd.ntmps57
      go_wp2
      go_ret
      exact ⟨by have : ¬ c.toNat ≤ 57 := by omega
                simp [h2, this], rfl⟩
  · have e1 : decide ((97 : Int) ≤ (c.toNat : Int)) = false := by simp; omega
    by_cases h3 : 48 ≤ c.toNat
    · have e3 : decide ((48 : Int) ≤ (c.toNat : Int)) = true := by simp; omega
      by_cases h4 : c.toNat ≤ 57
      · have e4 : decide ((c.toNat : Int) ≤ 57) = true := by simp; omega
        go_enter Tryd.func57, Tryd.ntmps57
        go_wp2
        go_ret
        exact ⟨by simp [h1, h3, h4], rfl⟩
      · have e4 : decide ((c.toNat : Int) ≤ 57) = false := by simp; omega
        go_enter Tryd.func57, Tryd.ntmps57
        go_wp2
        go_ret
        exact ⟨by simp [h1, h4], rfl⟩
    · have e3 : decide ((48 : Int) ≤ (c.toNat : Int)) = false := by simp; omega
      go_enter Tryd.func57, Tryd.ntmps57
      go_wp2
      go_ret
      exact ⟨by simp [h1, h3], rfl⟩
theorem isName_any (s : ByteArray) (w : World) (hs : s.size ≤ 140737488351232) : Calls Tryd.prog 29 #[.string s] w fun e w' => e = .returned (.bool (nameB s)) ∧ w' = w := by
  by_cases h1 : s.size < 1
  · have e1 : decide ((s.size : Int) < 1) = true := by simp; omega
    have HN := hid (nameB_short (.inl h1))
    go_enter Tryd.func29, Tryd.ntmps29
    go_wp2
    go_ret
    exact ⟨by rw [HN.out]; first | done | rfl, rfl⟩
  · have e1 : decide ((s.size : Int) < 1) = false := by simp; omega
    by_cases h2 : 20 < s.size
    · have e2 : decide ((20 : Int) < (s.size : Int)) = true := by simp; omega
      have HN := hid (nameB_short (.inr h2))
      go_enter Tryd.func29, Tryd.ntmps29
      go_wp2
      go_ret
      exact ⟨by rw [HN.out]; first | done | rfl, rfl⟩
    · have e2 : decide ((20 : Int) < (s.size : Int)) = false := by simp; omega
      go_enter Tryd.func29, Tryd.ntmps29
      go_wp2
      go_loop [3, 14] (fun _ i => ∃ k : Nat, k ≤ s.size ∧ i = .int .i64 (k : Int) ∧ Hid (∀ j (hj : j < s.size), j < k → nameC s[j] = true)) (fun _ i => s.size - (intOf i).toNat)
      case atStart => exact ⟨0, by omega, rfl, hid (fun j _ hj => absurd hj (by omega))⟩
      case round =>
        obtain ⟨k, hk, rfl, HR⟩ := hrel
        by_cases hlt : k < s.size
        · have hlt' : (k : Int) < (s.size : Int) := by omega
          by_cases hc : nameC s[k] = true
          · go_wp2_with (go_at_call 57; refine (isNameByte_any _ _).mono ?_; rintro e w' ⟨rfl, rfl⟩)
            go_round
            case rel => exact ⟨k + 1, by omega, by go_num, hid (fun j hj hj2 => by
              by_cases e : j = k
              · subst e; exact hc
              · exact HR.out j hj (by omega))⟩
            case measure => simp [intOf]; omega
          · have hc' : nameC s[k] = false := by simpa using hc
            have HN := hid (nameB_at k hlt hc')
            go_wp2_with (go_at_call 57; refine (isNameByte_any _ _).mono ?_; rintro e w' ⟨rfl, rfl⟩)
            go_ret
            exact ⟨by rw [HN.out]; first | done | rfl, rfl⟩
        · have hge : decide ((k : Int) < (s.size : Int)) = false := by simp; omega
          go_wp2
          go_ret
          exact ⟨by rw [nameB_all (by omega) (by omega) (fun j hj => HR.out j hj (by omega))]; first | done | rfl, rfl⟩
set_option maxHeartbeats 2000000 in
theorem wrong_any (h : Hd) (v : Value) (N : Nat) (w : World) (hv : HdV w N v h) (hf : h.fits) :
    Calls Tryd.prog 11 #[v] w fun e w' => e = .returned (.int .i64 (wrongH h)) ∧ Below w.heap.size w w' := by
  obtain ⟨rv, vv, nv, rfl, h1, h2, h3⟩ := hv
  obtain ⟨o1, c1, rfl, _⟩ := h1.shape
  obtain ⟨o2, c2, rfl, _⟩ := h2.shape
  obtain ⟨o3, c3, rfl, _⟩ := h3.shape
  obtain ⟨f1, f2, f3, f4⟩ := hf
  clear h1 h2 h3
  obtain ⟨w0, hw0⟩ : ∃ w0, w.alloc (.cells #[.string h.chain, .int .i64 h.height, .int .i64 h.time, .slice o1 h.root.length c1, .slice o2 h.vals.length c2, .slice o3 h.next.length c3] 25) = w0 := ⟨_, rfl⟩
  have HB0 := hid (show Below w.heap.size w w0 by rw [← hw0]; exact (Below.refl _ _).alloc (Nat.le_refl _) _)
  obtain ⟨k0, k1, k2, k3, k4, k5⟩ := (show Row w0 w.heap.size 25 [.string h.chain, .int .i64 h.height, .int .i64 h.time, .slice o1 h.root.length c1, .slice o2 h.vals.length c2, .slice o3 h.next.length c3] by rw [← hw0]; exact Row.new _ _ _).six
  by_cases hn : nameB h.chain = true
  · by_cases hr : h.height < 1 ∨ 1000000000000 < h.height ∨ h.time < 0 ∨ 1000000000000 < h.time
    · have HW := hid (show wrongH h = 3 by unfold wrongH; rw [if_neg (by rw [hn]; decide), if_pos hr])
      by_cases r1 : h.height < 1
      all_goals by_cases r2 : 1000000000000 < h.height
      all_goals by_cases r3 : h.time < 0
      all_goals by_cases r4 : 1000000000000 < h.time
      all_goals first | (exfalso; omega) | skip
      all_goals
        go_enter Tryd.func11, Tryd.ntmps11
        go_wp2_with (go_at_call 29; refine (isName_any _ _ f1).mono ?_; rintro e w' ⟨rfl, rfl⟩)
        go_ret
        exact ⟨by rw [HW.out]; first | done | rfl, HB0.out⟩
    · have r1 : decide (h.height < 1) = false := by simp; omega
      have r2 : decide (1000000000000 < h.height) = false := by simp; omega
      have r3 : decide (h.time < 0) = false := by simp; omega
      have r4 : decide (1000000000000 < h.time) = false := by simp; omega
      by_cases q1 : h.root.length = 32
      · have p1 : ((h.root.length : Int) != 32) = false := by simp; omega
        by_cases q2 : h.vals.length = 32
        · have p2 : ((h.vals.length : Int) != 32) = false := by simp; omega
          by_cases q3 : h.next.length = 32
          · have p3 : ((h.next.length : Int) != 32) = false := by simp; omega
            have HW := hid (show wrongH h = 0 by unfold wrongH; rw [if_neg (by rw [hn]; decide), if_neg hr, if_neg (by omega)])
            clear hr q1 q2 q3
            go_enter Tryd.func11, Tryd.ntmps11
            go_wp2_with (go_at_call 29; refine (isName_any _ _ f1).mono ?_; rintro e w' ⟨rfl, rfl⟩)
            go_ret
            exact ⟨by rw [HW.out]; first | done | rfl, HB0.out⟩
          · have p3 : ((h.next.length : Int) != 32) = true := by simp; omega
            have HW := hid (show wrongH h = 2 by unfold wrongH; rw [if_neg (by rw [hn]; decide), if_neg hr, if_pos (by omega)])
            clear hr q1 q2 q3
            go_enter Tryd.func11, Tryd.ntmps11
            go_wp2_with (go_at_call 29; refine (isName_any _ _ f1).mono ?_; rintro e w' ⟨rfl, rfl⟩)
            go_ret
            exact ⟨by rw [HW.out]; first | done | rfl, HB0.out⟩
        · have p2 : ((h.vals.length : Int) != 32) = true := by simp; omega
          have HW := hid (show wrongH h = 2 by unfold wrongH; rw [if_neg (by rw [hn]; decide), if_neg hr, if_pos (by omega)])
          clear hr q1 q2
          go_enter Tryd.func11, Tryd.ntmps11
          go_wp2_with (go_at_call 29; refine (isName_any _ _ f1).mono ?_; rintro e w' ⟨rfl, rfl⟩)
          go_ret
          exact ⟨by rw [HW.out]; first | done | rfl, HB0.out⟩
      · have p1 : ((h.root.length : Int) != 32) = true := by simp; omega
        have HW := hid (show wrongH h = 2 by unfold wrongH; rw [if_neg (by rw [hn]; decide), if_neg hr, if_pos (by omega)])
        clear hr q1
        go_enter Tryd.func11, Tryd.ntmps11
        go_wp2_with (go_at_call 29; refine (isName_any _ _ f1).mono ?_; rintro e w' ⟨rfl, rfl⟩)
        go_ret
        exact ⟨by rw [HW.out]; first | done | rfl, HB0.out⟩
  · have hn' : nameB h.chain = false := by simpa using hn
    have HW := hid (show wrongH h = 7 by unfold wrongH; rw [if_pos hn'])
    clear hn
    go_enter Tryd.func11, Tryd.ntmps11
    go_wp2_with (go_at_call 29; refine (isName_any _ _ f1).mono ?_; rintro e w' ⟨rfl, rfl⟩)
    go_ret
    exact ⟨by rw [HW.out]; first | done | rfl, HB0.out⟩
end Go.Proofs.YtbhghmlachlfkaaDoor
