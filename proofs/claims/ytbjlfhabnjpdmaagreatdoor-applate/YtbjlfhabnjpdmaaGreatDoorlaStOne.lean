/-
  What package state's from, isWord, wrongConn, wrongChan, wrongMark and wrongPurse answer: what is wrong with one entry of a state.
-/
import Derived.Test.YtbjlfhabnjpdmaaGreatDoorlaStMem
import Derived.Deep.RegionHeld3
import Derived.Deep.RegionWith
namespace Go.Proofs.YtbjlfhabnjpdmaaGreatDoor
open Go.RowKit

theorem from_any (lo n : Int) (w : World) : Calls Tryz.prog 25 #[.int .i64 lo, .int .i64 n] w fun e w' => e = .returned (.bool (fromB lo n)) ∧ w' = w := by
  unfold fromB
  by_cases h1 : lo ≤ n
  · have e1 : decide (lo ≤ n) = true := by simpa using h1
    go_enter Tryz.func25, Tryz.ntmps25
    go_wp2
    go_ret
    exact ⟨by simp [e1]; first | done | rfl, rfl⟩
  · have e1 : decide (lo ≤ n) = false := by simpa using h1
    go_enter Tryz.func25, Tryz.ntmps25
    go_wp2
    go_ret
    exact ⟨by simp; first | done | rfl | (simp [e1]; first | done | rfl), rfl⟩
theorem isWord_any (s : ByteArray) (w : World) : Calls Tryz.prog 99 #[.string s] w fun e w' => e = .returned (.bool (wordB s)) ∧ w' = w := by
  unfold wordB
  by_cases h1 : 1 ≤ s.size
  · have e1 : decide ((1 : Int) ≤ (s.size : Int)) = true := by simp; omega
    have e1' : decide (1 ≤ s.size) = true := by simpa using h1
    by_cases h2 : s.size ≤ 40
    · have e2 : decide ((s.size : Int) ≤ 40) = true := by simp; omega
      have e2' : decide (s.size ≤ 40) = true := by simpa using h2
      clear h1 h2
      go_enter Tryz.func99, Tryz.ntmps99
      go_wp2
      go_ret
      exact ⟨by rw [e1', e2']; first | done | rfl, rfl⟩
    · have e2 : decide ((s.size : Int) ≤ 40) = false := by simp; omega
      have e2' : decide (s.size ≤ 40) = false := by simpa using h2
      clear h1 h2
      go_enter Tryz.func99, Tryz.ntmps99
      go_wp2
      go_ret
      exact ⟨by rw [e1', e2']; first | done | rfl, rfl⟩
  · have e1 : decide ((1 : Int) ≤ (s.size : Int)) = false := by simp; omega
    have e1' : decide (1 ≤ s.size) = false := by simpa using h1
    clear h1
    go_enter Tryz.func99, Tryz.ntmps99
    go_wp2
    go_ret
    exact ⟨by rw [e1']; first | done | rfl, rfl⟩
set_option maxHeartbeats 2000000 in
theorem wrongConn_any (c : Cn) (w : World) :
    Calls Tryz.prog 33 #[.agg #[.int .i64 c.state, .int .i64 c.client, .int .i64 c.oclient, .int .i64 c.oconn]] w fun e w' => e = .returned (.int .i64 (wrongCn c)) ∧ Below w.heap.size w w' := by
  obtain ⟨w0, hw0⟩ : ∃ w0, w.alloc (.cells #[.int .i64 c.state, .int .i64 c.client, .int .i64 c.oclient, .int .i64 c.oconn] 81) = w0 := ⟨_, rfl⟩
  have HB0 := hid (show Below w.heap.size w w0 by rw [← hw0]; exact (Below.refl _ _).alloc (Nat.le_refl _) _)
  have hr0 := (show Row w0 w.heap.size 81 [.int .i64 c.state, .int .i64 c.client, .int .i64 c.oclient, .int .i64 c.oconn] by rw [← hw0]; exact Row.new _ _ _)
  have k0 := hr0.cell 0
  have k1 := hr0.cell 1
  have k2 := hr0.cell 2
  have k3 := hr0.cell 3
  clear hr0
  by_cases q0 : c.state < 1
  · have e0 : decide (c.state < 1) = true := by simp; omega
    have HW := hid (show wrongCn c = 1 by unfold wrongCn; simp [*])
    clear q0
    go_enter Tryz.func33, Tryz.ntmps33
    go_wp2
    go_ret
    exact ⟨by rw [HW.out]; first | done | rfl, HB0.out⟩
  · have e0 : decide (c.state < 1) = false := by simp; omega
    by_cases q1 : 3 < c.state
    · have e1 : decide (3 < c.state) = true := by simp; omega
      have HW := hid (show wrongCn c = 1 by unfold wrongCn; simp [*])
      clear q0 q1
      go_enter Tryz.func33, Tryz.ntmps33
      go_wp2
      go_ret
      exact ⟨by rw [HW.out]; first | done | rfl, HB0.out⟩
    · have e1 : decide (3 < c.state) = false := by simp; omega
      cases q2 : fromB 0 c.client with
      | false =>
        have H2 := hid q2
        have HW := hid (show wrongCn c = 3 by unfold wrongCn; simp [*])
        clear q0 q1 q2
        go_enter Tryz.func33, Tryz.ntmps33
        go_wp2_with (first | (go_at_call 25; refine (from_any _ _ _).mono ?_; rintro e w' ⟨rfl, rfl⟩; first | rw [H2.out]))
        go_ret
        exact ⟨by rw [HW.out]; first | done | rfl, HB0.out⟩
      | true =>
        have H2 := hid q2
        cases q3 : fromB 0 c.oclient with
        | false =>
          have H3 := hid q3
          have HW := hid (show wrongCn c = 3 by unfold wrongCn; simp [*])
          clear q0 q1 q2 q3
          go_enter Tryz.func33, Tryz.ntmps33
          go_wp2_with (first | (go_at_call 25; refine (from_any _ _ _).mono ?_; rintro e w' ⟨rfl, rfl⟩; first | rw [H2.out] | rw [H3.out]))
          go_ret
          exact ⟨by rw [HW.out]; first | done | rfl, HB0.out⟩
        | true =>
          have H3 := hid q3
          cases q4 : fromB (-1) c.oconn with
          | false =>
            have H4 := hid q4
            have HW := hid (show wrongCn c = 3 by unfold wrongCn; simp [*])
            clear q0 q1 q2 q3 q4
            go_enter Tryz.func33, Tryz.ntmps33
            go_wp2_with (first | (go_at_call 25; refine (from_any _ _ _).mono ?_; rintro e w' ⟨rfl, rfl⟩; first | rw [H2.out] | rw [H3.out] | rw [H4.out]))
            go_ret
            exact ⟨by rw [HW.out]; first | done | rfl, HB0.out⟩
          | true =>
            have H4 := hid q4
            have HW := hid (show wrongCn c = 0 by unfold wrongCn; simp [*])
            clear q0 q1 q2 q3 q4
            go_enter Tryz.func33, Tryz.ntmps33
            go_wp2_with (first | (go_at_call 25; refine (from_any _ _ _).mono ?_; rintro e w' ⟨rfl, rfl⟩; first | rw [H2.out] | rw [H3.out] | rw [H4.out]))
            go_ret
            exact ⟨by rw [HW.out]; first | done | rfl, HB0.out⟩
set_option maxHeartbeats 2000000 in
theorem wrongChan_any (c : Ch) (w : World) :
    Calls Tryz.prog 35 #[.agg #[.int .i64 c.state, .bool c.ordered, .int .i64 c.conn, .int .i64 c.ochan, .int .i64 c.send, .int .i64 c.recv, .int .i64 c.ack]] w fun e w' => e = .returned (.int .i64 (wrongCh c)) ∧ Below w.heap.size w w' := by
  obtain ⟨w0, hw0⟩ : ∃ w0, w.alloc (.cells #[.int .i64 c.state, .bool c.ordered, .int .i64 c.conn, .int .i64 c.ochan, .int .i64 c.send, .int .i64 c.recv, .int .i64 c.ack] 83) = w0 := ⟨_, rfl⟩
  have HB0 := hid (show Below w.heap.size w w0 by rw [← hw0]; exact (Below.refl _ _).alloc (Nat.le_refl _) _)
  have hr0 := (show Row w0 w.heap.size 83 [.int .i64 c.state, .bool c.ordered, .int .i64 c.conn, .int .i64 c.ochan, .int .i64 c.send, .int .i64 c.recv, .int .i64 c.ack] by rw [← hw0]; exact Row.new _ _ _)
  have k0 := hr0.cell 0
  have k1 := hr0.cell 1
  have k2 := hr0.cell 2
  have k3 := hr0.cell 3
  have k4 := hr0.cell 4
  have k5 := hr0.cell 5
  have k6 := hr0.cell 6
  clear hr0
  by_cases q0 : c.state < 1
  · have e0 : decide (c.state < 1) = true := by simp; omega
    have HW := hid (show wrongCh c = 1 by unfold wrongCh; simp [*])
    clear q0
    go_enter Tryz.func35, Tryz.ntmps35
    go_wp2
    go_ret
    exact ⟨by rw [HW.out]; first | done | rfl, HB0.out⟩
  · have e0 : decide (c.state < 1) = false := by simp; omega
    by_cases q1 : 4 < c.state
    · have e1 : decide (4 < c.state) = true := by simp; omega
      have HW := hid (show wrongCh c = 1 by unfold wrongCh; simp [*])
      clear q0 q1
      go_enter Tryz.func35, Tryz.ntmps35
      go_wp2
      go_ret
      exact ⟨by rw [HW.out]; first | done | rfl, HB0.out⟩
    · have e1 : decide (4 < c.state) = false := by simp; omega
      cases q2 : fromB 0 c.conn with
      | false =>
        have H2 := hid q2
        have HW := hid (show wrongCh c = 3 by unfold wrongCh; simp [*])
        clear q0 q1 q2
        go_enter Tryz.func35, Tryz.ntmps35
        go_wp2_with (first | (go_at_call 25; refine (from_any _ _ _).mono ?_; rintro e w' ⟨rfl, rfl⟩; first | rw [H2.out]))
        go_ret
        exact ⟨by rw [HW.out]; first | done | rfl, HB0.out⟩
      | true =>
        have H2 := hid q2
        cases q3 : fromB (-1) c.ochan with
        | false =>
          have H3 := hid q3
          have HW := hid (show wrongCh c = 3 by unfold wrongCh; simp [*])
          clear q0 q1 q2 q3
          go_enter Tryz.func35, Tryz.ntmps35
          go_wp2_with (first | (go_at_call 25; refine (from_any _ _ _).mono ?_; rintro e w' ⟨rfl, rfl⟩; first | rw [H2.out] | rw [H3.out]))
          go_ret
          exact ⟨by rw [HW.out]; first | done | rfl, HB0.out⟩
        | true =>
          have H3 := hid q3
          cases q4 : fromB 1 c.send with
          | false =>
            have H4 := hid q4
            have HW := hid (show wrongCh c = 3 by unfold wrongCh; simp [*])
            clear q0 q1 q2 q3 q4
            go_enter Tryz.func35, Tryz.ntmps35
            go_wp2_with (first | (go_at_call 25; refine (from_any _ _ _).mono ?_; rintro e w' ⟨rfl, rfl⟩; first | rw [H2.out] | rw [H3.out] | rw [H4.out]))
            go_ret
            exact ⟨by rw [HW.out]; first | done | rfl, HB0.out⟩
          | true =>
            have H4 := hid q4
            cases q5 : fromB 1 c.recv with
            | false =>
              have H5 := hid q5
              have HW := hid (show wrongCh c = 3 by unfold wrongCh; simp [*])
              clear q0 q1 q2 q3 q4 q5
              go_enter Tryz.func35, Tryz.ntmps35
              go_wp2_with (first | (go_at_call 25; refine (from_any _ _ _).mono ?_; rintro e w' ⟨rfl, rfl⟩; first | rw [H2.out] | rw [H3.out] | rw [H4.out] | rw [H5.out]))
              go_ret
              exact ⟨by rw [HW.out]; first | done | rfl, HB0.out⟩
            | true =>
              have H5 := hid q5
              cases q6 : fromB 1 c.ack with
              | false =>
                have H6 := hid q6
                have HW := hid (show wrongCh c = 3 by unfold wrongCh; simp [*])
                clear q0 q1 q2 q3 q4 q5 q6
                go_enter Tryz.func35, Tryz.ntmps35
                go_wp2_with (first | (go_at_call 25; refine (from_any _ _ _).mono ?_; rintro e w' ⟨rfl, rfl⟩; first | rw [H2.out] | rw [H3.out] | rw [H4.out] | rw [H5.out] | rw [H6.out]))
                go_ret
                exact ⟨by rw [HW.out]; first | done | rfl, HB0.out⟩
              | true =>
                have H6 := hid q6
                have HW := hid (show wrongCh c = 0 by unfold wrongCh; simp [*])
                clear q0 q1 q2 q3 q4 q5 q6
                go_enter Tryz.func35, Tryz.ntmps35
                go_wp2_with (first | (go_at_call 25; refine (from_any _ _ _).mono ?_; rintro e w' ⟨rfl, rfl⟩; first | rw [H2.out] | rw [H3.out] | rw [H4.out] | rw [H5.out] | rw [H6.out]))
                go_ret
                exact ⟨by rw [HW.out]; first | done | rfl, HB0.out⟩
set_option maxHeartbeats 2000000 in
theorem wrongMark_any (m : Mk) (od : Option Addr) (cd : Nat) (w : World) :
    Calls Tryz.prog 38 #[.agg #[.int .i64 m.chan, .int .i64 m.seq, .slice od m.dig.length cd]] w fun e w' => e = .returned (.int .i64 (wrongMk m)) ∧ Below w.heap.size w w' := by
  obtain ⟨w0, hw0⟩ : ∃ w0, w.alloc (.cells #[.int .i64 m.chan, .int .i64 m.seq, .slice od m.dig.length cd] 99) = w0 := ⟨_, rfl⟩
  have HB0 := hid (show Below w.heap.size w w0 by rw [← hw0]; exact (Below.refl _ _).alloc (Nat.le_refl _) _)
  have hr0 := (show Row w0 w.heap.size 99 [.int .i64 m.chan, .int .i64 m.seq, .slice od m.dig.length cd] by rw [← hw0]; exact Row.new _ _ _)
  have k0 := hr0.cell 0
  have k1 := hr0.cell 1
  have k2 := hr0.cell 2
  clear hr0
  cases q0 : fromB 0 m.chan with
  | false =>
    have H0 := hid q0
    have HW := hid (show wrongMk m = 3 by unfold wrongMk; simp [*])
    clear q0
    go_enter Tryz.func38, Tryz.ntmps38
    go_wp2_with (first | (go_at_call 25; refine (from_any _ _ _).mono ?_; rintro e w' ⟨rfl, rfl⟩; first | rw [H0.out]))
    go_ret
    exact ⟨by rw [HW.out]; first | done | rfl, HB0.out⟩
  | true =>
    have H0 := hid q0
    cases q1 : fromB 1 m.seq with
    | false =>
      have H1 := hid q1
      have HW := hid (show wrongMk m = 3 by unfold wrongMk; simp [*])
      clear q0 q1
      go_enter Tryz.func38, Tryz.ntmps38
      go_wp2_with (first | (go_at_call 25; refine (from_any _ _ _).mono ?_; rintro e w' ⟨rfl, rfl⟩; first | rw [H0.out] | rw [H1.out]))
      go_ret
      exact ⟨by rw [HW.out]; first | done | rfl, HB0.out⟩
    | true =>
      have H1 := hid q1
      by_cases q2 : m.dig.length ≠ 32
      · have e2 : ((m.dig.length : Int) != 32) = true := by simp; omega
        have HW := hid (show wrongMk m = 2 by unfold wrongMk; simp [*])
        clear q0 q1 q2
        go_enter Tryz.func38, Tryz.ntmps38
        go_wp2_with (first | (go_at_call 25; refine (from_any _ _ _).mono ?_; rintro e w' ⟨rfl, rfl⟩; first | rw [H0.out] | rw [H1.out]))
        go_ret
        exact ⟨by rw [HW.out]; first | done | rfl, HB0.out⟩
      · have e2 : ((m.dig.length : Int) != 32) = false := by simp; omega
        have HW := hid (show wrongMk m = 0 by unfold wrongMk; simp [*])
        clear q0 q1 q2
        go_enter Tryz.func38, Tryz.ntmps38
        go_wp2_with (first | (go_at_call 25; refine (from_any _ _ _).mono ?_; rintro e w' ⟨rfl, rfl⟩; first | rw [H0.out] | rw [H1.out]))
        go_ret
        exact ⟨by rw [HW.out]; first | done | rfl, HB0.out⟩
set_option maxHeartbeats 2000000 in
theorem wrongPurse_any (p : Pu) (w : World) :
    Calls Tryz.prog 42 #[.agg #[.string p.owner, .string p.denom, .int .u64 (p.amount : Int)]] w fun e w' => e = .returned (.int .i64 (wrongPu p)) ∧ Below w.heap.size w w' := by
  obtain ⟨w0, hw0⟩ : ∃ w0, w.alloc (.cells #[.string p.owner, .string p.denom, .int .u64 (p.amount : Int)] 85) = w0 := ⟨_, rfl⟩
  have HB0 := hid (show Below w.heap.size w w0 by rw [← hw0]; exact (Below.refl _ _).alloc (Nat.le_refl _) _)
  have hr0 := (show Row w0 w.heap.size 85 [.string p.owner, .string p.denom, .int .u64 (p.amount : Int)] by rw [← hw0]; exact Row.new _ _ _)
  have k0 := hr0.cell 0
  have k1 := hr0.cell 1
  have k2 := hr0.cell 2
  clear hr0
  cases q0 : wordB p.owner with
  | false =>
    have H0 := hid q0
    have HW := hid (show wrongPu p = 4 by unfold wrongPu; simp [*])
    clear q0
    go_enter Tryz.func42, Tryz.ntmps42
    go_wp2_with (first | (go_at_call 99; refine (isWord_any _ _).mono ?_; rintro e w' ⟨rfl, rfl⟩; first | rw [H0.out]))
    go_ret
    exact ⟨by rw [HW.out]; first | done | rfl, HB0.out⟩
  | true =>
    have H0 := hid q0
    cases q1 : wordB p.denom with
    | false =>
      have H1 := hid q1
      have HW := hid (show wrongPu p = 4 by unfold wrongPu; simp [*])
      clear q0 q1
      go_enter Tryz.func42, Tryz.ntmps42
      go_wp2_with (first | (go_at_call 99; refine (isWord_any _ _).mono ?_; rintro e w' ⟨rfl, rfl⟩; first | rw [H0.out] | rw [H1.out]))
      go_ret
      exact ⟨by rw [HW.out]; first | done | rfl, HB0.out⟩
    | true =>
      have H1 := hid q1
      by_cases q2 : p.amount = 0
      · have e2 : ((p.amount : Int) == 0) = true := by simp; omega
        have HW := hid (show wrongPu p = 3 by unfold wrongPu; simp [*])
        clear q0 q1 q2
        go_enter Tryz.func42, Tryz.ntmps42
        go_wp2_with (first | (go_at_call 99; refine (isWord_any _ _).mono ?_; rintro e w' ⟨rfl, rfl⟩; first | rw [H0.out] | rw [H1.out]))
        go_ret
        exact ⟨by rw [HW.out]; first | done | rfl, HB0.out⟩
      · have e2 : ((p.amount : Int) == 0) = false := by simp; omega
        have HW := hid (show wrongPu p = 0 by unfold wrongPu; simp [*])
        clear q0 q1 q2
        go_enter Tryz.func42, Tryz.ntmps42
        go_wp2_with (first | (go_at_call 99; refine (isWord_any _ _).mono ?_; rintro e w' ⟨rfl, rfl⟩; first | rw [H0.out] | rw [H1.out]))
        go_ret
        exact ⟨by rw [HW.out]; first | done | rfl, HB0.out⟩
end Go.Proofs.YtbjlfhabnjpdmaaGreatDoor
