/-
  What the document's Num, Name and Wrong answer: whether a number may stand for a height, whether a text is a name; what keeps a header from being one. What the document's Vals answers: what keeps a list from being validators. It turns no memory that was there.
  What the document's Wrong answers of a client.
  What the document's At, Latest, Active and Asked answer of a client.
-/
import Derived.Test.YtiflkkelbnpniaaGreatDoorHdMems
import Derived.Laws.RangeString
import Derived.Test.YtiflkkelbnpniaaGreatDoorClAsk
namespace Go.Proofs.YtiflkkelbnpniaaGreatDoor
open Go.RowKit

theorem refNumH_any (n : Int) (w : World) : Calls Tryz.prog 11 #[.int .i64 n] w fun e w' => e = .returned (.bool (decide (0 ≤ n) && decide (n ≤ 1000000000000))) ∧ w' = w := by
  by_cases h1 : 0 ≤ n
  · have e1 : decide (0 ≤ n) = true := by simpa using h1
    go_enter Tryz.func11, Tryz.ntmps11
    go_wp2
    go_ret
    exact ⟨by simp [e1]; first | done | rfl, rfl⟩
  · have e1 : decide (0 ≤ n) = false := by simpa using h1
    go_enter Tryz.func11, Tryz.ntmps11
    go_wp2
    go_ret
    exact ⟨by simp; first | done | rfl | (simp [e1]; first | done | rfl), rfl⟩
theorem next_any {P : Program} (w : World) (s : ByteArray) (pos : Nat) (h : pos < s.size) :
    ∃ r p, (∀ ty, (Instr.next (.pointer (some ⟨w.heap.size, 0, none⟩)) true ty).run P (w.iter s pos) = .ok (.tuple #[.bool true, .int .i64 pos, r]) (w.iter s p)) ∧ ((s[pos]'h).toNat < 128 → p = pos + 1) := by
  by_cases ha : (s[pos]'h).toNat < 128
  · exact ⟨_, _, fun ty => run_next_ascii w s pos ty h ha, fun _ => rfl⟩
  · refine ⟨.int .i32 (Utf8.decode s pos).1, pos + (Utf8.decode s pos).2, fun ty => ?_, fun h => absurd h ha⟩
    simp only [Instr.next, getObj, setObj, Sem.run_bind, Sem.run, World.iter_heap, Result.andThen, h, if_true, World.iter_set]
    simp [goInt]
/-- where an iterator stands -/
def posAt (w wr : World) : Nat := match wr.heap[w.heap.size]? with
  | some (.stringIter _ p) => p
  | _ => 0
theorem posAt_iter (w : World) (s : ByteArray) (p : Nat) : posAt w (w.iter s p) = p := by unfold posAt; rw [World.iter_heap]
theorem nameC_ascii {c : UInt8} (h : nameC c = true) : c.toNat < 128 := by
  unfold nameC at h
  simp at h
  omega
/-- a letter is met among those from a on, up to below k -/
def metB (c : UInt8) (a k : Nat) : Bool := decide (a ≤ c.toNat) && decide (c.toNat < k)
theorem metB_succ (c : UInt8) (a k : Nat) (h : a ≤ k) : metB c a (k + 1) = (metB c a k || decide (c.toNat = k)) := by
  unfold metB
  rw [Bool.eq_iff_iff]
  simp
  omega
theorem beq_cast (a b : Nat) : ((a : Int) == (b : Int)) = decide (a = b) := by rw [Bool.eq_iff_iff]; simp; omega
theorem metB_start (c : UInt8) (a : Nat) : metB c a a = false := by unfold metB; rw [Bool.eq_false_iff]; simp
theorem metB_name (c : UInt8) : (metB c 97 123 || metB c 48 58) = nameC c := by
  unfold metB nameC
  rw [Bool.eq_iff_iff]
  simp
  omega
set_option maxRecDepth 100000 in
set_option maxHeartbeats 1000000 in
theorem refName_any (s : ByteArray) (w : World) (hs : s.size ≤ 140737488351232) : Calls Tryz.prog 28 #[.string s] w fun e w' => e = .returned (.bool (nameB s)) ∧ Below w.heap.size w w' := by
  by_cases h1 : s.size = 0
  · have e1 : ((s.size : Int) == 0) = true := by simp [h1]
    have HN := hid (nameB_short (s := s) (.inl (by omega)))
    go_enter Tryz.func28, Tryz.ntmps28
    go_wp2
    go_ret
    exact ⟨by rw [HN.out]; first | done | rfl, Below.refl _ _⟩
  · have e1 : ((s.size : Int) == 0) = false := by rw [beq_eq_false_iff_ne]; omega
    by_cases h2 : 20 < s.size
    · have e2 : decide ((20 : Int) < (s.size : Int)) = true := by simp; omega
      have HN := hid (nameB_short (s := s) (.inr h2))
      go_enter Tryz.func28, Tryz.ntmps28
      go_wp2
      go_ret
      exact ⟨by rw [HN.out]; first | done | rfl, Below.refl _ _⟩
    · have e2 : decide ((20 : Int) < (s.size : Int)) = false := by simp; omega
      go_enter Tryz.func28, Tryz.ntmps28
      go_wp2_with fail
      go_loopw [3, 4, 5, 6] (fun _ _ _ _ wr => ∃ k : Nat, k ≤ s.size ∧ wr = w.iter s k ∧ Hid (∀ j (hj : j < s.size), j < k → nameC s[j] = true)) (fun _ _ _ _ wr => s.size - posAt w wr)
      case atStart => exact ⟨0, by omega, rfl, hid (fun j _ hj => absurd hj (by omega))⟩
      case round =>
        obtain ⟨k, hk, rfl, HI⟩ := hrel
        by_cases hlt : k < s.size
        · obtain ⟨r, p, hnx, hp⟩ := next_any (P := Tryz.prog) w s k hlt
          have HP := hid hp
          clear hp
          have hlt' : (k : Int) < (s.size : Int) := by omega
          have hcb := s[k].toNat_lt
          go_wp2_with fail
          go_loopw [4, 5] (fun ok c wx => ∃ m : Nat, 97 ≤ m ∧ m ≤ 123 ∧ c = .int .u8 (m : Int) ∧ ok = .bool (metB s[k] 97 m) ∧ wx = w.iter s p) (fun _ c _ => 123 - (intOf c).toNat)
          case atStart => exact ⟨97, by omega, by omega, rfl, by rw [metB_start], rfl⟩
          case round =>
            obtain ⟨m, hm1, hm2, rfl, rfl, rfl⟩ := hrel
            by_cases hm : m ≤ 122
            · have g1 : decide ((m : Int) ≤ 122) = true := by simp; omega
              have hw : IntKind.u8.wrap ((m : Int) + 1) = ((m + 1 : Nat) : Int) := by simp [IntKind.wrap, IntKind.bits, IntKind.signed]; omega
              have HS := hid (metB_succ s[k] 97 m hm1)
              generalize metB s[k] 97 m = mb at *
              cases mb with
              | true =>
                go_wp2_with fail
                go_roundw
                case rel => exact ⟨m + 1, by omega, by omega, by go_num, by rw [HS.out]; first | (simp; done) | (simp; exact beq_cast _ _), by first | rfl | trivial⟩
                case measure => simp [intOf]; omega
              | false =>
                go_wp2_with fail
                go_roundw
                case rel => exact ⟨m + 1, by omega, by omega, by go_num, by rw [HS.out]; first | (simp; done) | (simp; exact beq_cast _ _), by first | rfl | trivial⟩
                case measure => simp [intOf]; omega
            · have g1 : decide ((m : Int) ≤ 122) = false := by simp; omega
              obtain rfl : m = 123 := by omega
              go_wp2_with fail
              go_loopw [4, 6] (fun ok c wx => ∃ q : Nat, 48 ≤ q ∧ q ≤ 58 ∧ c = .int .u8 (q : Int) ∧ ok = .bool (metB s[k] 97 123 || metB s[k] 48 q) ∧ wx = w.iter s p) (fun _ c _ => 58 - (intOf c).toNat)
              case atStart => exact ⟨48, by omega, by omega, rfl, by rw [metB_start, Bool.or_false], rfl⟩
              case round =>
                obtain ⟨q, hq1, hq2, rfl, rfl, rfl⟩ := hrel
                by_cases hq : q ≤ 57
                · have g2 : decide ((q : Int) ≤ 57) = true := by simp; omega
                  have hw : IntKind.u8.wrap ((q : Int) + 1) = ((q + 1 : Nat) : Int) := by simp [IntKind.wrap, IntKind.bits, IntKind.signed]; omega
                  have HS := hid (show (metB s[k] 97 123 || metB s[k] 48 (q + 1)) = ((metB s[k] 97 123 || metB s[k] 48 q) || decide (s[k].toNat = q)) by rw [metB_succ s[k] 48 q hq1, Bool.or_assoc])
                  generalize (metB s[k] 97 123 || metB s[k] 48 q) = mb at *
                  cases mb with
                  | true =>
                    go_wp2_with fail
                    go_roundw
                    case rel => exact ⟨q + 1, by omega, by omega, by go_num, by rw [HS.out]; first | (simp; done) | (simp; exact beq_cast _ _), by first | rfl | trivial⟩
                    case measure => simp [intOf]; omega
                  | false =>
                    go_wp2_with fail
                    go_roundw
                    case rel => exact ⟨q + 1, by omega, by omega, by go_num, by rw [HS.out]; first | (simp; done) | (simp; exact beq_cast _ _), by first | rfl | trivial⟩
                    case measure => simp [intOf]; omega
                · have g2 : decide ((q : Int) ≤ 57) = false := by simp; omega
                  obtain rfl : q = 58 := by omega
                  have HM := hid (metB_name s[k])
                  rw [HM.out]
                  by_cases hc : nameC s[k] = true
                  · rw [hc]
                    have hpk := HP.out (nameC_ascii hc)
                    have HPK := hid hpk
                    clear hpk
                    go_wp2_with fail
                    go_roundw
                    case rel => exact ⟨k + 1, by omega, by rw [HPK.out], hid (fun j hj hj2 => by
                      by_cases e : j = k
                      · subst e; exact hc
                      · exact HI.out j hj (by omega))⟩
                    case measure => rw [HPK.out, posAt_iter, posAt_iter]; omega
                  · have hc' : nameC s[k] = false := by simpa using hc
                    rw [hc']
                    have HN := hid (nameB_at k hlt hc')
                    go_wp2
                    go_ret
                    exact ⟨by rw [HN.out]; first | done | rfl, (Below.refl _ _).alloc (Nat.le_refl _) _⟩
        · have hnx := fun ty => run_next_end (P := Tryz.prog) w s k ty hlt
          have HN := hid (nameB_all (s := s) (by omega) (by omega) (fun j hj => HI.out j hj (by omega)))
          go_wp2
          go_ret
          exact ⟨by rw [HN.out]; first | done | rfl, (Below.refl _ _).alloc (Nat.le_refl _) _⟩
set_option maxRecDepth 100000 in
set_option maxHeartbeats 2000000 in
theorem refWrong_any (h : Hd) (v : Value) (N : Nat) (w : World) (hv : HdV w N v h) (hf : h.fits) :
    Calls Tryz.prog 97 #[v] w fun e w' => e = .returned (.int .i64 (wrongH h)) ∧ Below w.heap.size w w' := by
  obtain ⟨rv, vv, nv, rfl, h1, h2, h3⟩ := hv
  obtain ⟨o1, c1, rfl, _⟩ := h1.shape
  obtain ⟨o2, c2, rfl, _⟩ := h2.shape
  obtain ⟨o3, c3, rfl, _⟩ := h3.shape
  obtain ⟨f1, f2, f3, f4⟩ := hf
  clear h1 h2 h3
  obtain ⟨w0, hw0⟩ : ∃ w0, w.alloc (.cells #[.string h.chain, .int .i64 h.height, .int .i64 h.time, .slice o1 h.root.length c1, .slice o2 h.vals.length c2, .slice o3 h.next.length c3] 29) = w0 := ⟨_, rfl⟩
  have HB0 := hid (show Below w.heap.size w w0 by rw [← hw0]; exact (Below.refl _ _).alloc (Nat.le_refl _) _)
  have HR0 := hid (show Row w0 w.heap.size 29 [.string h.chain, .int .i64 h.height, .int .i64 h.time, .slice o1 h.root.length c1, .slice o2 h.vals.length c2, .slice o3 h.next.length c3] by rw [← hw0]; exact Row.new _ _ _)
  have HNM := hid (refName_any h.chain w0 f1)
  obtain ⟨k0, _, _, _, _, _⟩ := HR0.out.six
  by_cases hn : nameB h.chain = true
  · by_cases hr : h.height < 1 ∨ 1000000000000 < h.height ∨ h.time < 0 ∨ 1000000000000 < h.time
    · have HW := hid (show wrongH h = 3 by unfold wrongH; rw [if_neg (by rw [hn]; decide), if_pos hr])
      rw [hn] at HNM
      have HRR := hid hr
      clear hr hn
      go_enter Tryz.func97, Tryz.ntmps97
      go_wp2_with fail
      refine HNM.out.mono ?_
      rintro e w1 ⟨rfl, hb1⟩
      have HB1 := hid (HB0.out.trans (hb1.mono HB0.out.size))
      obtain ⟨_, j1, j2, _, _, _⟩ := (HR0.out.below hb1 HR0.out.lt).six
      clear hb1 hw0
      by_cases g0 : h.height = 0
      · have e0 : (h.height == 0) = true := by simp [g0]
        have HG0 := hid g0
        clear g0
        go_wp2
        go_ret
        exact ⟨by rw [HW.out]; first | done | rfl, HB1.out⟩
      · have e0 : (h.height == 0) = false := by simp [g0]
        by_cases g1 : 0 ≤ h.height ∧ h.height ≤ 1000000000000
        · have e1 : (decide (0 ≤ h.height) && decide (h.height ≤ 1000000000000)) = true := by simpa using g1
          have e2 : (decide (0 ≤ h.time) && decide (h.time ≤ 1000000000000)) = false := by
            have := HRR.out
            rw [Bool.eq_false_iff]
            simp
            omega
          have HN1 := hid (fun w => refNumH_any h.height w)
          have HN2 := hid (fun w => refNumH_any h.time w)
          rw [e1] at HN1
          rw [e2] at HN2
          clear e1 e2 g1
          go_wp2_with fail
          refine (HN1.out _).mono ?_
          rintro e w2 ⟨rfl, hw2⟩
          obtain rfl := hw2.symm
          go_wp2_with fail
          refine (HN2.out _).mono ?_
          rintro e w2 ⟨rfl, hw2⟩
          obtain rfl := hw2.symm
          go_wp2
          go_ret
          exact ⟨by rw [HW.out]; first | done | rfl, HB1.out⟩
        · have e1 : (decide (0 ≤ h.height) && decide (h.height ≤ 1000000000000)) = false := by rw [Bool.eq_false_iff]; simpa using g1
          have HN1 := hid (fun w => refNumH_any h.height w)
          rw [e1] at HN1
          clear e1 g1
          go_wp2_with fail
          refine (HN1.out _).mono ?_
          rintro e w2 ⟨rfl, hw2⟩
          obtain rfl := hw2.symm
          go_wp2
          go_ret
          exact ⟨by rw [HW.out]; first | done | rfl, HB1.out⟩
    · have HW := hid (show wrongH h = if h.root.length ≠ 32 ∨ h.vals.length ≠ 32 ∨ h.next.length ≠ 32 then 2 else 0 by unfold wrongH; rw [if_neg (by rw [hn]; decide), if_neg hr])
      rw [hn] at HNM
      have e0 : (h.height == 0) = false := by rw [beq_eq_false_iff_ne]; omega
      have e1 : (decide (0 ≤ h.height) && decide (h.height ≤ 1000000000000)) = true := by simp; omega
      have e2 : (decide (0 ≤ h.time) && decide (h.time ≤ 1000000000000)) = true := by simp; omega
      have HN1 := hid (fun w => refNumH_any h.height w)
      have HN2 := hid (fun w => refNumH_any h.time w)
      rw [e1] at HN1
      rw [e2] at HN2
      clear hr hn e1 e2
      go_enter Tryz.func97, Tryz.ntmps97
      go_wp2_with fail
      refine HNM.out.mono ?_
      rintro e w1 ⟨rfl, hb1⟩
      have HB1 := hid (HB0.out.trans (hb1.mono HB0.out.size))
      obtain ⟨_, j1, j2, j3, j4, j5⟩ := (HR0.out.below hb1 HR0.out.lt).six
      clear hb1 hw0
      go_wp2_with fail
      refine (HN1.out _).mono ?_
      rintro e w2 ⟨rfl, hw2⟩
      obtain rfl := hw2.symm
      go_wp2_with fail
      refine (HN2.out _).mono ?_
      rintro e w2 ⟨rfl, hw2⟩
      obtain rfl := hw2.symm
      obtain ⟨w3, hw3⟩ : ∃ w3, w1.alloc (.cells #[.slice o1 h.root.length c1, .slice o2 h.vals.length c2, .slice o3 h.next.length c3] 25) = w3 := ⟨_, rfl⟩
      have HR3 := hid (show Row w3 w1.heap.size 25 [.slice o1 h.root.length c1, .slice o2 h.vals.length c2, .slice o3 h.next.length c3] by rw [← hw3]; exact Row.new _ _ _)
      have HB3 := hid (show Below w.heap.size w w3 by rw [← hw3]; exact HB1.out.alloc HB1.out.size _)
      go_wp2_with fail
      generalize h.root.length = m1 at *
      generalize h.vals.length = m2 at *
      generalize h.next.length = m3 at *
      have q0 := HR3.out.cell 0
      have q1 := HR3.out.cell 1
      have q2 := HR3.out.cell 2
      go_loop [4, 32] (fun _ i => ∃ k : Nat, k ≤ 3 ∧ i = .int .i64 (k : Int) ∧ Hid ((0 < k → m1 = 32) ∧ (1 < k → m2 = 32) ∧ (2 < k → m3 = 32))) (fun _ i => 3 - (intOf i).toNat)
      case atStart => exact ⟨0, by omega, rfl, hid ⟨by omega, by omega, by omega⟩⟩
      case round =>
        obtain ⟨k, hk, rfl, HI⟩ := hrel
        obtain rfl | rfl | rfl | rfl : k = 0 ∨ k = 1 ∨ k = 2 ∨ k = 3 := by omega
        · by_cases hm : m1 = 32
          · have e3 : ((m1 : Int) != 32) = false := by simp; omega
            have HM := hid hm
            clear hm
            go_wp2
            go_round
            case rel => exact ⟨1, by omega, by go_num, hid ⟨fun _ => HM.out, by omega, by omega⟩⟩
            case measure => simp [intOf]
          · have e3 : ((m1 : Int) != 32) = true := by simp; omega
            have HW2 := hid (HW.out.trans (if_pos (.inl hm)))
            clear hm
            go_wp2
            go_ret
            exact ⟨by rw [HW2.out]; first | done | rfl, HB3.out⟩
        · by_cases hm : m2 = 32
          · have e3 : ((m2 : Int) != 32) = false := by simp; omega
            have HM := hid hm
            clear hm
            go_wp2
            go_round
            case rel => exact ⟨2, by omega, by go_num, hid ⟨fun _ => HI.out.1 (by omega), fun _ => HM.out, by omega⟩⟩
            case measure => simp [intOf]
          · have e3 : ((m2 : Int) != 32) = true := by simp; omega
            have HW2 := hid (HW.out.trans (if_pos (.inr (.inl hm))))
            clear hm
            go_wp2
            go_ret
            exact ⟨by rw [HW2.out]; first | done | rfl, HB3.out⟩
        · by_cases hm : m3 = 32
          · have e3 : ((m3 : Int) != 32) = false := by simp; omega
            have HM := hid hm
            clear hm
            go_wp2
            go_round
            case rel => exact ⟨3, by omega, by go_num, hid ⟨fun _ => HI.out.1 (by omega), fun _ => HI.out.2.1 (by omega), fun _ => HM.out⟩⟩
            case measure => simp [intOf]
          · have e3 : ((m3 : Int) != 32) = true := by simp; omega
            have HW2 := hid (HW.out.trans (if_pos (.inr (.inr hm))))
            clear hm
            go_wp2
            go_ret
            exact ⟨by rw [HW2.out]; first | done | rfl, HB3.out⟩
        · have HW2 := hid (HW.out.trans (if_neg (by have := HI.out.1 (by omega); have := HI.out.2.1 (by omega); have := HI.out.2.2 (by omega); omega)))
          go_wp2
          go_ret
          exact ⟨by rw [HW2.out]; first | done | rfl, HB3.out⟩
  · have hn' : nameB h.chain = false := by simpa using hn
    have HW := hid (show wrongH h = 7 by unfold wrongH; rw [if_pos hn'])
    rw [hn'] at HNM
    clear hn hn'
    go_enter Tryz.func97, Tryz.ntmps97
    go_wp2_with fail
    refine HNM.out.mono ?_
    rintro e w1 ⟨rfl, hb1⟩
    have HB1 := hid (HB0.out.trans (hb1.mono HB0.out.size))
    clear hb1 hw0
    go_wp2
    go_ret
    exact ⟨by rw [HW.out]; first | done | rfl, HB1.out⟩
end Go.Proofs.YtiflkkelbnpniaaGreatDoor
namespace Go.Proofs.YtiflkkelbnpniaaGreatDoor
open Go.RowKit

set_option maxRecDepth 100000 in
set_option maxHeartbeats 2000000 in
theorem refValsC : ValsC 73 := by
  intro l sv N w hb hN hlen
  obtain ⟨oa, ca, rfl, hca⟩ := hb.shape
  have HB := hid hb
  clear hb
  generalize hn : l.length = n at *
  have HN := hid hn
  clear hn
  by_cases h1 : n = 0
  · have e1 : ((n : Int) == 0) = true := by simp [h1]
    have HV := hid (vals_many l (.inl (by rw [HN.out]; omega)))
    clear h1
    go_enter Tryz.func73, Tryz.ntmps73
    go_wp2
    go_ret
    exact ⟨by rw [HV.out]; first | done | rfl, Below.refl _ _⟩
  · have e1 : ((n : Int) == 0) = false := by rw [beq_eq_false_iff_ne]; omega
    by_cases h2 : 10 < n
    · have e2 : decide ((10 : Int) < (n : Int)) = true := by simp; omega
      have HV := hid (vals_many l (.inr (by rw [HN.out]; exact h2)))
      go_enter Tryz.func73, Tryz.ntmps73
      go_wp2
      go_ret
      exact ⟨by rw [HV.out]; first | done | rfl, Below.refl _ _⟩
    · have e2 : decide ((10 : Int) < (n : Int)) = false := by simp; omega
      have HV := hid (vals_few l (by rw [HN.out]; omega))
      go_enter Tryz.func73, Tryz.ntmps73
      go_wp2
      go_loopw [3, 4, 15] (fun _ _ i wr => ∃ k : Nat, k ≤ n ∧ i = .int .i64 (k : Int) ∧ (∃ q, wr = w.drewN q) ∧ Hid (valsN l = valsGo (prevV l k) (l.drop k))) (fun _ _ i _ => n - (intOf i).toNat)
      case atStart => exact ⟨0, by omega, rfl, ⟨0, rfl⟩, hid HV.out⟩
      case round =>
        obtain ⟨k, hk, rfl, ⟨q, rfl⟩, HT⟩ := hrel
        by_cases hlt : k < n
        · obtain ⟨v, hv⟩ : ∃ v, l[k]? = some v := ⟨l[k]'(by rw [HN.out]; exact hlt), List.getElem?_eq_getElem _⟩
          obtain ⟨b, o, rfl, hcells⟩ := HB.out.spot (by omega)
          obtain ⟨hbN, d0, d1⟩ := hcells k v hv
          have f0 : ∀ q, (w.drewN q).cell? ⟨b, o + k * 2, none⟩ = some (.int .u64 (v.key : Int)) := fun _ => d0
          have f1 : ∀ q, (w.drewN q).cell? ⟨b, o + k * 2 + 1, none⟩ = some (.int .u64 (v.power : Int)) := fun _ => d1
          have HST := hid (valsGo_at l k v hv)
          have hlt' : (k : Int) < (n : Int) := by omega
          clear d0 d1
          by_cases hp1 : v.power = 0
          · have g1 : ((v.power : Int) == 0) = true := by simp [hp1]
            have HV2 := hid (show valsN l = 3 by rw [HT.out, HST.out, if_pos (.inl (by omega))])
            clear hp1
            go_wp2
            go_ret
            exact ⟨by rw [HV2.out]; first | done | rfl, below_drewH _ _ _⟩
          · have g1 : ((v.power : Int) == 0) = false := by rw [beq_eq_false_iff_ne]; omega
            by_cases hp2 : 1000000 < v.power
            · have g2 : decide ((1000000 : Int) < (v.power : Int)) = true := by simp; omega
              have HV2 := hid (show valsN l = 3 by rw [HT.out, HST.out, if_pos (.inr hp2)])
              go_wp2
              go_ret
              exact ⟨by rw [HV2.out]; first | done | rfl, below_drewH _ _ _⟩
            · have g2 : decide ((1000000 : Int) < (v.power : Int)) = false := by simp; omega
              have HST2 := hid (HST.out.trans (if_neg (by omega)))
              clear HST
              go_wp2
              go_loopw [4] (fun i wx => ∃ m : Nat, m ≤ k ∧ i = .int .i64 (m : Int) ∧ (∃ q, wx = w.drewN q) ∧ Hid (m = k → valsN l = valsGo (prevV l (k + 1)) (l.drop (k + 1)))) (fun i _ => k - (intOf i).toNat)
              case atStart =>
                refine ⟨0, by omega, rfl, ⟨q, rfl⟩, hid (fun h0 => ?_)⟩
                subst h0
                rw [HT.out, HST2.out, if_neg (by simp [prevV_zero, aheadB])]
              case round =>
                obtain ⟨m, hm, rfl, ⟨q2, rfl⟩, HM⟩ := hrel
                by_cases hmk : m < k
                · have hmk' : (m : Int) < (k : Int) := by omega
                  have hmk'' : decide ((m : Int) < (k : Int)) = true := by simp; omega
                  have hmkn : decide (m < k) = true := decide_eq_true hmk
                  have hk1 : IntKind.i64.wrap ((k : Int) - 1) = (k : Int) - 1 := by simp [IntKind.wrap, IntKind.bits, IntKind.signed]; split <;> omega
                  by_cases he : m + 1 = k
                  · obtain ⟨y, hy⟩ : ∃ y, l[m]? = some y := ⟨l[m]'(by rw [HN.out]; omega), List.getElem?_eq_getElem _⟩
                    obtain ⟨_, t0, _⟩ := hcells m y hy
                    have t0' : ∀ q, (w.drewN q).cell? ⟨b, o + m * 2, none⟩ = some (.int .u64 (y.key : Int)) := fun _ => t0
                    have HPV := hid (show prevV l k = some y.key by rw [← he]; exact prevV_succ l m y hy)
                    have g3 : ((m : Int) == (k : Int) - 1) = true := by rw [beq_iff_eq]; omega
                    have hmn : (m : Int) < (n : Int) := by omega
                    have HE := hid he
                    clear t0 hy he hcells
                    by_cases hle : v.key ≤ y.key
                    · have g5 : decide ((v.key : Int) ≤ (y.key : Int)) = true := by simp; omega
                      have g5n : decide (v.key ≤ y.key) = true := decide_eq_true hle
                      have HV2 := hid (show valsN l = 2 by rw [HT.out, HST2.out, HPV.out, if_pos (by simpa [aheadB] using hle)])
                      clear hle
                      go_wp2_with fail
                      go_quiet (fail)
                      go_wp2
                      go_ret
                      exact ⟨by rw [HV2.out]; first | done | rfl, (below_drewH w q2 _).trans (below_drewH _ _ _)⟩
                    · have g5 : decide ((v.key : Int) ≤ (y.key : Int)) = false := by simp; omega
                      have g5n : decide (v.key ≤ y.key) = false := decide_eq_false hle
                      have HV2 := hid (show valsN l = valsGo (prevV l (k + 1)) (l.drop (k + 1)) by rw [HT.out, HST2.out, HPV.out, if_neg (by simpa [aheadB] using hle)])
                      clear hle
                      go_wp2_with fail
                      go_quiet (fail)
                      go_wp2
                      go_roundw
                      case rel => exact ⟨m + 1, by omega, by go_num, ⟨_, rfl⟩, hid (fun _ => HV2.out)⟩
                      case measure => simp [intOf]; omega
                  · have g3 : ((m : Int) == (k : Int) - 1) = false := by rw [beq_eq_false_iff_ne]; omega
                    clear hcells
                    go_wp2_with fail
                    go_quiet (fail)
                    go_wp2
                    go_roundw
                    case rel => exact ⟨m + 1, by omega, by go_num, ⟨_, rfl⟩, hid (fun h => absurd h he)⟩
                    case measure => simp [intOf]; omega
                · have hmk'' : decide ((m : Int) < (k : Int)) = false := by simp; omega
                  have hmkn : decide (m < k) = false := decide_eq_false hmk
                  have HV2 := hid (HM.out (by omega))
                  go_wp2
                  go_roundw
                  case rel => exact ⟨k + 1, by omega, by go_num, ⟨q2, rfl⟩, hid HV2.out⟩
                  case measure => simp [intOf]; omega
        · have hge : decide ((k : Int) < (n : Int)) = false := by simp; omega
          have HV2 := hid (show valsN l = 0 by rw [HT.out, valsGo_end l k (by rw [HN.out]; omega)])
          go_wp2
          go_ret
          exact ⟨by rw [HV2.out]; first | done | rfl, below_drewH _ _ _⟩
end Go.Proofs.YtiflkkelbnpniaaGreatDoor
namespace Go.Proofs.YtiflkkelbnpniaaGreatDoor
open Go.RowKit

theorem refTime_any (n : Int) (w : World) : Calls Tryz.prog 11 #[.int .i64 n] w fun e w' => e = .returned (.bool (timeN n)) ∧ w' = w := refNumH_any n w
set_option maxRecDepth 100000 in
set_option maxHeartbeats 4000000 in
theorem refClWrongC : ClWrongC 7 := by
  intro c v N w hv hN hfit
  obtain ⟨kv, rfl, hk⟩ := hv
  obtain ⟨f1, f2, f3⟩ := hfit
  obtain ⟨oa, ca, rfl, hca⟩ := hk.shape
  have HK := hid hk
  have HF1 := hid f1
  clear hk f3 f1
  obtain ⟨w0, hw0⟩ : ∃ w0, w.alloc (.cells #[.string c.chain, .int .i64 c.trust, .bool c.frozen, .slice oa c.known.length ca] 24) = w0 := ⟨_, rfl⟩
  have hb0 : Below w.heap.size w w0 := by rw [← hw0]; exact (Below.refl _ _).alloc (Nat.le_refl _) _
  have HB0 := hid hb0
  have hr0 := (show Row w0 w.heap.size 24 [.string c.chain, .int .i64 c.trust, .bool c.frozen, .slice oa c.known.length ca] by rw [← hw0]; exact Row.new _ _ _)
  have HR0 := hid hr0
  have HW0 := hid hw0
  obtain ⟨⟨k0, k1, k2, k3⟩, -⟩ := hr0.four
  clear hr0 hb0 hw0
  by_cases hn : nameB c.chain = true
  · have HNM := hid hn
    by_cases ht : c.trust < 1 ∨ 1000000000000 < c.trust
    · have HW := hid (wrongCl_3 hn ht)
      by_cases r1 : c.trust = 0
      · have e1 : (c.trust == 0) = true := by simpa using r1
        clear ht r1 hn
        go_enter Tryz.func7, Tryz.ntmps7
        go_wp2_with fail
        rw [HW0.out]
        refine (refName_any _ _ HF1.out).mono ?_
        rintro e w1 ⟨rfl, hb1⟩
        rw [HNM.out]
        have HB01 := hid hb1
        have HB1 := hid (HB0.out.trans (hb1.mono HB0.out.size))
        have HR1 := hid (HR0.out.below hb1 HR0.out.lt)
        clear hb1 k0 k1 k2 k3
        obtain ⟨⟨k0, k1, k2, k3⟩, -⟩ := HR1.out.four
        go_wp2
        go_ret
        exact ⟨by rw [HW.out]; first | done | rfl, HB1.out⟩
      · have e1 : (c.trust == 0) = false := by simpa using r1
        have HT := hid (timeN_false (n := c.trust) (by omega))
        clear ht r1 hn
        go_enter Tryz.func7, Tryz.ntmps7
        go_wp2_with fail
        rw [HW0.out]
        refine (refName_any _ _ HF1.out).mono ?_
        rintro e w1 ⟨rfl, hb1⟩
        rw [HNM.out]
        have HB01 := hid hb1
        have HB1 := hid (HB0.out.trans (hb1.mono HB0.out.size))
        have HR1 := hid (HR0.out.below hb1 HR0.out.lt)
        clear hb1 k0 k1 k2 k3
        obtain ⟨⟨k0, k1, k2, k3⟩, -⟩ := HR1.out.four
        go_wp2_with (go_at_call 11; refine (refTime_any _ _).mono ?_; rintro e w' ⟨rfl, hw'⟩; obtain rfl := hw'.symm; (rw [HT.out]))
        go_ret
        exact ⟨by rw [HW.out]; first | done | rfl, HB1.out⟩
    · have e1 : (c.trust == 0) = false := by rw [beq_eq_false_iff_ne]; omega
      have HT := hid (timeN_true (n := c.trust) (by omega))
      by_cases hm : c.known.length < 1 ∨ 30 < c.known.length
      · have HW := hid (wrongCl_5 hn ht hm)
        by_cases r1 : c.known.length = 0
        · have e3 : ((c.known.length : Int) == 0) = true := by rw [beq_iff_eq]; omega
          clear ht hm r1 hn
          go_enter Tryz.func7, Tryz.ntmps7
          go_wp2_with fail
          rw [HW0.out]
          refine (refName_any _ _ HF1.out).mono ?_
          rintro e w1 ⟨rfl, hb1⟩
          rw [HNM.out]
          have HB01 := hid hb1
          have HB1 := hid (HB0.out.trans (hb1.mono HB0.out.size))
          have HR1 := hid (HR0.out.below hb1 HR0.out.lt)
          clear hb1 k0 k1 k2 k3
          obtain ⟨⟨k0, k1, k2, k3⟩, -⟩ := HR1.out.four
          go_wp2_with (go_at_call 11; refine (refTime_any _ _).mono ?_; rintro e w' ⟨rfl, hw'⟩; obtain rfl := hw'.symm; (rw [HT.out]))
          go_ret
          exact ⟨by rw [HW.out]; first | done | rfl, HB1.out⟩
        · have e3 : ((c.known.length : Int) == 0) = false := by rw [beq_eq_false_iff_ne]; omega
          have e4 : decide (30 < (c.known.length : Int)) = true := by simp; omega
          clear ht hm r1 hn
          go_enter Tryz.func7, Tryz.ntmps7
          go_wp2_with fail
          rw [HW0.out]
          refine (refName_any _ _ HF1.out).mono ?_
          rintro e w1 ⟨rfl, hb1⟩
          rw [HNM.out]
          have HB01 := hid hb1
          have HB1 := hid (HB0.out.trans (hb1.mono HB0.out.size))
          have HR1 := hid (HR0.out.below hb1 HR0.out.lt)
          clear hb1 k0 k1 k2 k3
          obtain ⟨⟨k0, k1, k2, k3⟩, -⟩ := HR1.out.four
          go_wp2_with (go_at_call 11; refine (refTime_any _ _).mono ?_; rintro e w' ⟨rfl, hw'⟩; obtain rfl := hw'.symm; (rw [HT.out]))
          go_ret
          exact ⟨by rw [HW.out]; first | done | rfl, HB1.out⟩
      · have e3 : ((c.known.length : Int) == 0) = false := by rw [beq_eq_false_iff_ne]; omega
        have e4 : decide (30 < (c.known.length : Int)) = false := by simp; omega
        have HW := hid (wrongCl_go hn ht hm)
        have h30 : c.known.length ≤ 30 := by omega
        clear ht hm hn
        generalize hnn : c.known.length = n at *
        have HN := hid hnn
        clear hnn
        generalize hl : c.known = l at *
        clear hl
        go_enter Tryz.func7, Tryz.ntmps7
        go_wp2_with fail
        rw [HW0.out]
        refine (refName_any _ _ HF1.out).mono ?_
        rintro e w1 ⟨rfl, hb1⟩
        rw [HNM.out]
        have HB01 := hid hb1
        have HB1 := hid (HB0.out.trans (hb1.mono HB0.out.size))
        have HR1 := hid (HR0.out.below hb1 HR0.out.lt)
        clear hb1 k0 k1 k2 k3
        obtain ⟨⟨k0, k1, k2, k3⟩, -⟩ := HR1.out.four
        go_wp2_with (go_at_call 11; refine (refTime_any _ _).mono ?_; rintro e w' ⟨rfl, hw'⟩; obtain rfl := hw'.symm; (rw [HT.out]))
        go_loopw [3, 4, 5, 32] (fun s3 _ _ i wr => ∃ (k : Nat) (p : Int), k ≤ n ∧ s3 = .int .i64 p ∧ i = .int .i64 (k : Int) ∧ Hid (Below w1.heap.size w1 wr ∧ wrongCl c = knGo (prevKn l k) (l.drop k) ∧ (k ≠ 0 → prevKn l k = some p))) (fun _ _ _ i _ => n - (intOf i).toNat)
        case atStart => exact ⟨0, 0, by omega, rfl, rfl, hid ⟨Below.refl _ _, HW.out, fun h => absurd rfl h⟩⟩
        case round =>
          obtain ⟨k, p, hk, rfl, rfl, HT⟩ := hrel
          have hszr := HT.out.1.size
          have HBW := hid (HB1.out.trans (HT.out.1.mono HB1.out.size))
          have hszw := HB1.out.size
          by_cases hlt : k < n
          · obtain ⟨x, hx⟩ : ∃ x, l[k]? = some x := ⟨l[k]'(by rw [HN.out]; exact hlt), List.getElem?_eq_getElem _⟩
            obtain ⟨b, o, rfl, hcells⟩ := HK.out.spot (by omega)
            obtain ⟨hbN, vr, vn, d0, d1, d2, d3, b2, b3⟩ := hcells k x hx
            obtain ⟨o2, c2, rfl, -⟩ := b2.shape
            obtain ⟨o3, c3, rfl, -⟩ := b3.shape
            have hbl : b < w.heap.size := by omega
            have f0 := (HBW.out.cell (p := ⟨b, o + k * 4, none⟩) hbl).trans d0
            have f1 := (HBW.out.cell (p := ⟨b, o + k * 4 + 1, none⟩) hbl).trans d1
            have f2 := (HBW.out.cell (p := ⟨b, o + k * 4 + 2, none⟩) hbl).trans d2
            have f3 := (HBW.out.cell (p := ⟨b, o + k * 4 + 3, none⟩) hbl).trans d3
            have HST := hid (knGo_at l k x hx)
            have HPS := hid (prevKn_succ l k x hx)
            have hlt' : (k : Int) < (n : Int) := by omega
            obtain ⟨w2, hw2⟩ : ∃ w2, wr.alloc (.cells #[.int .i64 x.height, .int .i64 x.time, .slice o2 x.root.length c2, .slice o3 x.next.length c3] 27) = w2 := ⟨_, rfl⟩
            have hbr2 : Below wr.heap.size wr w2 := by rw [← hw2]; exact (Below.refl _ _).alloc (Nat.le_refl _) _
            have HB2 := hid (HT.out.1.trans (hbr2.mono hszr))
            have HBW2 := hid (HBW.out.trans (hbr2.mono HBW.out.size))
            have hrow2 : Row w2 wr.heap.size 27 [.int .i64 x.height, .int .i64 x.time, .slice o2 x.root.length c2, .slice o3 x.next.length c3] := by rw [← hw2]; exact Row.new _ _ _
            have q0 := hrow2.cell 0
            have q1 := hrow2.cell 1
            have q2 := hrow2.cell 2
            have q3 := hrow2.cell 3
            have HW2 := hid hw2
            clear d0 d1 d2 d3 hbr2 hrow2 b2 b3 hcells hx
            have STEP := fun (hne : wrongK x = 0) => HST.out.trans (if_neg (fun h => h hne))
            have BAD := fun (hne : wrongK x ≠ 0) => HST.out.trans (if_pos hne)
            have STEP' := hid STEP
            have BAD' := hid BAD
            clear STEP BAD
            by_cases hr : x.height < 1 ∨ 1000000000000 < x.height ∨ x.time < 0 ∨ 1000000000000 < x.time
            · have HV2 := hid (show wrongCl c = 3 by rw [HT.out.2.1, BAD'.out (by rw [wrongK_3 hr]; decide), wrongK_3 hr])
              by_cases r1 : x.height = 0
              · have e5 : (x.height == 0) = true := by simpa using r1
                clear hr r1
                go_wp2
                go_ret
                exact ⟨by rw [HV2.out]; first | done | rfl, HBW2.out⟩
              · have e5 : (x.height == 0) = false := by simpa using r1
                by_cases r2 : x.height < 0 ∨ 1000000000000 < x.height
                · have HT1 := hid (timeN_false r2)
                  clear hr r1 r2
                  go_wp2_with (go_at_call 11; refine (refTime_any _ _).mono ?_; rintro e w' ⟨rfl, hw'⟩; obtain rfl := hw'.symm; (rw [HT1.out]))
                  go_ret
                  exact ⟨by rw [HV2.out]; first | done | rfl, HBW2.out⟩
                · have HT1 := hid (timeN_true r2)
                  have HT2 := hid (timeN_false (n := x.time) (by omega))
                  clear hr r1 r2
                  go_wp2_with (go_at_call 11; refine (refTime_any _ _).mono ?_; rintro e w' ⟨rfl, hw'⟩; obtain rfl := hw'.symm; (first | rw [HT1.out] | rw [HT2.out]))
                  go_ret
                  exact ⟨by rw [HV2.out]; first | done | rfl, HBW2.out⟩
            · have e5 : (x.height == 0) = false := by rw [beq_eq_false_iff_ne]; omega
              have HT1 := hid (timeN_true (n := x.height) (by omega))
              have HT2 := hid (timeN_true (n := x.time) (by omega))
              by_cases l1 : x.root.length = 32
              · have e6 : ((x.root.length : Int) != 32) = false := by simp; omega
                by_cases l2 : x.next.length = 32
                · have e7 : ((x.next.length : Int) != 32) = false := by simp; omega
                  have HWK := hid (wrongK_0 hr (by omega))
                  clear hr l1 l2
                  by_cases hk0 : k = 0
                  · have e8 : decide ((0 : Int) < (k : Int)) = false := by simp; omega
                    have e9 : decide (0 < k) = false := by simp; omega
                    have HV2 := hid (show wrongCl c = knGo (prevKn l (k + 1)) (l.drop (k + 1)) by rw [HT.out.2.1, STEP'.out HWK.out, if_neg (by rw [hk0]; simp [prevKn_zero, aheadI])])
                    clear hk0
                    go_wp2_with (go_at_call 11; refine (refTime_any _ _).mono ?_; rintro e w' ⟨rfl, hw'⟩; obtain rfl := hw'.symm; (first | rw [HT1.out] | rw [HT2.out]))
                    go_roundw
                    case rel => exact ⟨k + 1, x.height, by omega, rfl, by go_num, hid ⟨HB2.out, HV2.out, fun _ => HPS.out⟩⟩
                    case measure => simp [intOf]; omega
                  · have e8 : decide ((0 : Int) < (k : Int)) = true := by simp; omega
                    have e9 : decide (0 < k) = true := by simp; omega
                    have HPV := hid (HT.out.2.2 hk0)
                    clear hk0
                    by_cases hle : x.height ≤ p
                    · have e10 : decide (x.height ≤ p) = true := by simpa using hle
                      have HV2 := hid (show wrongCl c = 2 by rw [HT.out.2.1, STEP'.out HWK.out, HPV.out, if_pos (by simpa [aheadI] using hle)])
                      clear hle
                      go_wp2_with (go_at_call 11; refine (refTime_any _ _).mono ?_; rintro e w' ⟨rfl, hw'⟩; obtain rfl := hw'.symm; (first | rw [HT1.out] | rw [HT2.out]))
                      go_ret
                      exact ⟨by rw [HV2.out]; first | done | rfl, HBW2.out⟩
                    · have e10 : decide (x.height ≤ p) = false := by simpa using hle
                      have HV2 := hid (show wrongCl c = knGo (prevKn l (k + 1)) (l.drop (k + 1)) by rw [HT.out.2.1, STEP'.out HWK.out, HPV.out, if_neg (by simpa [aheadI] using hle)])
                      clear hle
                      go_wp2_with (go_at_call 11; refine (refTime_any _ _).mono ?_; rintro e w' ⟨rfl, hw'⟩; obtain rfl := hw'.symm; (first | rw [HT1.out] | rw [HT2.out]))
                      go_roundw
                      case rel => exact ⟨k + 1, x.height, by omega, rfl, by go_num, hid ⟨HB2.out, HV2.out, fun _ => HPS.out⟩⟩
                      case measure => simp [intOf]; omega
                · have e7 : ((x.next.length : Int) != 32) = true := by simp; omega
                  have HV2 := hid (show wrongCl c = 2 by rw [HT.out.2.1, BAD'.out (by rw [wrongK_2 hr (.inr l2)]; decide), wrongK_2 hr (.inr l2)])
                  clear hr l1 l2
                  go_wp2_with (go_at_call 11; refine (refTime_any _ _).mono ?_; rintro e w' ⟨rfl, hw'⟩; obtain rfl := hw'.symm; (first | rw [HT1.out] | rw [HT2.out]))
                  go_ret
                  exact ⟨by rw [HV2.out]; first | done | rfl, HBW2.out⟩
              · have e6 : ((x.root.length : Int) != 32) = true := by simp; omega
                have HV2 := hid (show wrongCl c = 2 by rw [HT.out.2.1, BAD'.out (by rw [wrongK_2 hr (.inl l1)]; decide), wrongK_2 hr (.inl l1)])
                clear hr l1
                go_wp2_with (go_at_call 11; refine (refTime_any _ _).mono ?_; rintro e w' ⟨rfl, hw'⟩; obtain rfl := hw'.symm; (first | rw [HT1.out] | rw [HT2.out]))
                go_ret
                exact ⟨by rw [HV2.out]; first | done | rfl, HBW2.out⟩
          · have hge : decide ((k : Int) < (n : Int)) = false := by simp; omega
            have HV2 := hid (show wrongCl c = 0 by rw [HT.out.2.1, knGo_end l k (by rw [HN.out]; omega)])
            go_wp2
            go_ret
            exact ⟨by rw [HV2.out]; first | done | rfl, HBW.out⟩
  · have hn' : nameB c.chain = false := by simpa using hn
    have HNM := hid hn'
    have HW := hid (wrongCl_7 hn')
    clear hn hn'
    go_enter Tryz.func7, Tryz.ntmps7
    go_wp2_with fail
    rw [HW0.out]
    refine (refName_any _ _ HF1.out).mono ?_
    rintro e w1 ⟨rfl, hb1⟩
    rw [HNM.out]
    have HB01 := hid hb1
    have HB1 := hid (HB0.out.trans (hb1.mono HB0.out.size))
    have HR1 := hid (HR0.out.below hb1 HR0.out.lt)
    clear hb1 k0 k1 k2 k3
    obtain ⟨⟨k0, k1, k2, k3⟩, -⟩ := HR1.out.four
    go_wp2
    go_ret
    exact ⟨by rw [HW.out]; first | done | rfl, HB1.out⟩
end Go.Proofs.YtiflkkelbnpniaaGreatDoor
namespace Go.Proofs.YtiflkkelbnpniaaGreatDoor
open Go.RowKit

theorem field_known1 (a b c d : Value) (w : World) : (Instr.field 27 (.agg #[a, b, c, d]) 1).run Tryz.prog w = .ok b w := by kernel_rfl
set_option maxRecDepth 100000 in
set_option maxHeartbeats 4000000 in
theorem refAtC : AtC 72 := by
  intro c h v N w hv hN hfit
  obtain ⟨kv, rfl, hk⟩ := hv
  obtain ⟨f1, f2, f3⟩ := hfit
  obtain ⟨oa, ca, rfl, hca⟩ := hk.shape
  obtain ⟨w0, hw0⟩ : ∃ w0, (w.alloc (.cells #[.string c.chain, .int .i64 c.trust, .bool c.frozen, .slice oa c.known.length ca] 24)).alloc (.cells #[.int .i64 0, .int .i64 0, .slice none 0 0, .slice none 0 0] 27) = w0 := ⟨_, rfl⟩
  have hb0 : Below w.heap.size w w0 := by rw [← hw0]; exact ((Below.refl _ _).alloc (Nat.le_refl _) _).alloc (by simp) _
  have hr0 : Row w0 w.heap.size 24 [.string c.chain, .int .i64 c.trust, .bool c.frozen, .slice oa c.known.length ca] := by rw [← hw0]; exact (Row.new _ _ _).alloc _
  have hr2 : Row w0 (w.heap.size + 1) 27 [.int .i64 0, .int .i64 0, .slice none 0 0, .slice none 0 0] := by rw [← hw0]; exact Row.newAt _ _ _ _ (by simp)
  have HK := hid hk
  have HB0 := hid hb0
  have HR0 := hid hr0
  have HR2 := hid hr2
  have k3 := hr0.cell 3
  have HW0 := hid hw0
  have hgw : w.heap.size + 1 < w0.heap.size := hr2.lt
  clear hk hb0 hr0 hr2 f3
  generalize hnn : c.known.length = n at *
  have HN := hid hnn
  clear hnn
  generalize hl : c.known = l at *
  clear hl
  go_enter Tryz.func72, Tryz.ntmps72
  go_wp2_with fail
  go_loopw [7, 11] (fun _ i wr => ∃ k : Nat, k ≤ n ∧ i = .int .i64 (k : Int) ∧ Hid (Below w0.heap.size w0 wr ∧ ∀ x ∈ l.take k, x.height ≠ h)) (fun _ i _ => n - (intOf i).toNat)
  case atStart => exact ⟨0, Nat.zero_le _, rfl, hid ⟨Below.refl _ _, by simp⟩⟩
  case round =>
    obtain ⟨k, hk, rfl, HR⟩ := hrel
    have hszr := HR.out.1.size
    have HBW := hid (HB0.out.trans (HR.out.1.mono HB0.out.size))
    have hszw := HB0.out.size
    by_cases hlt : k < n
    · have hlt' : (k : Int) < (n : Int) := by omega
      obtain ⟨x, hx⟩ : ∃ x, l[k]? = some x := ⟨l[k]'(by rw [HN.out]; exact hlt), List.getElem?_eq_getElem _⟩
      obtain ⟨b, o, rfl, hcells⟩ := HK.out.spot (by omega)
      obtain ⟨hbN, vr, vn, d0, d1, d2, d3, b2, b3⟩ := hcells k x hx
      obtain ⟨o2, c2, rfl, -⟩ := b2.shape
      obtain ⟨o3, c3, rfl, -⟩ := b3.shape
      have hbl : b < w.heap.size := by omega
      have f0 := (HBW.out.cell (p := ⟨b, o + k * 4, none⟩) hbl).trans d0
      have f1 := (HBW.out.cell (p := ⟨b, o + k * 4 + 1, none⟩) hbl).trans d1
      have f2 := (HBW.out.cell (p := ⟨b, o + k * 4 + 2, none⟩) hbl).trans d2
      have f3 := (HBW.out.cell (p := ⟨b, o + k * 4 + 3, none⟩) hbl).trans d3
      obtain ⟨w2, hw2⟩ : ∃ w2, wr.alloc (.cells #[.int .i64 x.height, .int .i64 x.time, .slice o2 x.root.length c2, .slice o3 x.next.length c3] 27) = w2 := ⟨_, rfl⟩
      have hbr2 : Below wr.heap.size wr w2 := by rw [← hw2]; exact (Below.refl _ _).alloc (Nat.le_refl _) _
      have HB2 := hid (HR.out.1.trans (hbr2.mono hszr))
      have HBW2 := hid (HBW.out.trans (hbr2.mono HBW.out.size))
      have hrow2 : Row w2 wr.heap.size 27 [.int .i64 x.height, .int .i64 x.time, .slice o2 x.root.length c2, .slice o3 x.next.length c3] := by rw [← hw2]; exact Row.new _ _ _
      obtain ⟨⟨q0, q1, q2, q3⟩, -⟩ := hrow2.four
      have HR22 := hid (HR2.out.below HB2.out HR2.out.lt)
      obtain ⟨⟨y0, y1, y2, y3⟩, z0, z1, z2, z3⟩ := HR22.out.four
      have HX := hid hx
      have HBY := hid (And.intro b2 b3)
      clear hcells d0 d1 d2 d3 b2 b3 hx hbr2 hrow2
      by_cases he : x.height = h
      · have HAT := hid (atK_first HR.out.2 HX.out he)
        have e1 : (x.height == h) = true := by simpa using he
        clear he
        go_wp2
        have hrz := set4_row HR22.out (.int .i64 x.height) (.int .i64 x.time) (.slice o2 x.root.length c2) (.slice o3 x.next.length c3)
        obtain ⟨⟨u0, u1, u2, u3⟩, -⟩ := hrz.four
        have hbz := set4_below HBW2.out (show w.heap.size ≤ w.heap.size + 1 by omega) (.int .i64 x.height) (.int .i64 x.time) (.slice o2 x.root.length c2) (.slice o3 x.next.length c3)
        have v2 := set4_bytes (g := w.heap.size + 1) (a := .int .i64 x.height) (b := .int .i64 x.time) (c := .slice o2 x.root.length c2) (d := .slice o3 x.next.length c3) (HBY.out.1.below (HBW2.out.mono hN)) (by omega)
        have v3 := set4_bytes (g := w.heap.size + 1) (a := .int .i64 x.height) (b := .int .i64 x.time) (c := .slice o2 x.root.length c2) (d := .slice o3 x.next.length c3) (HBY.out.2.below (HBW2.out.mono hN)) (by omega)
        unfold set4 at u0 u1 u2 u3
        refine bodyPost_ret (v := .tuple #[.agg #[.int .i64 x.height, .int .i64 x.time, .slice o2 x.root.length c2, .slice o3 x.next.length c3], .bool true]) (by simp [results, Tryz.results72, go_sem, u0, u1, u2, u3]) rfl ⟨hbz, o2, c2, o3, c3, ?_⟩
        rw [knAt_some HAT.out, HAT.out]
        exact ⟨rfl, v2, v3⟩
      · have HTK := hid (show ∀ y ∈ l.take (k + 1), y.height ≠ h from fun y hy => by
          rw [List.take_add_one, HX.out] at hy
          rcases List.mem_append.1 hy with hy | hy
          · exact HR.out.2 y hy
          · obtain rfl : y = x := by simpa using hy
            exact he)
        have e1 : (x.height == h) = false := by simpa using he
        clear he
        go_wp2
        go_roundw
        case rel => exact ⟨k + 1, by omega, by go_num, hid ⟨HB2.out, HTK.out⟩⟩
        case measure => simp [intOf]; omega
    · have hge : decide ((k : Int) < (n : Int)) = false := by simp; omega
      have HNO := hid (show atK l h = none from atK_of fun x hx => HR.out.2 x (by rw [List.take_of_length_le (by rw [HN.out]; omega)]; exact hx))
      have HR21 := hid (HR2.out.below HR.out.1 HR2.out.lt)
      obtain ⟨⟨y0, y1, y2, y3⟩, z0, z1, z2, z3⟩ := HR21.out.four
      go_wp2
      have hrz := set4_row HR21.out (.int .i64 0) (.int .i64 0) (.slice none 0 0) (.slice none 0 0)
      obtain ⟨⟨u0, u1, u2, u3⟩, -⟩ := hrz.four
      have hbz := set4_below HBW.out (show w.heap.size ≤ w.heap.size + 1 by omega) (.int .i64 0) (.int .i64 0) (.slice none 0 0) (.slice none 0 0)
      unfold set4 at u0 u1 u2 u3
      refine bodyPost_ret (v := .tuple #[.agg #[.int .i64 0, .int .i64 0, .slice none 0 0, .slice none 0 0], .bool false]) (by simp [results, Tryz.results72, go_sem, u0, u1, u2, u3]) rfl ⟨hbz, none, 0, none, 0, ?_⟩
      rw [knAt_none HNO.out, HNO.out]
      exact ⟨rfl, .inl ⟨rfl, rfl⟩, .inl ⟨rfl, rfl⟩⟩
set_option maxRecDepth 100000 in
set_option maxHeartbeats 4000000 in
theorem refLatest_any (c : Cl) (n : Nat) (x : Kn) (v : Value) (N : Nat) (w : World) (hv : ClV w N v c) (hN : N ≤ w.heap.size) (hn : c.known.length = n + 1) (hx : c.known[n]? = some x) (h30 : n ≤ 30) :
    Calls Tryz.prog 31 #[v] w fun e w' => Below w.heap.size w w' ∧ ∃ o2 c2 o3 c3, e = .returned (.agg #[.int .i64 x.height, .int .i64 x.time, .slice o2 x.root.length c2, .slice o3 x.next.length c3]) ∧ Bytes w' N (.slice o2 x.root.length c2) x.root ∧ Bytes w' N (.slice o3 x.next.length c3) x.next := by
  obtain ⟨kv, rfl, hk⟩ := hv
  obtain ⟨oa, ca, rfl, hca⟩ := hk.shape
  obtain ⟨w0, hw0⟩ : ∃ w0, (w.alloc (.cells #[.string c.chain, .int .i64 c.trust, .bool c.frozen, .slice oa c.known.length ca] 24)).alloc (.cells #[.int .i64 0, .int .i64 0, .slice none 0 0, .slice none 0 0] 27) = w0 := ⟨_, rfl⟩
  have hb0 : Below w.heap.size w w0 := by rw [← hw0]; exact ((Below.refl _ _).alloc (Nat.le_refl _) _).alloc (by simp) _
  have hr0 : Row w0 w.heap.size 24 [.string c.chain, .int .i64 c.trust, .bool c.frozen, .slice oa c.known.length ca] := by rw [← hw0]; exact (Row.new _ _ _).alloc _
  have hr2 : Row w0 (w.heap.size + 1) 27 [.int .i64 0, .int .i64 0, .slice none 0 0, .slice none 0 0] := by rw [← hw0]; exact Row.newAt _ _ _ _ (by simp)
  obtain ⟨b, o, rfl, hcells⟩ := hk.spot (by omega)
  obtain ⟨hbN, vr, vn, d0, d1, d2, d3, b2, b3⟩ := hcells n x hx
  obtain ⟨o2, c2, rfl, -⟩ := b2.shape
  obtain ⟨o3, c3, rfl, -⟩ := b3.shape
  have hbl : b < w.heap.size := by omega
  have f0 := (hb0.cell (p := ⟨b, o + n * 4, none⟩) hbl).trans d0
  have f1 := (hb0.cell (p := ⟨b, o + n * 4 + 1, none⟩) hbl).trans d1
  have f2 := (hb0.cell (p := ⟨b, o + n * 4 + 2, none⟩) hbl).trans d2
  have f3 := (hb0.cell (p := ⟨b, o + n * 4 + 3, none⟩) hbl).trans d3
  have HB0 := hid hb0
  have HR2 := hid hr2
  have k3 := hr0.cell 3
  simp only [List.getElem?_cons_zero, List.getElem?_cons_succ] at k3
  obtain ⟨⟨y0, y1, y2, y3⟩, z0, z1, z2, z3⟩ := hr2.four
  have HBY := hid (And.intro b2 b3)
  have hj1 : ((n + 1 : Nat) : Int) - 1 = (n : Int) := by omega
  have hj2 : IntKind.i64.wrap (((n + 1 : Nat) : Int) - 1) = (n : Int) := by rw [hj1, IntKind.wrap_i64]; omega
  have hjn : (n : Int) < ((n + 1 : Nat) : Int) := by omega
  rw [hn] at k3 hw0
  rw [hn]
  clear hk hb0 hr0 hr2 hcells d0 d1 d2 d3 b2 b3 hx hn hca
  generalize hm : n + 1 = m at *
  clear hm hj1
  go_enter Tryz.func31, Tryz.ntmps31
  go_wp2
  have hrz := set4_row HR2.out (.int .i64 x.height) (.int .i64 x.time) (.slice o2 x.root.length c2) (.slice o3 x.next.length c3)
  obtain ⟨⟨u0, u1, u2, u3⟩, -⟩ := hrz.four
  have hbz := set4_below HB0.out (show w.heap.size ≤ w.heap.size + 1 by omega) (.int .i64 x.height) (.int .i64 x.time) (.slice o2 x.root.length c2) (.slice o3 x.next.length c3)
  have v2 := HBY.out.1.below (hbz.mono hN)
  have v3 := HBY.out.2.below (hbz.mono hN)
  unfold set4 at u0 u1 u2 u3
  exact bodyPost_ret (v := .agg #[.int .i64 x.height, .int .i64 x.time, .slice o2 x.root.length c2, .slice o3 x.next.length c3]) (by simp [results, Tryz.results31, go_sem, u0, u1, u2, u3]) rfl ⟨hbz, o2, c2, o3, c3, rfl, v2, v3⟩
set_option maxRecDepth 100000 in
set_option maxHeartbeats 4000000 in
theorem refActiveC : ActiveC 13 := by
  intro c now v N w hv hN hc hnow
  have HCV := hid hv
  obtain ⟨kv, rfl, hk⟩ := hv
  obtain ⟨oa, ca, rfl, hca⟩ := hk.shape
  obtain ⟨w0, hw0⟩ : ∃ w0, w.alloc (.cells #[.string c.chain, .int .i64 c.trust, .bool c.frozen, .slice oa c.known.length ca] 24) = w0 := ⟨_, rfl⟩
  have hb0 : Below w.heap.size w w0 := by rw [← hw0]; exact (Below.refl _ _).alloc (Nat.le_refl _) _
  have HB0 := hid hb0
  have hr0 : Row w0 w.heap.size 24 [.string c.chain, .int .i64 c.trust, .bool c.frozen, .slice oa c.known.length ca] := by rw [← hw0]; exact Row.new _ _ _
  obtain ⟨⟨y0, y1, y2, y3⟩, -⟩ := hr0.four
  have HR0 := hid hr0
  cases hfz : c.frozen with
  | true =>
    have HA := hid (activeB_frozen now hfz)
    rw [hfz] at y2
    have HW0 := hid hw0
    rw [hfz] at HW0
    clear hw0 hb0 hk hr0 hfz
    go_enter Tryz.func13, Tryz.ntmps13
    go_wp2_with fail
    rw [HW0.out]
    go_quiet (fail)
    go_wp2
    go_ret
    exact ⟨by rw [HA.out]; first | done | rfl, HB0.out.trans (below_drewH _ _ _)⟩
  | false =>
    obtain ⟨-, ⟨ht1, ht2⟩, ⟨hn1, hn2⟩, hall, -⟩ := (wrongCl_iff c).1 hc
    obtain ⟨n, hn⟩ : ∃ n, c.known.length = n + 1 := ⟨c.known.length - 1, by omega⟩
    obtain ⟨x, hx⟩ : ∃ x, c.known[n]? = some x := ⟨c.known[n]'(by omega), List.getElem?_eq_getElem _⟩
    have hxt := ((wrongK_iff x).1 (hall x (List.mem_of_getElem? hx))).1
    have HA := hid (show activeB c now = decide (now < x.time + c.trust) by
      rw [activeB_last (now := now) hfz hn hx, Bool.eq_iff_iff]
      simp
      omega)
    have hwr : IntKind.i64.wrap (x.time + c.trust) = x.time + c.trust := by rw [IntKind.wrap_i64]; omega
    have HLA := hid (show ∀ wx, Below w0.heap.size w0 wx → _ from fun wx hwx => by
      have hbx := (hb0.trans (hwx.mono hb0.size)).mono hN
      have hq : ClV wx N (.agg #[.string c.chain, .int .i64 c.trust, .bool false, .slice oa c.known.length ca]) c := by rw [← hfz]; exact HCV.out.below hbx
      exact refLatest_any c n x _ N wx hq (Nat.le_trans hN (hb0.trans (hwx.mono hb0.size)).size) hn hx (by omega))
    rw [hfz] at y2
    have HW0 := hid hw0
    rw [hfz] at HW0
    have HBD := hid (show Below w0.heap.size w0 w0.drew from (Below.refl _ _).drew)
    clear hw0 hb0 hk hr0 hfz hall hn hx hxt hn1 hn2 hca hc ht1 ht2
    have hfld := field_known1
    go_enter Tryz.func13, Tryz.ntmps13
    go_wp2_with fail
    rw [HW0.out]
    have HLT := hid HR0.out.lt
    have HBC := hid (show ∀ wx, Below w0.heap.size w0 wx → (wx.cell? ⟨w.heap.size, 0, none⟩ = some (.string c.chain) ∧ wx.cell? ⟨w.heap.size, 1, none⟩ = some (.int .i64 c.trust)) ∧ (wx.cell? ⟨w.heap.size, 2, none⟩ = some (.bool false) ∧ wx.cell? ⟨w.heap.size, 3, none⟩ = some (.slice oa c.known.length ca)) from fun wx hx => ⟨⟨(hx.cell (p := ⟨w.heap.size, 0, none⟩) HLT.out).trans y0, (hx.cell (p := ⟨w.heap.size, 1, none⟩) HLT.out).trans y1⟩, (hx.cell (p := ⟨w.heap.size, 2, none⟩) HLT.out).trans y2, (hx.cell (p := ⟨w.heap.size, 3, none⟩) HLT.out).trans y3⟩)
    have s0 : (w0.cell? ⟨w.heap.size, 0, none⟩ = some (.string c.chain) ∧ w0.cell? ⟨w.heap.size, 1, none⟩ = some (.int .i64 c.trust)) ∧ (w0.cell? ⟨w.heap.size, 2, none⟩ = some (.bool false) ∧ w0.cell? ⟨w.heap.size, 3, none⟩ = some (.slice oa c.known.length ca)) := ⟨⟨y0, y1⟩, y2, y3⟩
    have s1 : (w0.drew.cell? ⟨w.heap.size, 0, none⟩ = some (.string c.chain) ∧ w0.drew.cell? ⟨w.heap.size, 1, none⟩ = some (.int .i64 c.trust)) ∧ (w0.drew.cell? ⟨w.heap.size, 2, none⟩ = some (.bool false) ∧ w0.drew.cell? ⟨w.heap.size, 3, none⟩ = some (.slice oa c.known.length ca)) := s0
    go_region_held3 (fun W => (W.cell? ⟨w.heap.size, 0, none⟩ = some (.string c.chain) ∧ W.cell? ⟨w.heap.size, 1, none⟩ = some (.int .i64 c.trust)) ∧ (W.cell? ⟨w.heap.size, 2, none⟩ = some (.bool false) ∧ W.cell? ⟨w.heap.size, 3, none⟩ = some (.slice oa c.known.length ca))) (first | assumption) (first
      | (go_at_call 31; refine (HLA.out _ HBD.out).mono ?_; rintro e w5 ⟨hb5, o2, c2, o3, c3, rfl, -, -⟩; have HB5 := hid (HB0.out.trans ((HBD.out.trans hb5).mono HB0.out.size)); have s5 := HBC.out w5 (HBD.out.trans hb5); clear hb5))
    all_goals
      go_wp2
      go_ret
      exact ⟨by rw [HA.out]; first | done | rfl, HB5.out⟩
set_option maxRecDepth 100000 in
set_option maxHeartbeats 4000000 in
theorem refAskedC : AskedC 36 := by
  intro c now v N w hv hN hfit
  have HWR := hid (show ∀ wx, Below w.heap.size w wx → _ from fun wx hx => refClWrongC c v N wx (hv.below (hx.mono hN)) (Nat.le_trans hN hx.size) hfit)
  obtain ⟨kv, rfl, hk⟩ := hv
  obtain ⟨oa, ca, rfl, hca⟩ := hk.shape
  obtain ⟨w0, hw0⟩ : ∃ w0, w.alloc (.cells #[.string c.chain, .int .i64 c.trust, .bool c.frozen, .slice oa c.known.length ca] 24) = w0 := ⟨_, rfl⟩
  have hb0 : Below w.heap.size w w0 := by rw [← hw0]; exact (Below.refl _ _).alloc (Nat.le_refl _) _
  have HB0 := hid hb0
  have hr0 : Row w0 w.heap.size 24 [.string c.chain, .int .i64 c.trust, .bool c.frozen, .slice oa c.known.length ca] := by rw [← hw0]; exact Row.new _ _ _
  obtain ⟨⟨y0, y1, y2, y3⟩, -⟩ := hr0.four
  have HR0 := hid hr0
  have HW0 := hid hw0
  clear hw0 hb0 hk hr0 hfit
  by_cases hc : wrongCl c = 0
  · have HCZ := hid hc
    by_cases ht : now < 0 ∨ 1000000000000 < now
    · have HTM := hid (timeN_false ht)
      have HA := hid (askedN_range hc ht)
      clear hc ht
      go_enter Tryz.func36, Tryz.ntmps36
      go_wp2_with fail
      rw [HW0.out]
      refine (HWR.out _ HB0.out).mono ?_
      rintro e w1 ⟨rfl, hb1⟩
      rw [HCZ.out]
      have HB1 := hid (HB0.out.trans (hb1.mono HB0.out.size))
      clear hb1
      go_wp2_with (go_at_call 11; refine (refTime_any _ _).mono ?_; rintro e w' ⟨rfl, hw'⟩; obtain rfl := hw'.symm; rw [HTM.out])
      go_ret
      exact ⟨by rw [HA.out]; first | done | rfl, HB1.out⟩
    · have HTM := hid (timeN_true ht)
      by_cases hfz : c.frozen = true
      · have HA := hid (askedN_frozen (now := now) hc (by omega) hfz)
        have HFZ := hid hfz
        clear hc ht hfz
        go_enter Tryz.func36, Tryz.ntmps36
        go_wp2_with fail
        rw [HW0.out]
        refine (HWR.out _ HB0.out).mono ?_
        rintro e w1 ⟨rfl, hb1⟩
        rw [HCZ.out]
        have HB1 := hid (HB0.out.trans (hb1.mono HB0.out.size))
        have r2 := (HR0.out.below hb1 HR0.out.lt).cell 2
        simp only [HFZ.out] at r2
        clear hb1
        go_wp2_with (go_at_call 11; refine (refTime_any _ _).mono ?_; rintro e w' ⟨rfl, hw'⟩; obtain rfl := hw'.symm; rw [HTM.out])
        go_ret
        exact ⟨by rw [HA.out]; first | done | rfl, HB1.out⟩
      · have hfz' : c.frozen = false := by simpa using hfz
        have HA := hid (askedN_of (now := now) hc (by omega) hfz')
        have HFZ := hid hfz'
        clear hc ht hfz hfz'
        go_enter Tryz.func36, Tryz.ntmps36
        go_wp2_with fail
        rw [HW0.out]
        refine (HWR.out _ HB0.out).mono ?_
        rintro e w1 ⟨rfl, hb1⟩
        rw [HCZ.out]
        have HB1 := hid (HB0.out.trans (hb1.mono HB0.out.size))
        have r2 := (HR0.out.below hb1 HR0.out.lt).cell 2
        simp only [HFZ.out] at r2
        clear hb1
        go_wp2_with (go_at_call 11; refine (refTime_any _ _).mono ?_; rintro e w' ⟨rfl, hw'⟩; obtain rfl := hw'.symm; rw [HTM.out])
        go_ret
        exact ⟨by rw [HA.out]; first | done | rfl, HB1.out⟩
  · have HA := hid (askedN_wrong (now := now) hc)
    have e1 : (wrongCl c != 0) = true := by simpa using hc
    clear hc
    generalize wrongCl c = z at *
    go_enter Tryz.func36, Tryz.ntmps36
    go_wp2_with fail
    rw [HW0.out]
    refine (HWR.out _ HB0.out).mono ?_
    rintro e w1 ⟨rfl, hb1⟩
    have HB1 := hid (HB0.out.trans (hb1.mono HB0.out.size))
    clear hb1
    go_wp2
    go_ret
    exact ⟨by rw [HA.out]; first | done | rfl, HB1.out⟩
end Go.Proofs.YtiflkkelbnpniaaGreatDoor
