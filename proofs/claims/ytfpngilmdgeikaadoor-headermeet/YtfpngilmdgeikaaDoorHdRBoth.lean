/-
  What the document's Num, Name and Wrong answer: whether a number may stand for a height, whether a text is a name; what keeps a header from being one.
  What the document's Vals answers: what keeps a list from being validators. It turns no memory that was there.
-/
import Derived.Test.YtfpngilmdgeikaaDoorHdMems
import Derived.Laws.RangeString
import Derived.Test.YtfpngilmdgeikaaDoorHdNameVals
namespace Go.Proofs.YtfpngilmdgeikaaDoor
open Go.RowKit

theorem refNumH_any (n : Int) (w : World) : Calls Tryd.prog 44 #[.int .i64 n] w fun e w' => e = .returned (.bool (decide (0 ≤ n) && decide (n ≤ 1000000000000))) ∧ w' = w := by
  by_cases h1 : 0 ≤ n
  · have e1 : decide (0 ≤ n) = true := by simpa using h1
    go_enter Tryd.func44, Tryd.ntmps44
    go_wp2
    go_ret
    exact ⟨by simp [e1]; first | done | rfl, rfl⟩
  · have e1 : decide (0 ≤ n) = false := by simpa using h1
    go_enter Tryd.func44, Tryd.ntmps44
    go_wp2
    go_ret
    exact ⟨by simp; first | done | rfl | (simp [e1]; first | done | rfl), rfl⟩
theorem next_any {P : Program} (w : World) (s : ByteArray) (pos : Nat) (h : pos < s.size) :
    ∃ r p, (∀ ty, (Instr.next (.pointer (some ⟨w.heap.size, 0, none⟩)) true ty).run P (w.iter s pos) = .ok (.tuple #[.bool true, .int .i64 pos, r]) (w.iter s p)) ∧ ((s[pos]'h).toNat < 128 → p = pos + 1) := by
  by_cases ha : (s[pos]'h).toNat < 128
  · exact ⟨_, _, fun ty => run_next_ascii w s pos ty h ha, fun _ => rfl⟩
  · refine ⟨.int .i32 (Utf8.decode s pos).1, pos + (Utf8.decode s pos).2, fun ty => ?_, fun h => absurd h ha⟩
    simp only [Instr.next, getObj, setObj, Sem.run_bind, Sem.run, World.iter_heap, Result.andThen, h, if_true, World.iter_set]
    simp [goInt]
/-- where an iterator stands -/
def posAt (w wr : World) : Nat := match wr.heap[w.heap.size]? with
  | some (.stringIter _ p) => p
  | _ => 0
theorem posAt_iter (w : World) (s : ByteArray) (p : Nat) : posAt w (w.iter s p) = p := by unfold posAt; rw [World.iter_heap]
theorem nameC_ascii {c : UInt8} (h : nameC c = true) : c.toNat < 128 := by
  unfold nameC at h
  simp at h
  omega
/-- a letter is met among those from a on, up to below k -/
def metB (c : UInt8) (a k : Nat) : Bool := decide (a ≤ c.toNat) && decide (c.toNat < k)
theorem metB_succ (c : UInt8) (a k : Nat) (h : a ≤ k) : metB c a (k + 1) = (metB c a k || decide (c.toNat = k)) := by
  unfold metB
  rw [Bool.eq_iff_iff]
  simp
  omega
theorem beq_cast (a b : Nat) : ((a : Int) == (b : Int)) = decide (a = b) := by rw [Bool.eq_iff_iff]; simp; omega
theorem metB_start (c : UInt8) (a : Nat) : metB c a a = false := by unfold metB; rw [Bool.eq_false_iff]; simp
theorem metB_name (c : UInt8) : (metB c 97 123 || metB c 48 58) = nameC c := by
  unfold metB nameC
  rw [Bool.eq_iff_iff]
  simp
  omega
set_option maxRecDepth 100000 in
set_option maxHeartbeats 1000000 in
theorem refName_any (s : ByteArray) (w : World) (hs : s.size ≤ 140737488351232) : Calls Tryd.prog 43 #[.string s] w fun e w' => e = .returned (.bool (nameB s)) ∧ Below w.heap.size w w' := by
  by_cases h1 : s.size = 0
  · have e1 : ((s.size : Int) == 0) = true := by simp [h1]
    have HN := hid (nameB_short (s := s) (.inl (by omega)))
    go_enter Tryd.func43, Tryd.ntmps43
    go_wp2
    go_ret
    exact ⟨by rw [HN.out]; first | done | rfl, Below.refl _ _⟩
  · have e1 : ((s.size : Int) == 0) = false := by rw [beq_eq_false_iff_ne]; omega
    by_cases h2 : 20 < s.size
    · have e2 : decide ((20 : Int) < (s.size : Int)) = true := by simp; omega
      have HN := hid (nameB_short (s := s) (.inr h2))
      go_enter Tryd.func43, Tryd.ntmps43
      go_wp2
      go_ret
      exact ⟨by rw [HN.out]; first | done | rfl, Below.refl _ _⟩
    · have e2 : decide ((20 : Int) < (s.size : Int)) = false := by simp; omega
      go_enter Tryd.func43, Tryd.ntmps43
      go_wp2_with fail
      go_loopw [3, 4, 5, 6] (fun _ _ _ _ wr => ∃ k : Nat, k ≤ s.size ∧ wr = w.iter s k ∧ Hid (∀ j (hj : j < s.size), j < k → nameC s[j] = true)) (fun _ _ _ _ wr => s.size - posAt w wr)
      case atStart => exact ⟨0, by omega, rfl, hid (fun j _ hj => absurd hj (by omega))⟩
      case round =>
        obtain ⟨k, hk, rfl, HI⟩ := hrel
        by_cases hlt : k < s.size
        · obtain ⟨r, p, hnx, hp⟩ := next_any (P := Tryd.prog) w s k hlt
          have HP := hid hp
          clear hp
          have hlt' : (k : Int) < (s.size : Int) := by omega
          have hcb := s[k].toNat_lt
          go_wp2_with fail
          go_loopw [4, 5] (fun ok c wx => ∃ m : Nat, 97 ≤ m ∧ m ≤ 123 ∧ c = .int .u8 (m : Int) ∧ ok = .bool (metB s[k] 97 m) ∧ wx = w.iter s p) (fun _ c _ => 123 - (intOf c).toNat)
          case atStart => exact ⟨97, by omega, by omega, rfl, by rw [metB_start], rfl⟩
          case round =>
            obtain ⟨m, hm1, hm2, rfl, rfl, rfl⟩ := hrel
            by_cases hm : m ≤ 122
            · have g1 : decide ((m : Int) ≤ 122) = true := by simp; omega
              have hw : IntKind.u8.wrap ((m : Int) + 1) = ((m + 1 : Nat) : Int) := by simp [IntKind.wrap, IntKind.bits, IntKind.signed]; omega
              have HS := hid (metB_succ s[k] 97 m hm1)
              generalize metB s[k] 97 m = mb at *
              cases mb with
              | true =>
                go_wp2_with fail
                go_roundw
                case rel => exact ⟨m + 1, by omega, by omega, by go_num, by rw [HS.out]; first | (simp; done) | (simp; exact beq_cast _ _), by first | rfl | trivial⟩
                case measure => simp [intOf]; omega
              | false =>
                go_wp2_with fail
                go_roundw
                case rel => exact ⟨m + 1, by omega, by omega, by go_num, by rw [HS.out]; first | (simp; done) | (simp; exact beq_cast _ _), by first | rfl | trivial⟩
                case measure => simp [intOf]; omega
            · have g1 : decide ((m : Int) ≤ 122) = false := by simp; omega
              obtain rfl : m = 123 := by omega
              go_wp2_with fail
              go_loopw [4, 6] (fun ok c wx => ∃ q : Nat, 48 ≤ q ∧ q ≤ 58 ∧ c = .int .u8 (q : Int) ∧ ok = .bool (metB s[k] 97 123 || metB s[k] 48 q) ∧ wx = w.iter s p) (fun _ c _ => 58 - (intOf c).toNat)
              case atStart => exact ⟨48, by omega, by omega, rfl, by rw [metB_start, Bool.or_false], rfl⟩
              case round =>
                obtain ⟨q, hq1, hq2, rfl, rfl, rfl⟩ := hrel
                by_cases hq : q ≤ 57
                · have g2 : decide ((q : Int) ≤ 57) = true := by simp; omega
                  have hw : IntKind.u8.wrap ((q : Int) + 1) = ((q + 1 : Nat) : Int) := by simp [IntKind.wrap, IntKind.bits, IntKind.signed]; omega
                  have HS := hid (show (metB s[k] 97 123 || metB s[k] 48 (q + 1)) = ((metB s[k] 97 123 || metB s[k] 48 q) || decide (s[k].toNat = q)) by rw [metB_succ s[k] 48 q hq1, Bool.or_assoc])
                  generalize (metB s[k] 97 123 || metB s[k] 48 q) = mb at *
                  cases mb with
                  | true =>
                    go_wp2_with fail
                    go_roundw
                    case rel => exact ⟨q + 1, by omega, by omega, by go_num, by rw [HS.out]; first | (simp; done) | (simp; exact beq_cast _ _), by first | rfl | trivial⟩
                    case measure => simp [intOf]; omega
                  | false =>
                    go_wp2_with fail
                    go_roundw
                    case rel => exact ⟨q + 1, by omega, by omega, by go_num, by rw [HS.out]; first | (simp; done) | (simp; exact beq_cast _ _), by first | rfl | trivial⟩
                    case measure => simp [intOf]; omega
                · have g2 : decide ((q : Int) ≤ 57) = false := by simp; omega
                  obtain rfl : q = 58 := by omega
                  have HM := hid (metB_name s[k])
                  rw [HM.out]
                  by_cases hc : nameC s[k] = true
                  · rw [hc]
                    have hpk := HP.out (nameC_ascii hc)
                    have HPK := hid hpk
                    clear hpk
                    go_wp2_with fail
                    go_roundw
                    case rel => exact ⟨k + 1, by omega, by rw [HPK.out], hid (fun j hj hj2 => by
                      by_cases e : j = k
                      · subst e; exact hc
                      · exact HI.out j hj (by omega))⟩
                    case measure => rw [HPK.out, posAt_iter, posAt_iter]; omega
                  · have hc' : nameC s[k] = false := by simpa using hc
                    rw [hc']
                    have HN := hid (nameB_at k hlt hc')
                    go_wp2
                    go_ret
                    exact ⟨by rw [HN.out]; first | done | rfl, (Below.refl _ _).alloc (Nat.le_refl _) _⟩
        · have hnx := fun ty => run_next_end (P := Tryd.prog) w s k ty hlt
          have HN := hid (nameB_all (s := s) (by omega) (by omega) (fun j hj => HI.out j hj (by omega)))
          go_wp2
          go_ret
          exact ⟨by rw [HN.out]; first | done | rfl, (Below.refl _ _).alloc (Nat.le_refl _) _⟩
set_option maxRecDepth 100000 in
set_option maxHeartbeats 2000000 in
theorem refWrong_any (h : Hd) (v : Value) (N : Nat) (w : World) (hv : HdV w N v h) (hf : h.fits) :
    Calls Tryd.prog 16 #[v] w fun e w' => e = .returned (.int .i64 (wrongH h)) ∧ Below w.heap.size w w' := by
  obtain ⟨rv, vv, nv, rfl, h1, h2, h3⟩ := hv
  obtain ⟨o1, c1, rfl, _⟩ := h1.shape
  obtain ⟨o2, c2, rfl, _⟩ := h2.shape
  obtain ⟨o3, c3, rfl, _⟩ := h3.shape
  obtain ⟨f1, f2, f3, f4⟩ := hf
  clear h1 h2 h3
  obtain ⟨w0, hw0⟩ : ∃ w0, w.alloc (.cells #[.string h.chain, .int .i64 h.height, .int .i64 h.time, .slice o1 h.root.length c1, .slice o2 h.vals.length c2, .slice o3 h.next.length c3] 25) = w0 := ⟨_, rfl⟩
  have HB0 := hid (show Below w.heap.size w w0 by rw [← hw0]; exact (Below.refl _ _).alloc (Nat.le_refl _) _)
  have HR0 := hid (show Row w0 w.heap.size 25 [.string h.chain, .int .i64 h.height, .int .i64 h.time, .slice o1 h.root.length c1, .slice o2 h.vals.length c2, .slice o3 h.next.length c3] by rw [← hw0]; exact Row.new _ _ _)
  have HNM := hid (refName_any h.chain w0 f1)
  obtain ⟨k0, _, _, _, _, _⟩ := HR0.out.six
  by_cases hn : nameB h.chain = true
  · by_cases hr : h.height < 1 ∨ 1000000000000 < h.height ∨ h.time < 0 ∨ 1000000000000 < h.time
    · have HW := hid (show wrongH h = 3 by unfold wrongH; rw [if_neg (by rw [hn]; decide), if_pos hr])
      rw [hn] at HNM
      have HRR := hid hr
      clear hr hn
      go_enter Tryd.func16, Tryd.ntmps16
      go_wp2_with fail
      refine HNM.out.mono ?_
      rintro e w1 ⟨rfl, hb1⟩
      have HB1 := hid (HB0.out.trans (hb1.mono HB0.out.size))
      obtain ⟨_, j1, j2, _, _, _⟩ := (HR0.out.below hb1 HR0.out.lt).six
      clear hb1 hw0
      by_cases g0 : h.height = 0
      · have e0 : (h.height == 0) = true := by simp [g0]
        have HG0 := hid g0
        clear g0
        go_wp2
        go_ret
        exact ⟨by rw [HW.out]; first | done | rfl, HB1.out⟩
      · have e0 : (h.height == 0) = false := by simp [g0]
        by_cases g1 : 0 ≤ h.height ∧ h.height ≤ 1000000000000
        · have e1 : (decide (0 ≤ h.height) && decide (h.height ≤ 1000000000000)) = true := by simpa using g1
          have e2 : (decide (0 ≤ h.time) && decide (h.time ≤ 1000000000000)) = false := by
            have := HRR.out
            rw [Bool.eq_false_iff]
            simp
            omega
          have HN1 := hid (fun w => refNumH_any h.height w)
          have HN2 := hid (fun w => refNumH_any h.time w)
          rw [e1] at HN1
          rw [e2] at HN2
          clear e1 e2 g1
          go_wp2_with fail
          refine (HN1.out _).mono ?_
          rintro e w2 ⟨rfl, hw2⟩
          obtain rfl := hw2.symm
          go_wp2_with fail
          refine (HN2.out _).mono ?_
          rintro e w2 ⟨rfl, hw2⟩
          obtain rfl := hw2.symm
          go_wp2
          go_ret
          exact ⟨by rw [HW.out]; first | done | rfl, HB1.out⟩
        · have e1 : (decide (0 ≤ h.height) && decide (h.height ≤ 1000000000000)) = false := by rw [Bool.eq_false_iff]; simpa using g1
          have HN1 := hid (fun w => refNumH_any h.height w)
          rw [e1] at HN1
          clear e1 g1
          go_wp2_with fail
          refine (HN1.out _).mono ?_
          rintro e w2 ⟨rfl, hw2⟩
          obtain rfl := hw2.symm
          go_wp2
          go_ret
          exact ⟨by rw [HW.out]; first | done | rfl, HB1.out⟩
    · have HW := hid (show wrongH h = if h.root.length ≠ 32 ∨ h.vals.length ≠ 32 ∨ h.next.length ≠ 32 then 2 else 0 by unfold wrongH; rw [if_neg (by rw [hn]; decide), if_neg hr])
      rw [hn] at HNM
      have e0 : (h.height == 0) = false := by rw [beq_eq_false_iff_ne]; omega
      have e1 : (decide (0 ≤ h.height) && decide (h.height ≤ 1000000000000)) = true := by simp; omega
      have e2 : (decide (0 ≤ h.time) && decide (h.time ≤ 1000000000000)) = true := by simp; omega
      have HN1 := hid (fun w => refNumH_any h.height w)
      have HN2 := hid (fun w => refNumH_any h.time w)
      rw [e1] at HN1
      rw [e2] at HN2
      clear hr hn e1 e2
      go_enter Tryd.func16, Tryd.ntmps16
      go_wp2_with fail
      refine HNM.out.mono ?_
      rintro e w1 ⟨rfl, hb1⟩
      have HB1 := hid (HB0.out.trans (hb1.mono HB0.out.size))
      obtain ⟨_, j1, j2, j3, j4, j5⟩ := (HR0.out.below hb1 HR0.out.lt).six
      clear hb1 hw0
      go_wp2_with fail
      refine (HN1.out _).mono ?_
      rintro e w2 ⟨rfl, hw2⟩
      obtain rfl := hw2.symm
      go_wp2_with fail
      refine (HN2.out _).mono ?_
      rintro e w2 ⟨rfl, hw2⟩
      obtain rfl := hw2.symm
      obtain ⟨w3, hw3⟩ : ∃ w3, w1.alloc (.cells #[.slice o1 h.root.length c1, .slice o2 h.vals.length c2, .slice o3 h.next.length c3] 23) = w3 := ⟨_, rfl⟩
      have HR3 := hid (show Row w3 w1.heap.size 23 [.slice o1 h.root.length c1, .slice o2 h.vals.length c2, .slice o3 h.next.length c3] by rw [← hw3]; exact Row.new _ _ _)
      have HB3 := hid (show Below w.heap.size w w3 by rw [← hw3]; exact HB1.out.alloc HB1.out.size _)
      go_wp2_with fail
      generalize h.root.length = m1 at *
      generalize h.vals.length = m2 at *
      generalize h.next.length = m3 at *
      have q0 := HR3.out.cell 0
      have q1 := HR3.out.cell 1
      have q2 := HR3.out.cell 2
      go_loop [4, 32] (fun _ i => ∃ k : Nat, k ≤ 3 ∧ i = .int .i64 (k : Int) ∧ Hid ((0 < k → m1 = 32) ∧ (1 < k → m2 = 32) ∧ (2 < k → m3 = 32))) (fun _ i => 3 - (intOf i).toNat)
      case atStart => exact ⟨0, by omega, rfl, hid ⟨by omega, by omega, by omega⟩⟩
      case round =>
        obtain ⟨k, hk, rfl, HI⟩ := hrel
        obtain rfl | rfl | rfl | rfl : k = 0 ∨ k = 1 ∨ k = 2 ∨ k = 3 := by omega
        · by_cases hm : m1 = 32
          · have e3 : ((m1 : Int) != 32) = false := by simp; omega
            have HM := hid hm
            clear hm
            go_wp2
            go_round
            case rel => exact ⟨1, by omega, by go_num, hid ⟨fun _ => HM.out, by omega, by omega⟩⟩
            case measure => simp [intOf]
          · have e3 : ((m1 : Int) != 32) = true := by simp; omega
            have HW2 := hid (HW.out.trans (if_pos (.inl hm)))
            clear hm
            go_wp2
            go_ret
            exact ⟨by rw [HW2.out]; first | done | rfl, HB3.out⟩
        · by_cases hm : m2 = 32
          · have e3 : ((m2 : Int) != 32) = false := by simp; omega
            have HM := hid hm
            clear hm
            go_wp2
            go_round
            case rel => exact ⟨2, by omega, by go_num, hid ⟨fun _ => HI.out.1 (by omega), fun _ => HM.out, by omega⟩⟩
            case measure => simp [intOf]
          · have e3 : ((m2 : Int) != 32) = true := by simp; omega
            have HW2 := hid (HW.out.trans (if_pos (.inr (.inl hm))))
            clear hm
            go_wp2
            go_ret
            exact ⟨by rw [HW2.out]; first | done | rfl, HB3.out⟩
        · by_cases hm : m3 = 32
          · have e3 : ((m3 : Int) != 32) = false := by simp; omega
            have HM := hid hm
            clear hm
            go_wp2
            go_round
            case rel => exact ⟨3, by omega, by go_num, hid ⟨fun _ => HI.out.1 (by omega), fun _ => HI.out.2.1 (by omega), fun _ => HM.out⟩⟩
            case measure => simp [intOf]
          · have e3 : ((m3 : Int) != 32) = true := by simp; omega
            have HW2 := hid (HW.out.trans (if_pos (.inr (.inr hm))))
            clear hm
            go_wp2
            go_ret
            exact ⟨by rw [HW2.out]; first | done | rfl, HB3.out⟩
        · have HW2 := hid (HW.out.trans (if_neg (by have := HI.out.1 (by omega); have := HI.out.2.1 (by omega); have := HI.out.2.2 (by omega); omega)))
          go_wp2
          go_ret
          exact ⟨by rw [HW2.out]; first | done | rfl, HB3.out⟩
  · have hn' : nameB h.chain = false := by simpa using hn
    have HW := hid (show wrongH h = 7 by unfold wrongH; rw [if_pos hn'])
    rw [hn'] at HNM
    clear hn hn'
    go_enter Tryd.func16, Tryd.ntmps16
    go_wp2_with fail
    refine HNM.out.mono ?_
    rintro e w1 ⟨rfl, hb1⟩
    have HB1 := hid (HB0.out.trans (hb1.mono HB0.out.size))
    clear hb1 hw0
    go_wp2
    go_ret
    exact ⟨by rw [HW.out]; first | done | rfl, HB1.out⟩
end Go.Proofs.YtfpngilmdgeikaaDoor
namespace Go.Proofs.YtfpngilmdgeikaaDoor
open Go.RowKit

set_option maxRecDepth 100000 in
set_option maxHeartbeats 2000000 in
theorem refValsC : ValsC 14 := by
  intro l sv N w hb hN hlen
  obtain ⟨oa, ca, rfl, hca⟩ := hb.shape
  have HB := hid hb
  clear hb
  generalize hn : l.length = n at *
  have HN := hid hn
  clear hn
  by_cases h1 : n = 0
  · have e1 : ((n : Int) == 0) = true := by simp [h1]
    have HV := hid (vals_many l (.inl (by rw [HN.out]; omega)))
    clear h1
    go_enter Tryd.func14, Tryd.ntmps14
    go_wp2
    go_ret
    exact ⟨by rw [HV.out]; first | done | rfl, Below.refl _ _⟩
  · have e1 : ((n : Int) == 0) = false := by rw [beq_eq_false_iff_ne]; omega
    by_cases h2 : 10 < n
    · have e2 : decide ((10 : Int) < (n : Int)) = true := by simp; omega
      have HV := hid (vals_many l (.inr (by rw [HN.out]; exact h2)))
      go_enter Tryd.func14, Tryd.ntmps14
      go_wp2
      go_ret
      exact ⟨by rw [HV.out]; first | done | rfl, Below.refl _ _⟩
    · have e2 : decide ((10 : Int) < (n : Int)) = false := by simp; omega
      have HV := hid (vals_few l (by rw [HN.out]; omega))
      go_enter Tryd.func14, Tryd.ntmps14
      go_wp2
      go_loopw [3, 4, 15] (fun _ _ i wr => ∃ k : Nat, k ≤ n ∧ i = .int .i64 (k : Int) ∧ (∃ q, wr = w.drewN q) ∧ Hid (valsN l = valsGo (prevV l k) (l.drop k))) (fun _ _ i _ => n - (intOf i).toNat)
      case atStart => exact ⟨0, by omega, rfl, ⟨0, rfl⟩, hid HV.out⟩
      case round =>
        obtain ⟨k, hk, rfl, ⟨q, rfl⟩, HT⟩ := hrel
        by_cases hlt : k < n
        · obtain ⟨v, hv⟩ : ∃ v, l[k]? = some v := ⟨l[k]'(by rw [HN.out]; exact hlt), List.getElem?_eq_getElem _⟩
          obtain ⟨b, o, rfl, hcells⟩ := HB.out.spot (by omega)
          obtain ⟨hbN, d0, d1⟩ := hcells k v hv
          have f0 : ∀ q, (w.drewN q).cell? ⟨b, o + k * 2, none⟩ = some (.int .u64 (v.key : Int)) := fun _ => d0
          have f1 : ∀ q, (w.drewN q).cell? ⟨b, o + k * 2 + 1, none⟩ = some (.int .u64 (v.power : Int)) := fun _ => d1
          have HST := hid (valsGo_at l k v hv)
          have hlt' : (k : Int) < (n : Int) := by omega
          clear d0 d1
          by_cases hp1 : v.power = 0
          · have g1 : ((v.power : Int) == 0) = true := by simp [hp1]
            have HV2 := hid (show valsN l = 3 by rw [HT.out, HST.out, if_pos (.inl (by omega))])
            clear hp1
            go_wp2
            go_ret
            exact ⟨by rw [HV2.out]; first | done | rfl, below_drewH _ _ _⟩
          · have g1 : ((v.power : Int) == 0) = false := by rw [beq_eq_false_iff_ne]; omega
            by_cases hp2 : 1000000 < v.power
            · have g2 : decide ((1000000 : Int) < (v.power : Int)) = true := by simp; omega
              have HV2 := hid (show valsN l = 3 by rw [HT.out, HST.out, if_pos (.inr hp2)])
              go_wp2
              go_ret
              exact ⟨by rw [HV2.out]; first | done | rfl, below_drewH _ _ _⟩
            · have g2 : decide ((1000000 : Int) < (v.power : Int)) = false := by simp; omega
              have HST2 := hid (HST.out.trans (if_neg (by omega)))
              clear HST
              go_wp2
              go_loopw [4] (fun i wx => ∃ m : Nat, m ≤ k ∧ i = .int .i64 (m : Int) ∧ (∃ q, wx = w.drewN q) ∧ Hid (m = k → valsN l = valsGo (prevV l (k + 1)) (l.drop (k + 1)))) (fun i _ => k - (intOf i).toNat)
              case atStart =>
                refine ⟨0, by omega, rfl, ⟨q, rfl⟩, hid (fun h0 => ?_)⟩
                subst h0
                rw [HT.out, HST2.out, if_neg (by simp [prevV_zero, aheadB])]
              case round =>
                obtain ⟨m, hm, rfl, ⟨q2, rfl⟩, HM⟩ := hrel
                by_cases hmk : m < k
                · have hmk' : (m : Int) < (k : Int) := by omega
                  have hmk'' : decide ((m : Int) < (k : Int)) = true := by simp; omega
                  have hmkn : decide (m < k) = true := decide_eq_true hmk
                  have hk1 : IntKind.i64.wrap ((k : Int) - 1) = (k : Int) - 1 := by simp [IntKind.wrap, IntKind.bits, IntKind.signed]; split <;> omega
                  by_cases he : m + 1 = k
                  · obtain ⟨y, hy⟩ : ∃ y, l[m]? = some y := ⟨l[m]'(by rw [HN.out]; omega), List.getElem?_eq_getElem _⟩
                    obtain ⟨_, t0, _⟩ := hcells m y hy
                    have t0' : ∀ q, (w.drewN q).cell? ⟨b, o + m * 2, none⟩ = some (.int .u64 (y.key : Int)) := fun _ => t0
                    have HPV := hid (show prevV l k = some y.key by rw [← he]; exact prevV_succ l m y hy)
                    have g3 : ((m : Int) == (k : Int) - 1) = true := by rw [beq_iff_eq]; omega
                    have hmn : (m : Int) < (n : Int) := by omega
                    have HE := hid he
                    clear t0 hy he hcells
                    by_cases hle : v.key ≤ y.key
                    · have g5 : decide ((v.key : Int) ≤ (y.key : Int)) = true := by simp; omega
                      have g5n : decide (v.key ≤ y.key) = true := decide_eq_true hle
                      have HV2 := hid (show valsN l = 2 by rw [HT.out, HST2.out, HPV.out, if_pos (by simpa [aheadB] using hle)])
                      clear hle
                      go_wp2_with fail
                      go_quiet (fail)
                      go_wp2
                      go_ret
                      exact ⟨by rw [HV2.out]; first | done | rfl, (below_drewH w q2 _).trans (below_drewH _ _ _)⟩
                    · have g5 : decide ((v.key : Int) ≤ (y.key : Int)) = false := by simp; omega
                      have g5n : decide (v.key ≤ y.key) = false := decide_eq_false hle
                      have HV2 := hid (show valsN l = valsGo (prevV l (k + 1)) (l.drop (k + 1)) by rw [HT.out, HST2.out, HPV.out, if_neg (by simpa [aheadB] using hle)])
                      clear hle
                      go_wp2_with fail
                      go_quiet (fail)
                      go_wp2
                      go_roundw
                      case rel => exact ⟨m + 1, by omega, by go_num, ⟨_, rfl⟩, hid (fun _ => HV2.out)⟩
                      case measure => simp [intOf]; omega
                  · have g3 : ((m : Int) == (k : Int) - 1) = false := by rw [beq_eq_false_iff_ne]; omega
                    clear hcells
                    go_wp2_with fail
                    go_quiet (fail)
                    go_wp2
                    go_roundw
                    case rel => exact ⟨m + 1, by omega, by go_num, ⟨_, rfl⟩, hid (fun h => absurd h he)⟩
                    case measure => simp [intOf]; omega
                · have hmk'' : decide ((m : Int) < (k : Int)) = false := by simp; omega
                  have hmkn : decide (m < k) = false := decide_eq_false hmk
                  have HV2 := hid (HM.out (by omega))
                  go_wp2
                  go_roundw
                  case rel => exact ⟨k + 1, by omega, by go_num, ⟨q2, rfl⟩, hid HV2.out⟩
                  case measure => simp [intOf]; omega
        · have hge : decide ((k : Int) < (n : Int)) = false := by simp; omega
          have HV2 := hid (show valsN l = 0 by rw [HT.out, valsGo_end l k (by rw [HN.out]; omega)])
          go_wp2
          go_ret
          exact ⟨by rw [HV2.out]; first | done | rfl, below_drewH _ _ _⟩
end Go.Proofs.YtfpngilmdgeikaaDoor
