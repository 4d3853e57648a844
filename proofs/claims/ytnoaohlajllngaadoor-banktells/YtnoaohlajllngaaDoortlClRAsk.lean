/-
  What the document's Num, Name and Wrong answer: whether a number may stand for a height, whether a text is a name; what keeps a header from being one. What the document's Vals answers: what keeps a list from being validators. It turns no memory that was there.
  What the document's Wrong answers of a client.
  What the document's At, Latest, Active and Asked answer of a client.
-/
import Derived.Test.YtnoaohlajllngaaDoortlHdMems
import Derived.Test.YtnoaohlajllngaaDoortlClAsk
import Derived.Laws.RangeString
namespace Go.Proofs.YtnoaohlajllngaaDoor
open Go.RowKit

theorem refNumH_any (n : Int) (w : World) : Calls Tryd.prog 79 #[.int .i64 n] w fun e w' => e = .returned (.bool (decide (0 ≤ n) && decide (n ≤ 1000000000000))) ∧ w' = w := by
  by_cases h1 : 0 ≤ n
  · have e1 : decide (0 ≤ n) = true := by simpa using h1
    go_enter Tryd.func79, Tryd.ntmps79
    go_wp2
    go_ret
    exact ⟨by simp [e1]; first | done | rfl, rfl⟩
  · have e1 : decide (0 ≤ n) = false := by simpa using h1
    go_enter Tryd.func79, Tryd.ntmps79
    go_wp2
    go_ret
    exact ⟨by simp; first | done | rfl | (simp [e1]; first | done | rfl), rfl⟩
theorem next_any {P : Program} (w : World) (s : ByteArray) (pos : Nat) (h : pos < s.size) :
    ∃ r p, (∀ ty, (Instr.next (.pointer (some ⟨w.heap.size, 0, none⟩)) true ty).run P (w.iter s pos) = .ok (.tuple #[.bool true, .int .i64 pos, r]) (w.iter s p)) ∧ ((s[pos]'h).toNat < 128 → p = pos + 1) := by
  by_cases ha : (s[pos]'h).toNat < 128
  · exact ⟨_, _, fun ty => run_next_ascii w s pos ty h ha, fun _ => rfl⟩
  · refine ⟨.int .i32 (Utf8.decode s pos).1, pos + (Utf8.decode s pos).2, fun ty => ?_, fun h => absurd h ha⟩
    simp only [Instr.next, getObj, setObj, Sem.run_bind, Sem.run, World.iter_heap, Result.andThen, h, if_true, World.iter_set]
    simp [goInt]
/-- where an iterator stands -/
def posAt (w wr : World) : Nat := match wr.heap[w.heap.size]? with
  | some (.stringIter _ p) => p
  | _ => 0
theorem posAt_iter (w : World) (s : ByteArray) (p : Nat) : posAt w (w.iter s p) = p := by unfold posAt; rw [World.iter_heap]
theorem nameC_ascii {c : UInt8} (h : nameC c = true) : c.toNat < 128 := by
  unfold nameC at h
  simp at h
  omega
/-- a letter is met among those from a on, up to below k -/
def metB (c : UInt8) (a k : Nat) : Bool := decide (a ≤ c.toNat) && decide (c.toNat < k)
theorem metB_succ (c : UInt8) (a k : Nat) (h : a ≤ k) : metB c a (k + 1) = (metB c a k || decide (c.toNat = k)) := by
  unfold metB
  rw [Bool.eq_iff_iff]
  simp
  omega
theorem beq_cast (a b : Nat) : ((a : Int) == (b : Int)) = decide (a = b) := by rw [Bool.eq_iff_iff]; simp; omega
theorem metB_start (c : UInt8) (a : Nat) : metB c a a = false := by unfold metB; rw [Bool.eq_false_iff]; simp
theorem metB_name (c : UInt8) : (metB c 97 123 || metB c 48 58) = nameC c := by
  unfold metB nameC
  rw [Bool.eq_iff_iff]
  simp
  omega
set_option maxRecDepth 100000 in
set_option maxHeartbeats 1000000 in
theorem refName_any (s : ByteArray) (w : World) (hs : s.size ≤ 140737488351232) : Calls Tryd.prog 67 #[.string s] w fun e w' => e = .returned (.bool (nameB s)) ∧ Below w.heap.size w w' := by
  by_cases h1 : s.size = 0
  · have e1 : ((s.size : Int) == 0) = true := by simp [h1]
    have HN := hid (nameB_short (s := s) (.inl (by omega)))
    go_enter Tryd.func67, Tryd.ntmps67
    go_wp2
    go_ret
    exact ⟨by rw [HN.out]; first | done | rfl, Below.refl _ _⟩
  · have e1 : ((s.size : Int) == 0) = false := by rw [beq_eq_false_iff_ne]; omega
    by_cases h2 : 20 < s.size
    · have e2 : decide ((20 : Int) < (s.size : Int)) = true := by simp; omega
      have HN := hid (nameB_short (s := s) (.inr h2))
      go_enter Tryd.func67, Tryd.ntmps67
      go_wp2
      go_ret
      exact ⟨by rw [HN.out]; first | done | rfl, Below.refl _ _⟩
    · have e2 : decide ((20 : Int) < (s.size : Int)) = false := by simp; omega
      go_enter Tryd.func67, Tryd.ntmps67
      go_wp2_with fail
      go_loopw [3, 4, 5, 6] (fun _ _ _ _ wr => ∃ k : Nat, k ≤ s.size ∧ wr = w.iter s k ∧ Hid (∀ j (hj : j < s.size), j < k → nameC s[j] = true)) (fun _ _ _ _ wr => s.size - posAt w wr)
      case atStart => exact ⟨0, by omega, rfl, hid (fun j _ hj => absurd hj (by omega))⟩
      case round =>
        obtain ⟨k, hk, rfl, HI⟩ := hrel
        by_cases hlt : k < s.size
        · obtain ⟨r, p, hnx, hp⟩ := next_any (P := Tryd.prog) w s k hlt
          have HP := hid hp
          clear hp
          have hlt' : (k : Int) < (s.size : Int) := by omega
          have hcb := s[k].toNat_lt
          go_wp2_with fail
          go_loopw [4, 5] (fun ok c wx => ∃ m : Nat, 97 ≤ m ∧ m ≤ 123 ∧ c = .int .u8 (m : Int) ∧ ok = .bool (metB s[k] 97 m) ∧ wx = w.iter s p) (fun _ c _ => 123 - (intOf c).toNat)
          case atStart => exact ⟨97, by omega, by omega, rfl, by rw [metB_start], rfl⟩
          case round =>
            obtain ⟨m, hm1, hm2, rfl, rfl, rfl⟩ := hrel
            by_cases hm : m ≤ 122
            · have g1 : decide ((m : Int) ≤ 122) = true := by simp; omega
              have hw : IntKind.u8.wrap ((m : Int) + 1) = ((m + 1 : Nat) : Int) := by simp [IntKind.wrap, IntKind.bits, IntKind.signed]; omega
              have HS := hid (metB_succ s[k] 97 m hm1)
              generalize metB s[k] 97 m = mb at *
              cases mb with
              | true =>
                go_wp2_with fail
                go_roundw
                case rel => exact ⟨m + 1, by omega, by omega, by go_num, by rw [HS.out]; first | (simp; done) | (simp; exact beq_cast _ _), by first | rfl | trivial⟩
                case measure => simp [intOf]; omega
              | false =>
                go_wp2_with fail
                go_roundw
                case rel => exact ⟨m + 1, by omega, by omega, by go_num, by rw [HS.out]; first | (simp; done) | (simp; exact beq_cast _ _), by first | rfl | trivial⟩
                case measure => simp [intOf]; omega
            · have g1 : decide ((m : Int) ≤ 122) = false := by simp; omega
              obtain rfl : m = 123 := by omega
              go_wp2_with fail
              go_loopw [4, 6] (fun ok c wx => ∃ q : Nat, 48 ≤ q ∧ q ≤ 58 ∧ c = .int .u8 (q : Int) ∧ ok = .bool (metB s[k] 97 123 || metB s[k] 48 q) ∧ wx = w.iter s p) (fun _ c _ => 58 - (intOf c).toNat)
              case atStart => exact ⟨48, by omega, by omega, rfl, by rw [metB_start, Bool.or_false], rfl⟩
              case round =>
                obtain ⟨q, hq1, hq2, rfl, rfl, rfl⟩ := hrel
                by_cases hq : q ≤ 57
                · have g2 : decide ((q : Int) ≤ 57) = true := by simp; omega
                  have hw : IntKind.u8.wrap ((q : Int) + 1) = ((q + 1 : Nat) : Int) := by simp [IntKind.wrap, IntKind.bits, IntKind.signed]; omega
                  have HS := hid (show (metB s[k] 97 123 || metB s[k] 48 (q + 1)) = ((metB s[k] 97 123 || metB s[k] 48 q) || decide (s[k].toNat = q)) by rw [metB_succ s[k] 48 q hq1, Bool.or_assoc])
                  generalize (metB s[k] 97 123 || metB s[k] 48 q) = mb at *
                  cases mb with
                  | true =>
                    go_wp2_with fail
                    go_roundw
                    case rel => exact ⟨q + 1, by omega, by omega, by go_num, by rw [HS.out]; first | (simp; done) | (simp; exact beq_cast _ _), by first | rfl | trivial⟩
                    case measure => simp [intOf]; omega
                  | false =>
                    go_wp2_with fail
                    go_roundw
                    case rel => exact ⟨q + 1, by omega, by omega, by go_num, by rw [HS.out]; first | (simp; done) | (simp; exact beq_cast _ _), by first | rfl | trivial⟩
                    case measure => simp [intOf]; omega
                · have g2 : decide ((q : Int) ≤ 57) = false := by simp; omega
                  obtain rfl : q = 58 := by omega
                  have HM := hid (metB_name s[k])
                  rw [HM.out]
                  by_cases hc : nameC s[k] = true
                  · rw [hc]
                    have hpk := HP.out (nameC_ascii hc)
                    have HPK := hid hpk
                    clear hpk
                    go_wp2_with fail
                    go_roundw
                    case rel => exact ⟨k + 1, by omega, by rw [HPK.out], hid (fun j hj hj2 => by
                      by_cases e : j = k
                      · subst e; exact hc
                      · exact HI.out j hj (by omega))⟩
                    case measure => rw [HPK.out, posAt_iter, posAt_iter]; omega
                  · have hc' : nameC s[k] = false := by simpa using hc
                    rw [hc']
                    have HN := hid (nameB_at k hlt hc')
                    go_wp2
                    go_ret
                    exact ⟨by rw [HN.out]; first | done | rfl, (Below.refl _ _).alloc (Nat.le_refl _) _⟩
        · have hnx := fun ty => run_next_end (P := Tryd.prog) w s k ty hlt
          have HN := hid (nameB_all (s := s) (by omega) (by omega) (fun j hj => HI.out j hj (by omega)))
          go_wp2
          go_ret
          exact ⟨by rw [HN.out]; first | done | rfl, (Below.refl _ _).alloc (Nat.le_refl _) _⟩
end Go.Proofs.YtnoaohlajllngaaDoor
namespace Go.Proofs.YtnoaohlajllngaaDoor
open Go.RowKit

end Go.Proofs.YtnoaohlajllngaaDoor
namespace Go.Proofs.YtnoaohlajllngaaDoor
open Go.RowKit

theorem refTime_any (n : Int) (w : World) : Calls Tryd.prog 79 #[.int .i64 n] w fun e w' => e = .returned (.bool (timeN n)) ∧ w' = w := refNumH_any n w
set_option maxRecDepth 100000 in
set_option maxHeartbeats 4000000 in
theorem refClWrongC : ClWrongC 69 := by
  intro c v N w hv hN hfit
  obtain ⟨kv, rfl, hk⟩ := hv
  obtain ⟨f1, f2, f3⟩ := hfit
  obtain ⟨oa, ca, rfl, hca⟩ := hk.shape
  have HK := hid hk
  have HF1 := hid f1
  clear hk f3 f1
  obtain ⟨w0, hw0⟩ : ∃ w0, w.alloc (.cells #[.string c.chain, .int .i64 c.trust, .bool c.frozen, .slice oa c.known.length ca] 100) = w0 := ⟨_, rfl⟩
  have hb0 : Below w.heap.size w w0 := by rw [← hw0]; exact (Below.refl _ _).alloc (Nat.le_refl _) _
  have HB0 := hid hb0
  have hr0 := (show Row w0 w.heap.size 100 [.string c.chain, .int .i64 c.trust, .bool c.frozen, .slice oa c.known.length ca] by rw [← hw0]; exact Row.new _ _ _)
  have HR0 := hid hr0
  have HW0 := hid hw0
  obtain ⟨⟨k0, k1, k2, k3⟩, -⟩ := hr0.four
  clear hr0 hb0 hw0
  by_cases hn : nameB c.chain = true
  · have HNM := hid hn
    by_cases ht : c.trust < 1 ∨ 1000000000000 < c.trust
    · have HW := hid (wrongCl_3 hn ht)
      by_cases r1 : c.trust = 0
      · have e1 : (c.trust == 0) = true := by simpa using r1
        clear ht r1 hn
        go_enter Tryd.func69, Tryd.ntmps69
        go_wp2_with fail
        rw [HW0.out]
        refine (refName_any _ _ HF1.out).mono ?_
        rintro e w1 ⟨rfl, hb1⟩
        rw [HNM.out]
        have HB01 := hid hb1
        have HB1 := hid (HB0.out.trans (hb1.mono HB0.out.size))
        have HR1 := hid (HR0.out.below hb1 HR0.out.lt)
        clear hb1 k0 k1 k2 k3
        obtain ⟨⟨k0, k1, k2, k3⟩, -⟩ := HR1.out.four
        go_wp2
        go_ret
        exact ⟨by rw [HW.out]; first | done | rfl, HB1.out⟩
      · have e1 : (c.trust == 0) = false := by simpa using r1
        have HT := hid (timeN_false (n := c.trust) (by omega))
        clear ht r1 hn
        go_enter Tryd.func69, Tryd.ntmps69
        go_wp2_with fail
        rw [HW0.out]
        refine (refName_any _ _ HF1.out).mono ?_
        rintro e w1 ⟨rfl, hb1⟩
        rw [HNM.out]
        have HB01 := hid hb1
        have HB1 := hid (HB0.out.trans (hb1.mono HB0.out.size))
        have HR1 := hid (HR0.out.below hb1 HR0.out.lt)
        clear hb1 k0 k1 k2 k3
        obtain ⟨⟨k0, k1, k2, k3⟩, -⟩ := HR1.out.four
        go_wp2_with (go_at_call 79; refine (refTime_any _ _).mono ?_; rintro e w' ⟨rfl, hw'⟩; obtain rfl := hw'.symm; (rw [HT.out]))
        go_ret
        exact ⟨by rw [HW.out]; first | done | rfl, HB1.out⟩
    · have e1 : (c.trust == 0) = false := by rw [beq_eq_false_iff_ne]; omega
      have HT := hid (timeN_true (n := c.trust) (by omega))
      by_cases hm : c.known.length < 1 ∨ 30 < c.known.length
      · have HW := hid (wrongCl_5 hn ht hm)
        by_cases r1 : c.known.length = 0
        · have e3 : ((c.known.length : Int) == 0) = true := by rw [beq_iff_eq]; omega
          clear ht hm r1 hn
          go_enter Tryd.func69, Tryd.ntmps69
          go_wp2_with fail
          rw [HW0.out]
          refine (refName_any _ _ HF1.out).mono ?_
          rintro e w1 ⟨rfl, hb1⟩
          rw [HNM.out]
          have HB01 := hid hb1
          have HB1 := hid (HB0.out.trans (hb1.mono HB0.out.size))
          have HR1 := hid (HR0.out.below hb1 HR0.out.lt)
          clear hb1 k0 k1 k2 k3
          obtain ⟨⟨k0, k1, k2, k3⟩, -⟩ := HR1.out.four
          go_wp2_with (go_at_call 79; refine (refTime_any _ _).mono ?_; rintro e w' ⟨rfl, hw'⟩; obtain rfl := hw'.symm; (rw [HT.out]))
          go_ret
          exact ⟨by rw [HW.out]; first | done | rfl, HB1.out⟩
        · have e3 : ((c.known.length : Int) == 0) = false := by rw [beq_eq_false_iff_ne]; omega
          have e4 : decide (30 < (c.known.length : Int)) = true := by simp; omega
          clear ht hm r1 hn
          go_enter Tryd.func69, Tryd.ntmps69
          go_wp2_with fail
          rw [HW0.out]
          refine (refName_any _ _ HF1.out).mono ?_
          rintro e w1 ⟨rfl, hb1⟩
          rw [HNM.out]
          have HB01 := hid hb1
          have HB1 := hid (HB0.out.trans (hb1.mono HB0.out.size))
          have HR1 := hid (HR0.out.below hb1 HR0.out.lt)
          clear hb1 k0 k1 k2 k3
          obtain ⟨⟨k0, k1, k2, k3⟩, -⟩ := HR1.out.four
          go_wp2_with (go_at_call 79; refine (refTime_any _ _).mono ?_; rintro e w' ⟨rfl, hw'⟩; obtain rfl := hw'.symm; (rw [HT.out]))
          go_ret
          exact ⟨by rw [HW.out]; first | done | rfl, HB1.out⟩
      · have e3 : ((c.known.length : Int) == 0) = false := by rw [beq_eq_false_iff_ne]; omega
        have e4 : decide (30 < (c.known.length : Int)) = false := by simp; omega
        have HW := hid (wrongCl_go hn ht hm)
        have h30 : c.known.length ≤ 30 := by omega
        clear ht hm hn
        generalize hnn : c.known.length = n at *
        have HN := hid hnn
        clear hnn
        generalize hl : c.known = l at *
        clear hl
        go_enter Tryd.func69, Tryd.ntmps69
        go_wp2_with fail
        rw [HW0.out]
        refine (refName_any _ _ HF1.out).mono ?_
        rintro e w1 ⟨rfl, hb1⟩
        rw [HNM.out]
        have HB01 := hid hb1
        have HB1 := hid (HB0.out.trans (hb1.mono HB0.out.size))
        have HR1 := hid (HR0.out.below hb1 HR0.out.lt)
        clear hb1 k0 k1 k2 k3
        obtain ⟨⟨k0, k1, k2, k3⟩, -⟩ := HR1.out.four
        go_wp2_with (go_at_call 79; refine (refTime_any _ _).mono ?_; rintro e w' ⟨rfl, hw'⟩; obtain rfl := hw'.symm; (rw [HT.out]))
        go_loopw [3, 4, 5, 32] (fun s3 _ _ i wr => ∃ (k : Nat) (p : Int), k ≤ n ∧ s3 = .int .i64 p ∧ i = .int .i64 (k : Int) ∧ Hid (Below w1.heap.size w1 wr ∧ wrongCl c = knGo (prevKn l k) (l.drop k) ∧ (k ≠ 0 → prevKn l k = some p))) (fun _ _ _ i _ => n - (intOf i).toNat)
        case atStart => exact ⟨0, 0, by omega, rfl, rfl, hid ⟨Below.refl _ _, HW.out, fun h => absurd rfl h⟩⟩
        case round =>
          obtain ⟨k, p, hk, rfl, rfl, HT⟩ := hrel
          have hszr := HT.out.1.size
          have HBW := hid (HB1.out.trans (HT.out.1.mono HB1.out.size))
          have hszw := HB1.out.size
          by_cases hlt : k < n
          · obtain ⟨x, hx⟩ : ∃ x, l[k]? = some x := ⟨l[k]'(by rw [HN.out]; exact hlt), List.getElem?_eq_getElem _⟩
            obtain ⟨b, o, rfl, hcells⟩ := HK.out.spot (by omega)
            obtain ⟨hbN, vr, vn, d0, d1, d2, d3, b2, b3⟩ := hcells k x hx
            obtain ⟨o2, c2, rfl, -⟩ := b2.shape
            obtain ⟨o3, c3, rfl, -⟩ := b3.shape
            have hbl : b < w.heap.size := by omega
            have f0 := (HBW.out.cell (p := ⟨b, o + k * 4, none⟩) hbl).trans d0
            have f1 := (HBW.out.cell (p := ⟨b, o + k * 4 + 1, none⟩) hbl).trans d1
            have f2 := (HBW.out.cell (p := ⟨b, o + k * 4 + 2, none⟩) hbl).trans d2
            have f3 := (HBW.out.cell (p := ⟨b, o + k * 4 + 3, none⟩) hbl).trans d3
            have HST := hid (knGo_at l k x hx)
            have HPS := hid (prevKn_succ l k x hx)
            have hlt' : (k : Int) < (n : Int) := by omega
            obtain ⟨w2, hw2⟩ : ∃ w2, wr.alloc (.cells #[.int .i64 x.height, .int .i64 x.time, .slice o2 x.root.length c2, .slice o3 x.next.length c3] 116) = w2 := ⟨_, rfl⟩
            have hbr2 : Below wr.heap.size wr w2 := by rw [← hw2]; exact (Below.refl _ _).alloc (Nat.le_refl _) _
            have HB2 := hid (HT.out.1.trans (hbr2.mono hszr))
            have HBW2 := hid (HBW.out.trans (hbr2.mono HBW.out.size))
            have hrow2 : Row w2 wr.heap.size 116 [.int .i64 x.height, .int .i64 x.time, .slice o2 x.root.length c2, .slice o3 x.next.length c3] := by rw [← hw2]; exact Row.new _ _ _
            have q0 := hrow2.cell 0
            have q1 := hrow2.cell 1
            have q2 := hrow2.cell 2
            have q3 := hrow2.cell 3
            have HW2 := hid hw2
            clear d0 d1 d2 d3 hbr2 hrow2 b2 b3 hcells hx
            have STEP := fun (hne : wrongK x = 0) => HST.out.trans (if_neg (fun h => h hne))
            have BAD := fun (hne : wrongK x ≠ 0) => HST.out.trans (if_pos hne)
            have STEP' := hid STEP
            have BAD' := hid BAD
            clear STEP BAD
            by_cases hr : x.height < 1 ∨ 1000000000000 < x.height ∨ x.time < 0 ∨ 1000000000000 < x.time
            · have HV2 := hid (show wrongCl c = 3 by rw [HT.out.2.1, BAD'.out (by rw [wrongK_3 hr]; decide), wrongK_3 hr])
              by_cases r1 : x.height = 0
              · have e5 : (x.height == 0) = true := by simpa using r1
                clear hr r1
                go_wp2
                go_ret
                exact ⟨by rw [HV2.out]; first | done | rfl, HBW2.out⟩
              · have e5 : (x.height == 0) = false := by simpa using r1
                by_cases r2 : x.height < 0 ∨ 1000000000000 < x.height
                · have HT1 := hid (timeN_false r2)
                  clear hr r1 r2
                  go_wp2_with (go_at_call 79; refine (refTime_any _ _).mono ?_; rintro e w' ⟨rfl, hw'⟩; obtain rfl := hw'.symm; (rw [HT1.out]))
                  go_ret
                  exact ⟨by rw [HV2.out]; first | done | rfl, HBW2.out⟩
                · have HT1 := hid (timeN_true r2)
                  have HT2 := hid (timeN_false (n := x.time) (by omega))
                  clear hr r1 r2
                  go_wp2_with (go_at_call 79; refine (refTime_any _ _).mono ?_; rintro e w' ⟨rfl, hw'⟩; obtain rfl := hw'.symm; (first | rw [HT1.out] | rw [HT2.out]))
                  go_ret
                  exact ⟨by rw [HV2.out]; first | done | rfl, HBW2.out⟩
            · have e5 : (x.height == 0) = false := by rw [beq_eq_false_iff_ne]; omega
              have HT1 := hid (timeN_true (n := x.height) (by omega))
              have HT2 := hid (timeN_true (n := x.time) (by omega))
              by_cases l1 : x.root.length = 32
              · have e6 : ((x.root.length : Int) != 32) = false := by simp; omega
                by_cases l2 : x.next.length = 32
                · have e7 : ((x.next.length : Int) != 32) = false := by simp; omega
                  have HWK := hid (wrongK_0 hr (by omega))
                  clear hr l1 l2
                  by_cases hk0 : k = 0
                  · have e8 : decide ((0 : Int) < (k : Int)) = false := by simp; omega
                    have e9 : decide (0 < k) = false := by simp; omega
                    have HV2 := hid (show wrongCl c = knGo (prevKn l (k + 1)) (l.drop (k + 1)) by rw [HT.out.2.1, STEP'.out HWK.out, if_neg (by rw [hk0]; simp [prevKn_zero, aheadI])])
                    clear hk0
                    go_wp2_with (go_at_call 79; refine (refTime_any _ _).mono ?_; rintro e w' ⟨rfl, hw'⟩; obtain rfl := hw'.symm; (first | rw [HT1.out] | rw [HT2.out]))
                    go_roundw
                    case rel => exact ⟨k + 1, x.height, by omega, rfl, by go_num, hid ⟨HB2.out, HV2.out, fun _ => HPS.out⟩⟩
                    case measure => simp [intOf]; omega
                  · have e8 : decide ((0 : Int) < (k : Int)) = true := by simp; omega
                    have e9 : decide (0 < k) = true := by simp; omega
                    have HPV := hid (HT.out.2.2 hk0)
                    clear hk0
                    by_cases hle : x.height ≤ p
                    · have e10 : decide (x.height ≤ p) = true := by simpa using hle
                      have HV2 := hid (show wrongCl c = 2 by rw [HT.out.2.1, STEP'.out HWK.out, HPV.out, if_pos (by simpa [aheadI] using hle)])
                      clear hle
                      go_wp2_with (go_at_call 79; refine (refTime_any _ _).mono ?_; rintro e w' ⟨rfl, hw'⟩; obtain rfl := hw'.symm; (first | rw [HT1.out] | rw [HT2.out]))
                      go_ret
                      exact ⟨by rw [HV2.out]; first | done | rfl, HBW2.out⟩
                    · have e10 : decide (x.height ≤ p) = false := by simpa using hle
                      have HV2 := hid (show wrongCl c = knGo (prevKn l (k + 1)) (l.drop (k + 1)) by rw [HT.out.2.1, STEP'.out HWK.out, HPV.out, if_neg (by simpa [aheadI] using hle)])
                      clear hle
                      go_wp2_with (go_at_call 79; refine (refTime_any _ _).mono ?_; rintro e w' ⟨rfl, hw'⟩; obtain rfl := hw'.symm; (first | rw [HT1.out] | rw [HT2.out]))
                      go_roundw
                      case rel => exact ⟨k + 1, x.height, by omega, rfl, by go_num, hid ⟨HB2.out, HV2.out, fun _ => HPS.out⟩⟩
                      case measure => simp [intOf]; omega
                · have e7 : ((x.next.length : Int) != 32) = true := by simp; omega
                  have HV2 := hid (show wrongCl c = 2 by rw [HT.out.2.1, BAD'.out (by rw [wrongK_2 hr (.inr l2)]; decide), wrongK_2 hr (.inr l2)])
                  clear hr l1 l2
                  go_wp2_with (go_at_call 79; refine (refTime_any _ _).mono ?_; rintro e w' ⟨rfl, hw'⟩; obtain rfl := hw'.symm; (first | rw [HT1.out] | rw [HT2.out]))
                  go_ret
                  exact ⟨by rw [HV2.out]; first | done | rfl, HBW2.out⟩
              · have e6 : ((x.root.length : Int) != 32) = true := by simp; omega
                have HV2 := hid (show wrongCl c = 2 by rw [HT.out.2.1, BAD'.out (by rw [wrongK_2 hr (.inl l1)]; decide), wrongK_2 hr (.inl l1)])
                clear hr l1
                go_wp2_with (go_at_call 79; refine (refTime_any _ _).mono ?_; rintro e w' ⟨rfl, hw'⟩; obtain rfl := hw'.symm; (first | rw [HT1.out] | rw [HT2.out]))
                go_ret
                exact ⟨by rw [HV2.out]; first | done | rfl, HBW2.out⟩
          · have hge : decide ((k : Int) < (n : Int)) = false := by simp; omega
            have HV2 := hid (show wrongCl c = 0 by rw [HT.out.2.1, knGo_end l k (by rw [HN.out]; omega)])
            go_wp2
            go_ret
            exact ⟨by rw [HV2.out]; first | done | rfl, HBW.out⟩
  · have hn' : nameB c.chain = false := by simpa using hn
    have HNM := hid hn'
    have HW := hid (wrongCl_7 hn')
    clear hn hn'
    go_enter Tryd.func69, Tryd.ntmps69
    go_wp2_with fail
    rw [HW0.out]
    refine (refName_any _ _ HF1.out).mono ?_
    rintro e w1 ⟨rfl, hb1⟩
    rw [HNM.out]
    have HB01 := hid hb1
    have HB1 := hid (HB0.out.trans (hb1.mono HB0.out.size))
    have HR1 := hid (HR0.out.below hb1 HR0.out.lt)
    clear hb1 k0 k1 k2 k3
    obtain ⟨⟨k0, k1, k2, k3⟩, -⟩ := HR1.out.four
    go_wp2
    go_ret
    exact ⟨by rw [HW.out]; first | done | rfl, HB1.out⟩
end Go.Proofs.YtnoaohlajllngaaDoor
namespace Go.Proofs.YtnoaohlajllngaaDoor
open Go.RowKit

end Go.Proofs.YtnoaohlajllngaaDoor
