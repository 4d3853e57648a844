/-
  What take does: the bytes that a slice reads as, behind those that were taken ahead.
-/
import Derived.Test.YtedjmhiocmefiaaDoorShaAbs
import Derived.Test.YtedjmhiocmefiaaDoorShaMix
namespace Go.Proofs.YtedjmhiocmefiaaDoor
open Go.RowKit

theorem Bytes.shape {w : World} {N : Nat} {sv : Value} {l : List (BitVec 8)} (h : Bytes w N sv l) : ∃ oa cap, sv = .slice oa l.length cap ∧ l.length ≤ cap := by
  rcases h with ⟨rfl, rfl⟩ | ⟨a, cap, rfl, rfl⟩ | ⟨b, off, cap, rfl, hc, _⟩
  · exact ⟨none, 0, rfl, Nat.le_refl _⟩
  · exact ⟨_, cap, rfl, Nat.zero_le _⟩
  · exact ⟨_, cap, rfl, hc⟩
theorem Bytes.some {w : World} {N : Nat} {oa : Option Addr} {cap : Nat} {l : List (BitVec 8)} (h : Bytes w N (.slice oa l.length cap) l) (hl : 0 < l.length) :
    ∃ b off, oa = some ⟨b, off, none⟩ ∧ ∀ i, i < l.length → b < N ∧ w.cell? ⟨b, off + i, none⟩ = some (.int .u8 (b8 (l.getD i 0))) := by
  rcases h with ⟨_, rfl⟩ | ⟨_, _, _, rfl⟩ | ⟨b, off, c, h1, _, h3⟩
  · simp at hl
  · simp at hl
  · simp at h1
    exact ⟨b, off, h1.1, h3⟩
/-- how long a slice value is -/
def lenOf : Value → Nat
  | .slice _ n _ => n
  | _ => 0
/-- 's.rest' as a slice, from place i on, is no copy of anything: it lies in the digest's own row -/
def tableAt (w : World) : Prop := ∀ t, t < 64 → w.cell? ⟨0, t, none⟩ = Option.some (.int .u32 (u (kTab.getD t 0)))
theorem tableAt.grown {w w' : World} {B : Nat} (h : tableAt w) (hg : w.grownBy w' (Option.some B)) (hB : B ≠ 0) : tableAt w' := by
  intro t ht
  have h0 := h t ht
  have : (0 : Nat) < w.heap.size := block_lt_of_cell h0
  rw [← h0]
  exact World.cell?_of_block (hg.block 0 this (by simp; omega))

theorem slice_rest (B hd : Nat) (h : hd < 64) (w : World) : (Instr.sliceAt 42 (.pointer (Option.some ⟨B, 8, none⟩)) (Option.some (.int .i64 (hd : Int))) none none).run Tryd.prog w = .ok (.slice (Option.some ⟨B, 8 + hd, none⟩) (64 - hd) (64 - hd)) w := by
  have hl : Tryd.prog.arrayLen 42 = 64 := by kernel_rfl
  have hs : (sizeOf (Tryd.prog.elem 42)).run Tryd.prog w = .ok 1 w := by kernel_rfl
  have hne : ¬ 64 = hd := by omega
  rw [run_sliceAt_array_l w 42 ⟨B, 8, none⟩ (by kernel_rfl) .i64 hd (by omega) (by rw [hl]; omega), hs, hl]
  simp [slicedAt, hne, Addr.add]
set_option maxRecDepth 100000 in
set_option maxHeartbeats 2000000 in
theorem take_any (m l R : List (BitVec 8)) (sv : Value) (N B : Nat) (w : World) (hA : Abs m R) (hB : Row w B 44 (digOf m R)) (hN : N ≤ B) (hB0 : B ≠ 0)
    (hb : Bytes w N sv l) (hK : tableAt w) (hlen : m.length + l.length < 2305843009213693952) :
    Calls Tryd.prog 23 #[.pointer (some ⟨B, 0, none⟩), sv] w fun e w' =>
      e = .returned (.tuple #[]) ∧ w.grownBy w' (some B) ∧ ∃ R', Abs (m ++ l) R' ∧ Row w' B 44 (digOf (m ++ l) R') := by
  obtain ⟨oa, cap, rfl, hcap⟩ := hb.shape
  have hR := hA.1
  unfold digOf at hB
  have hlt : B < w.heap.size := hB.lt
  have cz : w.cell? ⟨B, 73, none⟩ = some (.int .u64 (m.length : Int)) := (hB.cell 73).trans (dig_size _ _ _ _ hR)
  have ch : w.cell? ⟨B, 72, none⟩ = some (.int .i64 ((m.length % 64 : Nat) : Int)) := (hB.cell 72).trans (dig_held _ _ _ _ hR)
  have fz : w.frozen? ⟨B, 73, none⟩ = false := hB.frozen 73
  have hwz : IntKind.u64.wrap ((m.length : Int) + (l.length : Int)) = ((m.length + l.length : Nat) : Int) := by
    simp [IntKind.wrap, IntKind.bits, IntKind.signed]; omega
  have hwl : IntKind.u64.wrap (l.length : Int) = (l.length : Int) := by
    simp [IntKind.wrap, IntKind.bits, IntKind.signed]; omega
  have HA := hid hA
  have HB := hid hB
  have HBY := hid hb
  have HK := hid hK
  have HLEN := hid hlen
  have HR := hid hR
  clear hA hB hb hK hlen hR
  by_cases hh : 0 < m.length % 64
  · have hh' : (0 : Int) < ((m.length % 64 : Nat) : Int) := by omega
    have hhd64 : ((m.length % 64 : Nat) : Int) < 64 := by omega
    generalize hhd : m.length % 64 = hd at *
    generalize hml : m.length = ml at *
    generalize hll : l.length = ll at *
    generalize hsw : mixAll (ml / 64) hTab m = sw at *
    have HHD := hid hhd
    have HML := hid hml
    have HLL := hid hll
    have HSW := hid hsw
    clear hhd hml hll hsw
    go_enter Tryd.func23, Tryd.ntmps23
    go_wp2_with fail
    obtain ⟨w1, hw1⟩ : ∃ w1, w.setCell ⟨B, 73, none⟩ (.int .u64 ((ml : Int) + (ll : Int))) = w1 := ⟨_, rfl⟩
    rw [hw1]
    have hrow1 : Row w1 B 44 (dig sw R hd (ml + ll)) := by
      have h := HB.out.set 73 (.int .u64 ((ml + ll : Nat) : Int))
      rw [dig_setSize _ _ _ _ _ HR.out] at h
      rw [← hw1]; exact h
    have hg1 : w.grownBy w1 (some B) := by rw [← hw1]; exact grown_set _ _ _ _
    have ch1 : w1.cell? ⟨B, 72, none⟩ = some (.int .i64 (hd : Int)) := (hrow1.cell 72).trans (dig_held _ _ _ _ HR.out)
    have hlt1 : B < w1.heap.size := hrow1.lt
    have hby1 : Bytes w1 N (.slice oa ll cap) l := HBY.out.grown hg1 hN (by omega)
    have HROW1 := hid hrow1
    have HG1 := hid hg1
    have HBY1 := hid hby1
    clear hw1 cz ch fz hwz hwl hrow1 hg1 hby1
    have hsl := slice_rest B hd (by omega)
    refine region_tail 9 (by kernel_rfl) (by kernel_rfl) ?_
    simp only [List.take_succ_cons, List.take_zero, List.drop_succ_cons, List.drop_zero]
    repeat still_step
    refine wpStill_nil ?_
    clear hsl ch1
    obtain ⟨w2, hcopy, hg2, hrow2⟩ := copy_rest sw R l hd (ml + ll) hd (64 - hd) N B 3 (.slice oa ll cap) w1.drew HROW1.out HR.out (by omega) HBY1.out
    refine wpList_copy rfl (.tmp 27) (.tmp 28) 22 22 rfl _ _ _ rfl rfl hcopy ?_
    obtain ⟨nn, hnn⟩ : ∃ nn, min l.length (64 - hd) = nn := ⟨_, rfl⟩
    obtain ⟨R2, hR2⟩ : ∃ R2, R.take hd ++ l.take (64 - hd) ++ R.drop (hd + nn) = R2 := ⟨_, rfl⟩
    rw [hnn] at hrow2 ⊢
    rw [hR2] at hrow2
    have hR2l : R2.length = 64 := by
      have h1 := HR.out
      rw [← hR2]; simp; omega
    have hnl : nn ≤ ll := by have := HLL.out; omega
    have hcapn : ll ≤ cap := hcap
    have ch2 : w2.cell? ⟨B, 72, none⟩ = some (.int .i64 (hd : Int)) := (hrow2.cell 72).trans (dig_held _ _ _ _ hR2l)
    have f2 : w2.frozen? ⟨B, 72, none⟩ = false := hrow2.frozen 72
    have hby2 : Bytes w2 N (.slice oa ll cap) l := (show Bytes w1.drew N (.slice oa ll cap) l from HBY1.out).grown hg2 hN (by show N ≤ w1.heap.size; omega)
    have HROW2 := hid hrow2
    have HG2 := hid hg2
    have HBY2 := hid hby2
    have HR2 := hid hR2
    have HNN := hid hnn
    have HR2L := hid hR2l
    clear hcopy hrow2 hg2 hby2 hR2 hR2l hnn
    by_cases hshort : hd + ll < 64
    · have hnn2 : nn = ll := by have h1 := HNN.out; have h2 := HLL.out; omega
      subst hnn2
      have hsum : (hd : Int) + (nn : Int) < 64 := by omega
      have hshape := abs_short m l R HA.out (by have h1 := HHD.out; have h2 := HML.out; have h3 := HLL.out; subst h1; rw [h2, h3]; omega)
      rw [HML.out, HHD.out, HNN.out, HR2.out, HLL.out] at hshape
      have HSH := hid hshape
      clear hshape
      go_wp2_with fail
      all_goals
        refine bodyPost_ret (v := .tuple #[]) (by simp [results, Tryd.results23, go_sem]) rfl ⟨rfl, ?_, R2, HSH.out.1, ?_⟩
        · exact grown_trans (grown_trans (grown_drew HG1.out) HG2.out) (grown_set _ _ _ _)
        · have h := HROW2.out.set 72 (.int .i64 ((hd + nn : Nat) : Int))
          rw [dig_setHeld _ _ _ _ _ HR2L.out] at h
          unfold digOf
          rw [HSH.out.2.2.2, HSH.out.2.2.1, List.length_append, HML.out, HLL.out, HSW.out]
          exact h
    · have hl0 : 0 < l.length := by have h2 := HLL.out; omega
      have hnn2 : nn = 64 - hd := by have h1 := HNN.out; have h2 := HLL.out; omega
      subst hnn2
      obtain ⟨b, off, rfl, hcells⟩ := (show Bytes w2 N (.slice oa l.length cap) l by rw [HLL.out]; exact HBY2.out).some hl0
      have hfill := abs_fill m l R HA.out (by have h1 := HHD.out; have h2 := HML.out; have h3 := HLL.out; rw [h2, h3, h1]; omega)
      rw [HML.out, HHD.out, HNN.out, HR2.out] at hfill
      have hsum : (hd : Int) + ((64 - hd : Nat) : Int) = 64 := by omega
      have HC := hid hcells
      have HF := hid hfill
      clear hcells hfill
      obtain ⟨w3, hw3⟩ : ∃ w3, w2.setCell ⟨B, 72, none⟩ (.int .i64 64) = w3 := ⟨_, rfl⟩
      have hrow3 : Row w3 B 44 (dig sw R2 64 (ml + ll)) := by
        have h := HROW2.out.set 72 (.int .i64 ((64 : Nat) : Int))
        rw [dig_setHeld _ _ _ _ _ HR2L.out] at h
        rw [← hw3]; exact h
      have hg3 : w.grownBy w3 (some B) := by
        rw [← hw3]; exact grown_trans (grown_trans (grown_drew HG1.out) HG2.out) (grown_set _ _ _ _)
      have hmix := mix_any sw (R2.map V ++ [.int .i64 ((64 : Nat) : Int), .int .u64 ((ml + ll : Nat) : Int)]) R2 B 8 64 B w3 hrow3 hB0 (HK.out.grown hg3 hB0)
        (fun i hi => (hrow3.cell (8 + i)).trans (dig_at _ _ _ _ _ (by rw [HR2L.out]; exact hi)))
      have hwords : mixed sw R2 = mixAll (ml / 64 + 1) hTab (m ++ l) := by
        rw [mixAll_succ, ← HF.out.1, mixAll_append _ _ _ _ (by rw [HML.out]; omega), HSW.out]
      have hj : 64 * (ml / 64 + 1) ≤ (m ++ l).length := by
        rw [List.length_append, HML.out, HLL.out]; have h1 := HHD.out; omega
      have hg3' : w2.grownBy w3 (some B) := by rw [← hw3]; exact grown_set _ _ _ _
      have hlt2 : B < w2.heap.size := HROW2.out.lt
      have hby3 : ∀ i, i < l.length → b < N ∧ w3.cell? ⟨b, off + i, none⟩ = some (.int .u8 (b8 (l.getD i 0))) := fun i hi => by
        have h1 := HC.out i hi
        refine ⟨h1.1, ?_⟩
        rw [← h1.2]
        exact World.cell?_of_block (hg3'.block b (by have := h1.1; omega) (by have := h1.1; simp; omega))
      have HW3 := hid hw3
      clear hw3
      have HMIX := hid hmix
      have HG3 := hid hg3
      have HBY3 := hid hby3
      have HW := hid hwords
      have HJ := hid hj
      clear hmix hrow3 hg3 hg3' hby3 hwords hj
      by_cases hcn : cap = 64 - hd
      · go_wp2_with fail
        rw [HW3.out]
        refine HMIX.out.mono ?_
        rintro e w4 ⟨rfl, hg4, hrow4⟩
        have hby4 : Bytes w4 N (.slice (some ⟨b, off, none⟩) (ll - (64 - hd)) 0) ((m ++ l).drop (64 * (ml / 64 + 1))) := by
          rw [← HF.out.2]
          have h := Bytes.none_left (w := w4) (N := N) (l := l) ⟨b, off, none⟩ cap (64 - hd) (by rw [HLL.out]; omega)
          rw [HLL.out, hcn, Nat.sub_self] at h
          exact h
        have hg4' := grown_trans HG3.out hg4
        rw [HW.out] at hrow4
        have HROWL := hid hrow4
        have HBYL := hid hby4
        have HGL := hid hg4'
        clear hrow4 hby4 hg4 hg4' HMIX HG3 HBY3 HW3 HC HG1 HG2 HROW1 HROW2 HBY1 HBY2 HB HBY
        have HRL := hid HR2L.out
        clear HR2L
        go_wp2_with fail
        go_loopw [1] (fun v wr => ∃ (j h' : Nat) (R' : List (BitVec 8)), 64 * j ≤ (m ++ l).length ∧ R'.length = 64 ∧ Row wr B 44 (dig (mixAll j hTab (m ++ l)) R' h' (ml + ll)) ∧ Bytes wr N v ((m ++ l).drop (64 * j)) ∧ w.grownBy wr (some B)) (fun v _ => lenOf v)
        case atStart => exact ⟨_, _, _, HJ.out, HRL.out, HROWL.out, HBYL.out, HGL.out⟩
        case round =>
          clear HROWL HBYL HGL HJ HRL
          obtain ⟨j, h', R', hj', hR', hrow, hby, hgr⟩ := hrel
          obtain ⟨oa2, cap2, rfl, hcap2⟩ := hby.shape
          have hltr : B < wr.heap.size := hrow.lt
          have hlen2 : ((m ++ l).drop (64 * j)).length < 2305843009213693952 := by have h1 := HLEN.out; have h2 := HML.out; have h3 := HLL.out; simp; omega
          by_cases h64 : 64 ≤ ((m ++ l).drop (64 * j)).length
          · obtain ⟨b2, off2, rfl, hcells2⟩ := hby.some (by omega)
            have hmix := mix_any (mixAll j hTab (m ++ l)) (R'.map V ++ [.int .i64 (h' : Int), .int .u64 ((ml + ll : Nat) : Int)]) (((m ++ l).drop (64 * j)).take 64) b2 off2 cap2 B wr hrow hB0 (HK.out.grown hgr hB0)
              (fun i hi => by rw [(hcells2 i (by omega)).2]; simp [hi])
            rw [← mixAll_succ] at hmix
            have hj2 : 64 * (j + 1) ≤ (m ++ l).length := by have h := h64; simp at h; simp; omega
            have htail : cap2 ≠ 64 → Bytes wr N (.slice (some ⟨b2, off2 + 64, none⟩) (((m ++ l).drop (64 * j)).length - 64) (cap2 - 64)) ((m ++ l).drop (64 * (j + 1))) := fun _ => by
              have h := Bytes.tail (w := wr) (N := N) b2 off2 cap2 64 h64 hcap2 hcells2
              rw [List.drop_drop] at h
              rw [show 64 * (j + 1) = 64 * j + 64 by omega]; exact h
            have hnone : cap2 = 64 → Bytes wr N (.slice (some ⟨b2, off2, none⟩) (((m ++ l).drop (64 * j)).length - 64) (cap2 - 64)) ((m ++ l).drop (64 * (j + 1))) := fun hc => by
              have h := Bytes.none_left (w := wr) (N := N) (l := (m ++ l).drop (64 * j)) ⟨b2, off2, none⟩ cap2 64 (by omega)
              rw [List.drop_drop] at h
              rw [show 64 * (j + 1) = 64 * j + 64 by omega]; exact h
            generalize hnr : ((m ++ l).drop (64 * j)).length = nr at *
            have HMIX := hid hmix
            have HROW := hid hrow
            have HGR := hid hgr
            have HT := hid htail
            have HN := hid hnone
            have HR' := hid hR'
            have HJ2 := hid hj2
            clear hmix hrow hgr htail hnone hR' hj2 hcells2 hby hj' hnr
            have h64' : (64 : Int) ≤ (nr : Int) := by omega
            have hcap' : (64 : Int) ≤ (cap2 : Int) := by omega
            by_cases hc64 : cap2 = 64
            · have hnr64 : nr = 64 := by omega
              subst hnr64
              subst hc64
              go_wp2_with (go_at_call 42; refine HMIX.out.mono ?_; rintro e w5 ⟨rfl, hg5, hrow5⟩)
              go_roundw
              case rel =>
                exact ⟨j + 1, h', R', HJ2.out, HR'.out, hrow5, (HN.out (by trivial)).grown hg5 hN (by omega), grown_trans HGR.out hg5⟩
              case measure => simp [lenOf]
            · go_wp2_with (go_at_call 42; refine HMIX.out.mono ?_; rintro e w5 ⟨rfl, hg5, hrow5⟩)
              go_roundw
              case rel =>
                exact ⟨j + 1, h', R', HJ2.out, HR'.out, hrow5, (HT.out hc64).grown hg5 hN (by omega), grown_trans HGR.out hg5⟩
              case measure => simp [lenOf]; omega
          · obtain ⟨w6, hcopy, hg6, hrow6⟩ := copy_rest (mixAll j hTab (m ++ l)) R' ((m ++ l).drop (64 * j)) h' (ml + ll) 0 64 N B 3 (.slice oa2 ((m ++ l).drop (64 * j)).length cap2) wr hrow hR' (by omega) hby
            have hend := abs_end (m ++ l) R' j hR' hj' (by omega)
            have hmin : min ((m ++ l).drop (64 * j)).length (64 - 0) = ((m ++ l).drop (64 * j)).length := by omega
            rw [hmin] at hcopy hrow6 hend
            generalize hnr : ((m ++ l).drop (64 * j)).length = nr at *
            have hR6 := hend.1.1
            have f6 : w6.frozen? ⟨B, 72, none⟩ = false := hrow6.frozen 72
            obtain ⟨v6, c6⟩ : ∃ v6, w6.cell? ⟨B, 72, none⟩ = some v6 := ⟨_, (hrow6.cell 72).trans (dig_held _ _ _ _ hR6)⟩
            have HCOPY := hid hcopy
            have HROW6 := hid hrow6
            have HG6 := hid hg6
            have HGR := hid hgr
            have HEND := hid hend
            have HR6 := hid hR6
            clear hcopy hrow6 hg6 hgr hend hR6 hmin hby hrow hR' hj' hnr
            have h64' : (nr : Int) < 64 := by omega
            go_wp2_with (refine wpList_copy rfl (.tmp 65) (.tmp 66) 22 22 rfl _ _ _ rfl rfl HCOPY.out ?_)
            go_end0
            refine ⟨rfl, grown_trans (grown_trans HGR.out HG6.out) (grown_set _ _ _ _), _, HEND.out.1, ?_⟩
            have h := HROW6.out.set 72 (.int .i64 (nr : Int))
            rw [dig_setHeld _ _ _ _ _ HR6.out] at h
            unfold digOf
            rw [HEND.out.2.1, HEND.out.2.2, List.length_append, HML.out, HLL.out]
            exact h
      · go_wp2_with fail
        rw [HW3.out]
        refine HMIX.out.mono ?_
        rintro e w4 ⟨rfl, hg4, hrow4⟩
        have hby4 : Bytes w4 N (.slice (some ⟨b, off + (64 - hd), none⟩) (ll - (64 - hd)) (cap - (64 - hd))) ((m ++ l).drop (64 * (ml / 64 + 1))) := by
          rw [← HF.out.2]
          have h := Bytes.tail (w := w3) (N := N) b off cap (64 - hd) (by rw [HLL.out]; omega) (by rw [HLL.out]; exact hcap) HBY3.out
          rw [HLL.out] at h
          exact h.grown hg4 hN (by have h3 := HG3.out.size; omega)
        have hg4' := grown_trans HG3.out hg4
        rw [HW.out] at hrow4
        have HROWL := hid hrow4
        have HBYL := hid hby4
        have HGL := hid hg4'
        clear hrow4 hby4 hg4 hg4' HMIX HG3 HBY3 HW3 HC HG1 HG2 HROW1 HROW2 HBY1 HBY2 HB HBY
        have HRL := hid HR2L.out
        clear HR2L
        go_wp2_with fail
        go_loopw [1] (fun v wr => ∃ (j h' : Nat) (R' : List (BitVec 8)), 64 * j ≤ (m ++ l).length ∧ R'.length = 64 ∧ Row wr B 44 (dig (mixAll j hTab (m ++ l)) R' h' (ml + ll)) ∧ Bytes wr N v ((m ++ l).drop (64 * j)) ∧ w.grownBy wr (some B)) (fun v _ => lenOf v)
        case atStart => exact ⟨_, _, _, HJ.out, HRL.out, HROWL.out, HBYL.out, HGL.out⟩
        case round =>
          clear HROWL HBYL HGL HJ HRL
          obtain ⟨j, h', R', hj', hR', hrow, hby, hgr⟩ := hrel
          obtain ⟨oa2, cap2, rfl, hcap2⟩ := hby.shape
          have hltr : B < wr.heap.size := hrow.lt
          have hlen2 : ((m ++ l).drop (64 * j)).length < 2305843009213693952 := by have h1 := HLEN.out; have h2 := HML.out; have h3 := HLL.out; simp; omega
          by_cases h64 : 64 ≤ ((m ++ l).drop (64 * j)).length
          · obtain ⟨b2, off2, rfl, hcells2⟩ := hby.some (by omega)
            have hmix := mix_any (mixAll j hTab (m ++ l)) (R'.map V ++ [.int .i64 (h' : Int), .int .u64 ((ml + ll : Nat) : Int)]) (((m ++ l).drop (64 * j)).take 64) b2 off2 cap2 B wr hrow hB0 (HK.out.grown hgr hB0)
              (fun i hi => by rw [(hcells2 i (by omega)).2]; simp [hi])
            rw [← mixAll_succ] at hmix
            have hj2 : 64 * (j + 1) ≤ (m ++ l).length := by have h := h64; simp at h; simp; omega
            have htail : cap2 ≠ 64 → Bytes wr N (.slice (some ⟨b2, off2 + 64, none⟩) (((m ++ l).drop (64 * j)).length - 64) (cap2 - 64)) ((m ++ l).drop (64 * (j + 1))) := fun _ => by
              have h := Bytes.tail (w := wr) (N := N) b2 off2 cap2 64 h64 hcap2 hcells2
              rw [List.drop_drop] at h
              rw [show 64 * (j + 1) = 64 * j + 64 by omega]; exact h
            have hnone : cap2 = 64 → Bytes wr N (.slice (some ⟨b2, off2, none⟩) (((m ++ l).drop (64 * j)).length - 64) (cap2 - 64)) ((m ++ l).drop (64 * (j + 1))) := fun hc => by
              have h := Bytes.none_left (w := wr) (N := N) (l := (m ++ l).drop (64 * j)) ⟨b2, off2, none⟩ cap2 64 (by omega)
              rw [List.drop_drop] at h
              rw [show 64 * (j + 1) = 64 * j + 64 by omega]; exact h
            generalize hnr : ((m ++ l).drop (64 * j)).length = nr at *
            have HMIX := hid hmix
            have HROW := hid hrow
            have HGR := hid hgr
            have HT := hid htail
            have HN := hid hnone
            have HR' := hid hR'
            have HJ2 := hid hj2
            clear hmix hrow hgr htail hnone hR' hj2 hcells2 hby hj' hnr
            have h64' : (64 : Int) ≤ (nr : Int) := by omega
            have hcap' : (64 : Int) ≤ (cap2 : Int) := by omega
            by_cases hc64 : cap2 = 64
            · have hnr64 : nr = 64 := by omega
              subst hnr64
              subst hc64
              go_wp2_with (go_at_call 42; refine HMIX.out.mono ?_; rintro e w5 ⟨rfl, hg5, hrow5⟩)
              go_roundw
              case rel =>
                exact ⟨j + 1, h', R', HJ2.out, HR'.out, hrow5, (HN.out (by trivial)).grown hg5 hN (by omega), grown_trans HGR.out hg5⟩
              case measure => simp [lenOf]
            · go_wp2_with (go_at_call 42; refine HMIX.out.mono ?_; rintro e w5 ⟨rfl, hg5, hrow5⟩)
              go_roundw
              case rel =>
                exact ⟨j + 1, h', R', HJ2.out, HR'.out, hrow5, (HT.out hc64).grown hg5 hN (by omega), grown_trans HGR.out hg5⟩
              case measure => simp [lenOf]; omega
          · obtain ⟨w6, hcopy, hg6, hrow6⟩ := copy_rest (mixAll j hTab (m ++ l)) R' ((m ++ l).drop (64 * j)) h' (ml + ll) 0 64 N B 3 (.slice oa2 ((m ++ l).drop (64 * j)).length cap2) wr hrow hR' (by omega) hby
            have hend := abs_end (m ++ l) R' j hR' hj' (by omega)
            have hmin : min ((m ++ l).drop (64 * j)).length (64 - 0) = ((m ++ l).drop (64 * j)).length := by omega
            rw [hmin] at hcopy hrow6 hend
            generalize hnr : ((m ++ l).drop (64 * j)).length = nr at *
            have hR6 := hend.1.1
            have f6 : w6.frozen? ⟨B, 72, none⟩ = false := hrow6.frozen 72
            obtain ⟨v6, c6⟩ : ∃ v6, w6.cell? ⟨B, 72, none⟩ = some v6 := ⟨_, (hrow6.cell 72).trans (dig_held _ _ _ _ hR6)⟩
            have HCOPY := hid hcopy
            have HROW6 := hid hrow6
            have HG6 := hid hg6
            have HGR := hid hgr
            have HEND := hid hend
            have HR6 := hid hR6
            clear hcopy hrow6 hg6 hgr hend hR6 hmin hby hrow hR' hj' hnr
            have h64' : (nr : Int) < 64 := by omega
            go_wp2_with (refine wpList_copy rfl (.tmp 65) (.tmp 66) 22 22 rfl _ _ _ rfl rfl HCOPY.out ?_)
            go_end0
            refine ⟨rfl, grown_trans (grown_trans HGR.out HG6.out) (grown_set _ _ _ _), _, HEND.out.1, ?_⟩
            have h := HROW6.out.set 72 (.int .i64 (nr : Int))
            rw [dig_setHeld _ _ _ _ _ HR6.out] at h
            unfold digOf
            rw [HEND.out.2.1, HEND.out.2.2, List.length_append, HML.out, HLL.out]
            exact h
  · have hd0 : m.length % 64 = 0 := by omega
    rw [hd0] at ch HB
    generalize hml : m.length = ml at *
    generalize hll : l.length = ll at *
    generalize hsw : mixAll (ml / 64) hTab m = sw at *
    have HML := hid hml
    have HLL := hid hll
    have HSW := hid hsw
    have HD0 := hid hd0
    clear hml hll hsw hd0 hh
    go_enter Tryd.func23, Tryd.ntmps23
    go_wp2_with fail
    obtain ⟨w1, hw1⟩ : ∃ w1, w.setCell ⟨B, 73, none⟩ (.int .u64 ((ml : Int) + (ll : Int))) = w1 := ⟨_, rfl⟩
    rw [hw1]
    have hrow1 : Row w1 B 44 (dig sw R 0 (ml + ll)) := by
      have h := HB.out.set 73 (.int .u64 ((ml + ll : Nat) : Int))
      rw [dig_setSize _ _ _ _ _ HR.out] at h
      rw [← hw1]; exact h
    have hg1 : w.grownBy w1 (some B) := by rw [← hw1]; exact grown_set _ _ _ _
    have hby1 : Bytes w1 N (.slice oa ll cap) ((m ++ l).drop (64 * (ml / 64))) := by
      have h1 := HML.out
      have h2 := HD0.out
      rw [List.drop_append, List.drop_of_length_le (l := m) (by omega), List.nil_append, show 64 * (ml / 64) - m.length = 0 by omega, List.drop_zero]
      exact HBY.out.grown hg1 hN (by omega)
    have hw : sw = mixAll (ml / 64) hTab (m ++ l) := by rw [mixAll_append _ _ _ _ (by rw [HML.out]; omega), HSW.out]
    rw [hw] at hrow1
    have hj : 64 * (ml / 64) ≤ (m ++ l).length := by rw [List.length_append, HML.out]; omega
    have HROWL := hid hrow1
    have HBYL := hid hby1
    have HGL := hid hg1
    have HJ := hid hj
    have HRL := hid HR.out
    clear hw1 cz ch fz hwz hwl hrow1 hg1 hby1 hw hj HB HBY HR
    go_wp2_with fail
    go_loopw [1] (fun v wr => ∃ (j h' : Nat) (R' : List (BitVec 8)), 64 * j ≤ (m ++ l).length ∧ R'.length = 64 ∧ Row wr B 44 (dig (mixAll j hTab (m ++ l)) R' h' (ml + ll)) ∧ Bytes wr N v ((m ++ l).drop (64 * j)) ∧ w.grownBy wr (some B)) (fun v _ => lenOf v)
    case atStart => exact ⟨_, _, _, HJ.out, HRL.out, HROWL.out, HBYL.out, HGL.out⟩
    case round =>
      clear HROWL HBYL HGL HJ HRL
      obtain ⟨j, h', R', hj', hR', hrow, hby, hgr⟩ := hrel
      obtain ⟨oa2, cap2, rfl, hcap2⟩ := hby.shape
      have hltr : B < wr.heap.size := hrow.lt
      have hlen2 : ((m ++ l).drop (64 * j)).length < 2305843009213693952 := by have h1 := HLEN.out; have h2 := HML.out; have h3 := HLL.out; simp; omega
      by_cases h64 : 64 ≤ ((m ++ l).drop (64 * j)).length
      · obtain ⟨b2, off2, rfl, hcells2⟩ := hby.some (by omega)
        have hmix := mix_any (mixAll j hTab (m ++ l)) (R'.map V ++ [.int .i64 (h' : Int), .int .u64 ((ml + ll : Nat) : Int)]) (((m ++ l).drop (64 * j)).take 64) b2 off2 cap2 B wr hrow hB0 (HK.out.grown hgr hB0)
          (fun i hi => by rw [(hcells2 i (by omega)).2]; simp [hi])
        rw [← mixAll_succ] at hmix
        have hj2 : 64 * (j + 1) ≤ (m ++ l).length := by have h := h64; simp at h; simp; omega
        have htail : cap2 ≠ 64 → Bytes wr N (.slice (some ⟨b2, off2 + 64, none⟩) (((m ++ l).drop (64 * j)).length - 64) (cap2 - 64)) ((m ++ l).drop (64 * (j + 1))) := fun _ => by
          have h := Bytes.tail (w := wr) (N := N) b2 off2 cap2 64 h64 hcap2 hcells2
          rw [List.drop_drop] at h
          rw [show 64 * (j + 1) = 64 * j + 64 by omega]; exact h
        have hnone : cap2 = 64 → Bytes wr N (.slice (some ⟨b2, off2, none⟩) (((m ++ l).drop (64 * j)).length - 64) (cap2 - 64)) ((m ++ l).drop (64 * (j + 1))) := fun hc => by
          have h := Bytes.none_left (w := wr) (N := N) (l := (m ++ l).drop (64 * j)) ⟨b2, off2, none⟩ cap2 64 (by omega)
          rw [List.drop_drop] at h
          rw [show 64 * (j + 1) = 64 * j + 64 by omega]; exact h
        generalize hnr : ((m ++ l).drop (64 * j)).length = nr at *
        have HMIX := hid hmix
        have HROW := hid hrow
        have HGR := hid hgr
        have HT := hid htail
        have HN := hid hnone
        have HR' := hid hR'
        have HJ2 := hid hj2
        clear hmix hrow hgr htail hnone hR' hj2 hcells2 hby hj' hnr
        have h64' : (64 : Int) ≤ (nr : Int) := by omega
        have hcap' : (64 : Int) ≤ (cap2 : Int) := by omega
        by_cases hc64 : cap2 = 64
        · have hnr64 : nr = 64 := by omega
          subst hnr64
          subst hc64
          go_wp2_with (go_at_call 42; refine HMIX.out.mono ?_; rintro e w5 ⟨rfl, hg5, hrow5⟩)
          go_roundw
          case rel =>
            exact ⟨j + 1, h', R', HJ2.out, HR'.out, hrow5, (HN.out (by trivial)).grown hg5 hN (by omega), grown_trans HGR.out hg5⟩
          case measure => simp [lenOf]
        · go_wp2_with (go_at_call 42; refine HMIX.out.mono ?_; rintro e w5 ⟨rfl, hg5, hrow5⟩)
          go_roundw
          case rel =>
            exact ⟨j + 1, h', R', HJ2.out, HR'.out, hrow5, (HT.out hc64).grown hg5 hN (by omega), grown_trans HGR.out hg5⟩
          case measure => simp [lenOf]; omega
      · obtain ⟨w6, hcopy, hg6, hrow6⟩ := copy_rest (mixAll j hTab (m ++ l)) R' ((m ++ l).drop (64 * j)) h' (ml + ll) 0 64 N B 3 (.slice oa2 ((m ++ l).drop (64 * j)).length cap2) wr hrow hR' (by omega) hby
        have hend := abs_end (m ++ l) R' j hR' hj' (by omega)
        have hmin : min ((m ++ l).drop (64 * j)).length (64 - 0) = ((m ++ l).drop (64 * j)).length := by omega
        rw [hmin] at hcopy hrow6 hend
        generalize hnr : ((m ++ l).drop (64 * j)).length = nr at *
        have hR6 := hend.1.1
        have f6 : w6.frozen? ⟨B, 72, none⟩ = false := hrow6.frozen 72
        obtain ⟨v6, c6⟩ : ∃ v6, w6.cell? ⟨B, 72, none⟩ = some v6 := ⟨_, (hrow6.cell 72).trans (dig_held _ _ _ _ hR6)⟩
        have HCOPY := hid hcopy
        have HROW6 := hid hrow6
        have HG6 := hid hg6
        have HGR := hid hgr
        have HEND := hid hend
        have HR6 := hid hR6
        clear hcopy hrow6 hg6 hgr hend hR6 hmin hby hrow hR' hj' hnr
        have h64' : (nr : Int) < 64 := by omega
        go_wp2_with (refine wpList_copy rfl (.tmp 65) (.tmp 66) 22 22 rfl _ _ _ rfl rfl HCOPY.out ?_)
        go_end0
        refine ⟨rfl, grown_trans (grown_trans HGR.out HG6.out) (grown_set _ _ _ _), _, HEND.out.1, ?_⟩
        have h := HROW6.out.set 72 (.int .i64 (nr : Int))
        rw [dig_setHeld _ _ _ _ _ HR6.out] at h
        unfold digOf
        rw [HEND.out.2.1, HEND.out.2.2, List.length_append, HML.out, HLL.out]
        exact h
end Go.Proofs.YtedjmhiocmefiaaDoor
