/-
  What mix does: one block worked into the digest's eight words; nothing else that was there turns.
-/
import Derived.Test.YtedjmhiocmefiaaDoorShaSpread
import Derived.BigQuiet
namespace Go.Proofs.YtedjmhiocmefiaaDoor
open Go.RowKit
attribute [local go_sem] u_xor u_and u_or u_not u_add u_add' u_andNot

/-- k of eight words have their letters added -/
def plusTo (s r : Oct) (k : Nat) : List (BitVec 32) := (s.plus r).list.take k ++ s.list.drop k
theorem plus_get (s r : Oct) (tl : List Value) : ∀ k, k < 8 → ((plusTo s r k).map U ++ tl)[k]? = some (.int .u32 (u (s.list.getD k 0)))
  | 0, _ => rfl | 1, _ => rfl | 2, _ => rfl | 3, _ => rfl | 4, _ => rfl | 5, _ => rfl | 6, _ => rfl | 7, _ => rfl
theorem plus_set (s r : Oct) (tl : List Value) : ∀ k, k < 8 → ((plusTo s r k).map U ++ tl).set k (U (s.list.getD k 0 + r.list.getD k 0)) = (plusTo s r (k + 1)).map U ++ tl
  | 0, _ => rfl | 1, _ => rfl | 2, _ => rfl | 3, _ => rfl | 4, _ => rfl | 5, _ => rfl | 6, _ => rfl | 7, _ => rfl
theorem oct_index (r : Oct) : ∀ (k : Nat), k < 8 → ∀ w, (Instr.index 41 (.agg #[.int .u32 (u r.a), .int .u32 (u r.b), .int .u32 (u r.c), .int .u32 (u r.d), .int .u32 (u r.e), .int .u32 (u r.f), .int .u32 (u r.g), .int .u32 (u r.h)]) (.int .i64 (k : Int))).run Tryd.prog w = .ok (.int .u32 (u (r.list.getD k 0))) w
  | 0, _ => fun _ => by kernel_rfl | 1, _ => fun _ => by kernel_rfl | 2, _ => fun _ => by kernel_rfl | 3, _ => fun _ => by kernel_rfl
  | 4, _ => fun _ => by kernel_rfl | 5, _ => fun _ => by kernel_rfl | 6, _ => fun _ => by kernel_rfl | 7, _ => fun _ => by kernel_rfl

set_option maxRecDepth 100000 in
set_option maxHeartbeats 1000000 in
theorem mix_any (s : Oct) (tl : List Value) (blk : List (BitVec 8)) (b off cap B : Nat) (w : World)
    (hB : Row w B 44 (s.list.map U ++ tl)) (hB0 : B ≠ 0)
    (hK : ∀ t, t < 64 → w.cell? ⟨0, t, none⟩ = some (.int .u32 (u (kTab.getD t 0))))
    (hc : ∀ i, i < 64 → w.cell? ⟨b, off + i, none⟩ = some (.int .u8 (b8 (blk.getD i 0)))) :
    Calls Tryd.prog 42 #[.pointer (some ⟨B, 0, none⟩), .slice (some ⟨b, off, none⟩) 64 cap] w fun e w' =>
      e = .returned (.tuple #[]) ∧ w.grownBy w' (some B) ∧ Row w' B 44 ((mixed s blk).list.map U ++ tl) := by
  have HB := hid hB
  have HK := hid hK
  have HC := hid hc
  clear hB hK hc
  go_enter Tryd.func42, Tryd.ntmps42
  go_wp2_with fail
  refine (spread_any blk b off cap _ HC.out).mono ?_
  rintro e w1 ⟨rfl, hb1⟩
  have hsz : ((wTo blk 64).map U).toArray.size = 64 := by simp [wTo_length]
  have hone : ((wTo blk 64).map U).toArray.all (·.oneCell') = true := by simp [U, Value.oneCell']
  have hi : (Tryd.prog.info? 64).map (·.size) = some ((wTo blk 64).map U).toArray.size := by rw [hsz]; kernel_rfl
  have hcs0 : ((wTo blk 64).map U).toArray = ((wTo blk 64).map U).toArray := rfl
  generalize hcs : ((wTo blk 64).map U).toArray = cs at *
  have HB1 := hid hb1
  have HS := hid hsz
  have HI := hid hi
  have HCS := hid hcs
  clear hsz hi hcs hcs0 hb1
  go_wp2_with (refine wpList_store_row rfl 64 _ _ rfl w1.heap.size cs rfl rfl 64 (rowU 64 []).toArray (heap_alloc_new _ _) HI.out (by rw [HS.out]; rfl) hone ?_)
  have hr1 : Row w1 B 44 (s.list.map U ++ tl) := HB.out.below HB1.out HB.out.lt
  have hlt1 : B < w1.heap.size := hr1.lt
  obtain ⟨w2, hw2⟩ : ∃ w2, World.setRow (w1.alloc (.cells (rowU 64 []).toArray 64)) w1.heap.size cs = w2 := ⟨_, rfl⟩
  change Code.wp _ _ _ _ (World.setRow (w1.alloc (.cells (rowU 64 []).toArray 64)) w1.heap.size cs)
  rw [hw2]
  have hr2 : Row w2 B 44 (s.list.map U ++ tl) := by
    rw [← hw2]; unfold Row; rw [setRow_other _ _ _ _ (by omega)]; exact hr1.alloc _
  have hg2 : w.grownBy w2 (some B) := by
    refine grown_trans (grown_below HB1.out) ?_
    rw [← hw2]
    exact ⟨rfl, rfl, rfl, by simp, fun k hk _ => by rw [setRow_other _ _ _ _ (by omega)]; exact Below.heap_alloc _ _ _ hk⟩
  have hw2r : w2.heap[w1.heap.size]? = some (.cells cs 64 (0, 0)) := by
    rw [← hw2]; exact setRow_heap _ _ (rowU 64 []).toArray _ _ _ (heap_alloc_new _ _)
  have hlt2 : B < w2.heap.size := hr2.lt
  have c0 : w2.cell? ⟨B, 0, none⟩ = some (.int .u32 (u s.a)) := hr2.cell 0
  have c1 : w2.cell? ⟨B, 1, none⟩ = some (.int .u32 (u s.b)) := hr2.cell 1
  have c2 : w2.cell? ⟨B, 2, none⟩ = some (.int .u32 (u s.c)) := hr2.cell 2
  have c3 : w2.cell? ⟨B, 3, none⟩ = some (.int .u32 (u s.d)) := hr2.cell 3
  have c4 : w2.cell? ⟨B, 4, none⟩ = some (.int .u32 (u s.e)) := hr2.cell 4
  have c5 : w2.cell? ⟨B, 5, none⟩ = some (.int .u32 (u s.f)) := hr2.cell 5
  have c6 : w2.cell? ⟨B, 6, none⟩ = some (.int .u32 (u s.g)) := hr2.cell 6
  have c7 : w2.cell? ⟨B, 7, none⟩ = some (.int .u32 (u s.h)) := hr2.cell 7
  clear hw2
  have HR2 := hid hr2
  have HG2 := hid hg2
  have HW2 := hid hw2r
  generalize hw1s : w1.heap.size = G at *
  have HKw : Hid (∀ t, t < 64 → w2.cell? ⟨0, t, none⟩ = some (.int .u32 (u (kTab.getD t 0)))) := by
    intro t ht
    have h0 := HK.out t ht
    have : (0 : Nat) < w.heap.size := block_lt_of_cell h0
    rw [← h0]
    exact World.cell?_of_block (hg2.block 0 this (by simp; omega))
  clear hr2 hg2 hw2r hr1 HB HK HC
  clear hw1s HB1
  go_quiet (fail)
  go_wp2_with fail
  go_quiet (fail)
  go_wp2_with fail
  have HW : Hid (∀ t, t < 64 → w2.cell? ⟨G, t, none⟩ = some (.int .u32 (u ((wTo blk 64).getD t 0)))) := by
    intro t ht
    have hx := cell_of_row w2 G t cs 64 (0, 0) HW2.out
    rw [hx, ← HCS.out]
    have hl : t < (wTo blk 64).length := by rw [wTo_length]; exact ht
    simp [hl, U]
  clear c0 c1 c2 c3 c4 c5 c6 c7
  go_loopw [5, 6, 7, 8, 9, 10, 11, 12, 60] (fun va vb vc vd ve vf vg vh i wr => ∃ (t n : Nat) (r : Oct), t ≤ 64 ∧ i = .int .i64 t ∧ Hid (r = rTo (wTo blk 64) s t) ∧
      va = .int .u32 (u r.a) ∧ vb = .int .u32 (u r.b) ∧ vc = .int .u32 (u r.c) ∧ vd = .int .u32 (u r.d) ∧ ve = .int .u32 (u r.e) ∧ vf = .int .u32 (u r.f) ∧ vg = .int .u32 (u r.g) ∧ vh = .int .u32 (u r.h) ∧ wr = w2.drewN n)
    (fun _ _ _ _ _ _ _ _ i _ => 64 - (intOf i).toNat)
  case atStart => exact ⟨0, _, s, by omega, rfl, rfl, rfl, rfl, rfl, rfl, rfl, rfl, rfl, rfl, by simp; rfl⟩
  case round =>
    obtain ⟨t, n, r, ht, rfl, HR, rfl, rfl, rfl, rfl, rfl, rfl, rfl, rfl, rfl⟩ := hrel
    by_cases hlt : t < 64
    · have hk := HKw.out t hlt
      have hwt := HW.out t hlt
      have hlt' : (t : Int) < 64 := by omega
      obtain ⟨kt, hkt⟩ : ∃ kt, kTab.getD t 0 = kt := ⟨_, rfl⟩
      obtain ⟨wt, hwt2⟩ : ∃ wt, (wTo blk 64).getD t 0 = wt := ⟨_, rfl⟩
      rw [hkt] at hk
      rw [hwt2] at hwt
      have HKT := hid hkt
      have HWT := hid hwt2
      clear hkt hwt2
      go_wp2_with fail
      refine region_still (by kernel_rfl) (by kernel_rfl) ?_
      repeat still_step
      still_call (bS1_any _ _)
      repeat still_step
      still_call (choose_any _ _ _ _)
      repeat still_step
      refine wpStill_nil ?_
      go_wp2_with (first | (go_at_call 52; refine (bS0_any _ _).mono ?_; rintro e w' ⟨rfl, rfl⟩) | (go_at_call 53; refine (maj_any _ _ _ _).mono ?_; rintro e w' ⟨rfl, rfl⟩))
      go_roundw
      case rel =>
        exact ⟨t + 1, n + 1, step kt wt r, by omega, by go_num, (by show _ = _; rw [HR.out, ← HKT.out, ← HWT.out]; rfl), rfl, rfl, rfl, rfl, rfl, rfl, rfl, rfl, rfl⟩
      case measure => simp [intOf]; omega
    · have ht64 : t = 64 := by omega
      subst ht64
      clear HKw HW
      go_wp2_with fail
      go_loopw [109] (fun i wr => ∃ k : Nat, k ≤ 8 ∧ i = .int .i64 k ∧ Row wr B 44 ((plusTo s r k).map U ++ tl) ∧ w2.grownBy wr (some B)) (fun i _ => 8 - (intOf i).toNat)
      case atStart => exact ⟨0, by omega, rfl, HR2.out, ⟨rfl, rfl, rfl, Nat.le_refl _, fun _ _ _ => rfl⟩⟩
      case round =>
        obtain ⟨k, hk, rfl, hrow, hgr⟩ := hrel
        by_cases hlt8 : k < 8
        · have hix := oct_index r k hlt8
          have hlt' : (k : Int) < 8 := by omega
          have hcell : wr.cell? ⟨B, k, none⟩ = some (.int .u32 (u (s.list.getD k 0))) := (hrow.cell k).trans (plus_get s r tl k hlt8)
          have hfz : wr.frozen? ⟨B, k, none⟩ = false := hrow.frozen k
          have hset := plus_set s r tl k hlt8
          obtain ⟨x, hx⟩ : ∃ x, s.list.getD k 0 = x := ⟨_, rfl⟩
          obtain ⟨y, hy⟩ : ∃ y, r.list.getD k 0 = y := ⟨_, rfl⟩
          rw [hx] at hcell hset
          rw [hy] at hix hset
          have HROW := hid hrow
          have HGR := hid hgr
          have HSET := hid hset
          clear hrow hgr hset hx hy
          go_wp2_with fail
          refine region_tail 11 (by kernel_rfl) (by kernel_rfl) ?_
          simp only [List.take_succ_cons, List.take_zero, List.drop_succ_cons, List.drop_zero]
          repeat still_step
          refine wpStill_nil ?_
          go_wp2
          go_roundw
          case rel =>
            (repeat apply Exists.intro)
            refine ⟨⟨k + 1, by omega, by go_num, ?_, ?_⟩, rfl⟩
            · have h := HROW.out.set k (U (x + y))
              rw [HSET.out] at h
              exact h.drew
            · exact grown_trans HGR.out ⟨rfl, rfl, rfl, by simp [World.setCell, World.drew], fun j _ hne => heap_setCell_other _ _ _ _ (fun e => hne (by rw [e]))⟩
          case measure => simp [intOf]; omega
        · have hk8 : k = 8 := by omega
          subst hk8
          have HROW := hid hrow
          have HGR := hid hgr
          clear hrow hgr
          go_wp2
          go_end0
          refine ⟨rfl, grown_trans HG2.out HGR.out, ?_⟩
          have he : mixed s blk = s.plus r := by rw [HR.out]; rfl
          rw [he]
          have h8 : plusTo s r 8 = (s.plus r).list := rfl
          rw [← h8]
          exact HROW.out
end Go.Proofs.YtedjmhiocmefiaaDoor
