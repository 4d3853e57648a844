/-
  What the digest's small functions answer: turned words, the two choices, the four sums of turns. They turn no memory.
  What spread answers: the schedule's 64 words, in new memory.
  What mix does: one block worked into the digest's eight words; nothing else that was there turns.
  The digest in the making, as one row of 74 cells: eight words, 64 bytes, two counts. Plain facts on lists.
  What putSize does: how many bits there were, in the rest's last eight bytes.
  What bytes answers: the eight words' 32 bytes, the high ones first, in new memory.
  What begin answers: a digest in the making that has taken nothing.
  Bytes behind a slice value; what copy and clear do to the rest of a digest in the making.
  What a digest in the making stands for: the bytes that it has taken. Plain facts on lists.
  What take does: the bytes that a slice reads as, behind those that were taken ahead.
  What finish answers: the digest of all that was taken, in new memory.
  What Sum and Parts begin with: no bytes at all, abstractly; the table of words stays.
  What a call owns reads as bytes; what reads as bytes is a source of cells; bytes in a new block.
-/
import Derived.Test.YtclhcjiblfokaaaGreatDoorProg
import Derived.Test.YtclhcjiblfokaaaGreatDoorppMemB
import Derived.WalkKit
import Derived.WalkLawsBesides
import Derived.WalkSpells
import Derived.BigRegion
import Derived.BigQuiet
import Derived.StillTailTactics
namespace Go.Proofs.YtclhcjiblfokaaaGreatDoor
open Go.RowKit
attribute [local go_sem] u_xor u_and u_or u_not u_add u_add' u_andNot
set_option maxHeartbeats 400000 in
theorem rotl_any (x : BitVec 32) (n : Nat) (hn : n < 32) (h0 : 0 < n) (w : World) :
    Calls Tryz.prog 195 #[.int .u32 (u x), .int .i64 (-(n : Int))] w fun e w' => e = .returned (.int .u32 (u (rotr x n))) ∧ w' = w := by
  have hb := rotcount n h0 hn
  go_enter Tryz.func195, Tryz.ntmps195
  go_wp2
  go_ret
  refine ⟨?_, rfl⟩
  show Ending.returned (Value.int IntKind.u32 (bits BinOp.or IntKind.u32 (u x * 2 ^ (32 - n) % 4294967296) (u x / 2 ^ (32 - (32 - n))))) = _
  rw [u_shl, u_shr, u_or, show 32 - (32 - n) = n by omega]; rfl
theorem right_any (x : BitVec 32) (n : Nat) (hn : n < 32) (h0 : 0 < n) (w : World) :
    Calls Tryz.prog 184 #[.int .u32 (u x), .int .i64 (n : Int)] w fun e w' => e = .returned (.int .u32 (u (rotr x n))) ∧ w' = w := by
  go_enter Tryz.func184, Tryz.ntmps184
  go_wp2_with (go_at_call 195; refine (rotl_any x n hn h0 _).mono ?_; rintro e w' ⟨rfl, rfl⟩)
  go_ret
  exact ⟨rfl, rfl⟩
theorem choose_any (x y z : BitVec 32) (w : World) :
    Calls Tryz.prog 155 #[.int .u32 (u x), .int .u32 (u y), .int .u32 (u z)] w fun e w' => e = .returned (.int .u32 (u (chs x y z))) ∧ w' = w := by
  go_enter Tryz.func155, Tryz.ntmps155
  go_wp2
  go_ret
  exact ⟨rfl, rfl⟩
theorem maj_any (x y z : BitVec 32) (w : World) :
    Calls Tryz.prog 157 #[.int .u32 (u x), .int .u32 (u y), .int .u32 (u z)] w fun e w' => e = .returned (.int .u32 (u (maj x y z))) ∧ w' = w := by
  go_enter Tryz.func157, Tryz.ntmps157
  go_wp2
  go_ret
  exact ⟨rfl, rfl⟩
theorem bS1_any (x : BitVec 32) (w : World) :
    Calls Tryz.prog 154 #[.int .u32 (u x)] w fun e w' => e = .returned (.int .u32 (u (bS1 x))) ∧ w' = w := by
  go_enter Tryz.func154, Tryz.ntmps154
  go_wp2_with fail
  refine (right_any x 6 (by omega) (by omega) _).mono ?_; rintro e w' ⟨rfl, rfl⟩
  go_wp2_with fail
  refine (right_any x 11 (by omega) (by omega) _).mono ?_; rintro e w' ⟨rfl, rfl⟩
  go_wp2_with fail
  refine (right_any x 25 (by omega) (by omega) _).mono ?_; rintro e w' ⟨rfl, rfl⟩
  go_wp2
  go_ret
  exact ⟨rfl, rfl⟩
theorem bS0_any (x : BitVec 32) (w : World) :
    Calls Tryz.prog 156 #[.int .u32 (u x)] w fun e w' => e = .returned (.int .u32 (u (bS0 x))) ∧ w' = w := by
  go_enter Tryz.func156, Tryz.ntmps156
  go_wp2_with fail
  refine (right_any x 2 (by omega) (by omega) _).mono ?_; rintro e w' ⟨rfl, rfl⟩
  go_wp2_with fail
  refine (right_any x 13 (by omega) (by omega) _).mono ?_; rintro e w' ⟨rfl, rfl⟩
  go_wp2_with fail
  refine (right_any x 22 (by omega) (by omega) _).mono ?_; rintro e w' ⟨rfl, rfl⟩
  go_wp2
  go_ret
  exact ⟨rfl, rfl⟩
theorem sS1_any (x : BitVec 32) (w : World) :
    Calls Tryz.prog 182 #[.int .u32 (u x)] w fun e w' => e = .returned (.int .u32 (u (sS1 x))) ∧ w' = w := by
  go_enter Tryz.func182, Tryz.ntmps182
  go_wp2_with fail
  refine (right_any x 17 (by omega) (by omega) _).mono ?_; rintro e w' ⟨rfl, rfl⟩
  go_wp2_with fail
  refine (right_any x 19 (by omega) (by omega) _).mono ?_; rintro e w' ⟨rfl, rfl⟩
  go_wp2
  go_ret
  refine ⟨?_, rfl⟩
  show Ending.returned (Value.int .u32 (bits .xor .u32 (u (rotr x 17 ^^^ rotr x 19)) (u x / 1024))) = _
  rw [u_shr10, u_xor]; rfl
theorem sS0_any (x : BitVec 32) (w : World) :
    Calls Tryz.prog 183 #[.int .u32 (u x)] w fun e w' => e = .returned (.int .u32 (u (sS0 x))) ∧ w' = w := by
  go_enter Tryz.func183, Tryz.ntmps183
  go_wp2_with fail
  refine (right_any x 7 (by omega) (by omega) _).mono ?_; rintro e w' ⟨rfl, rfl⟩
  go_wp2_with fail
  refine (right_any x 18 (by omega) (by omega) _).mono ?_; rintro e w' ⟨rfl, rfl⟩
  go_wp2
  go_ret
  refine ⟨?_, rfl⟩
  show Ending.returned (Value.int .u32 (bits .xor .u32 (u (rotr x 7 ^^^ rotr x 18)) (u x / 8))) = _
  rw [u_shr3, u_xor]; rfl
end Go.Proofs.YtclhcjiblfokaaaGreatDoor
namespace Go.Proofs.YtclhcjiblfokaaaGreatDoor
open Go.RowKit
attribute [local go_sem] u_xor u_and u_or u_not u_add u_add' u_andNot u_shl24 u_shl16 u_shl8 wrap_b8
theorem spread_rel (blk : List (BitVec 8)) (k N : Nat) (w wr : World) (x : BitVec 32) (hx : x = wNext blk k (wTo blk k)) (hk : k < 64)
    (h0 : Row wr N 194 (rowU 64 [])) (h1 : Row wr (N + 1) 194 (rowU 64 (wTo blk k))) (hb : Below N w wr) :
    Row (wr.setCell ⟨N + 1, k, none⟩ (.int .u32 (u x))).drew N 194 (rowU 64 []) ∧ Row (wr.setCell ⟨N + 1, k, none⟩ (.int .u32 (u x))).drew (N + 1) 194 (rowU 64 (wTo blk (k + 1))) ∧
      Below N w (wr.setCell ⟨N + 1, k, none⟩ (.int .u32 (u x))).drew := by
  refine ⟨(h0.other _ (by simp)).drew, ?_, (hb.setCell (by simp) _).drew⟩
  have h := h1.set k (U x)
  have e := rowU_set 64 (wTo blk k) x (by rw [wTo_length]; omega)
  rw [wTo_length] at e
  rw [e] at h
  unfold wTo
  rw [← hx]
  exact h.drew
set_option maxRecDepth 100000 in
set_option maxHeartbeats 1000000 in
theorem spread_any (blk : List (BitVec 8)) (b off cap : Nat) (w : World)
    (hc : ∀ i, i < 64 → w.cell? ⟨b, off + i, none⟩ = some (.int .u8 (b8 (blk.getD i 0)))) :
    Calls Tryz.prog 153 #[.slice (some ⟨b, off, none⟩) 64 cap] w fun e w' => e = .returned (.agg ((wTo blk 64).map U).toArray) ∧ Below w.heap.size w w' := by
  go_enter Tryz.func153, Tryz.ntmps153
  go_wp2
  go_loopw [7] (fun i wr => ∃ k : Nat, k ≤ 16 ∧ i = .int .i64 k ∧ Row wr w.heap.size 194 (rowU 64 []) ∧ Row wr (w.heap.size + 1) 194 (rowU 64 (wTo blk k)) ∧ Below w.heap.size w wr)
    (fun i _ => 16 - (intOf i).toNat)
  case atStart => 
    refine ⟨0, by omega, rfl, ?_, ?_, ?_⟩
    · exact (Row.new w 194 (rowU 64 [])).alloc _
    · exact Row.newAt _ 194 (rowU 64 []) _ (by simp)
    · exact ((Below.refl _ _).alloc (Nat.le_refl _) _).alloc (by simp) _
  case round =>
    obtain ⟨k, hk, rfl, h0, h1, hb⟩ := hrel
    have hbl : b < w.heap.size := block_lt_of_cell (hc 0 (by omega))
    by_cases hlt : k < 16
    · have c0 : wr.cell? ⟨b, off + 4 * k, none⟩ = some (.int .u8 (b8 (blk.getD (4 * k) 0))) := (hb.cell hbl).trans (hc (4 * k) (by omega))
      have c1 : wr.cell? ⟨b, off + (4 * k + 1), none⟩ = some (.int .u8 (b8 (blk.getD (4 * k + 1) 0))) := (hb.cell hbl).trans (hc (4 * k + 1) (by omega))
      have c2 : wr.cell? ⟨b, off + (4 * k + 2), none⟩ = some (.int .u8 (b8 (blk.getD (4 * k + 2) 0))) := (hb.cell hbl).trans (hc (4 * k + 2) (by omega))
      have c3 : wr.cell? ⟨b, off + (4 * k + 3), none⟩ = some (.int .u8 (b8 (blk.getD (4 * k + 3) 0))) := (hb.cell hbl).trans (hc (4 * k + 3) (by omega))
      obtain ⟨v, hv⟩ : ∃ v, wr.cell? ⟨w.heap.size + 1, k, none⟩ = some v := by rw [h1.cell]; exact rowU_some _ _ _ (by rw [wTo_length]; omega) (by omega)
      have hf : wr.frozen? ⟨w.heap.size + 1, k, none⟩ = false := h1.frozen k
      have e1 : (4 * (k : Int) + 1).toNat = 4 * k + 1 := by omega
      have e2 : (4 * (k : Int) + 2).toNat = 4 * k + 2 := by omega
      have e3 : (4 * (k : Int) + 3).toNat = 4 * k + 3 := by omega
      have e0 : (4 * (k : Int)).toNat = 4 * k := by omega
      have hlt' : (k : Int) < 16 := by omega
      have H0 : Hid _ := h0
      have H1 : Hid _ := h1
      have HB : Hid _ := hb
      clear h0 h1 hb hc
      go_wp2
      go_region
      go_wp2
      go_roundw
      case rel =>
        exact ⟨k + 1, by omega, by go_num, spread_rel blk k _ w wr _ (by unfold wNext; rw [if_pos hlt]; rfl) (by omega) H0.out H1.out HB.out⟩
      case measure => simp [intOf]; omega
    · have hk16 : k = 16 := by omega
      subst hk16
      clear hc
      have H0 : Hid _ := h0
      have H1 : Hid _ := h1
      have HB : Hid _ := hb
      clear h0 h1 hb
      go_wp2
      go_loopw [6] (fun i wr => ∃ k : Nat, 16 ≤ k ∧ k ≤ 64 ∧ i = .int .i64 k ∧ Row wr w.heap.size 194 (rowU 64 []) ∧ Row wr (w.heap.size + 1) 194 (rowU 64 (wTo blk k)) ∧ Below w.heap.size w wr)
        (fun i _ => 64 - (intOf i).toNat)
      case atStart => exact ⟨16, by omega, by omega, rfl, H0.out, H1.out, HB.out⟩
      case round =>
        clear H0 H1 HB
        rename_i wr2
        obtain ⟨k, hk0, hk, rfl, h0, h1, hb⟩ := hrel
        by_cases hlt : k < 64
        · have hl := wTo_length blk k
          have e2 : ((k : Int) - 2).toNat = k - 2 := by omega
          have e7 : ((k : Int) - 7).toNat = k - 7 := by omega
          have e15 : ((k : Int) - 15).toNat = k - 15 := by omega
          have e16 : ((k : Int) - 16).toNat = k - 16 := by omega
          have hlt' : (k : Int) < 64 := by omega
          have c2 : wr.cell? ⟨w.heap.size + 1, k - 2, none⟩ = some (.int .u32 (u ((wTo blk k).getD (k - 2) 0))) := (h1.cell _).trans (rowU_get _ _ _ (by omega))
          have c7 : wr.cell? ⟨w.heap.size + 1, k - 7, none⟩ = some (.int .u32 (u ((wTo blk k).getD (k - 7) 0))) := (h1.cell _).trans (rowU_get _ _ _ (by omega))
          have c15 : wr.cell? ⟨w.heap.size + 1, k - 15, none⟩ = some (.int .u32 (u ((wTo blk k).getD (k - 15) 0))) := (h1.cell _).trans (rowU_get _ _ _ (by omega))
          have c16 : wr.cell? ⟨w.heap.size + 1, k - 16, none⟩ = some (.int .u32 (u ((wTo blk k).getD (k - 16) 0))) := (h1.cell _).trans (rowU_get _ _ _ (by omega))
          obtain ⟨v, hv⟩ : ∃ v, wr.cell? ⟨w.heap.size + 1, k, none⟩ = some v := by rw [h1.cell]; exact rowU_some _ _ _ (by omega) (by omega)
          have hf : wr.frozen? ⟨w.heap.size + 1, k, none⟩ = false := h1.frozen k
          have H0 : Hid _ := h0
          have H1 : Hid _ := h1
          have HB : Hid _ := hb
          have HX : Hid (sS1 ((wTo blk k).getD (k - 2) 0) + (wTo blk k).getD (k - 7) 0 + sS0 ((wTo blk k).getD (k - 15) 0) + (wTo blk k).getD (k - 16) 0 = wNext blk k (wTo blk k)) := by
            show _ = _; unfold wNext; rw [if_neg (by omega)]
          clear h0 h1 hb hl
          generalize (wTo blk k).getD (k - 2) 0 = x2 at *
          generalize (wTo blk k).getD (k - 7) 0 = x7 at *
          generalize (wTo blk k).getD (k - 15) 0 = x15 at *
          generalize (wTo blk k).getD (k - 16) 0 = x16 at *
          have g2 : ((k : Int) < 2) = False := eq_false (by omega)
          have g7 : ((k : Int) < 7) = False := eq_false (by omega)
          have g15 : ((k : Int) < 15) = False := eq_false (by omega)
          have g16 : ((k : Int) < 16) = False := eq_false (by omega)
          have r2 : IntKind.i64.wrap ((k : Int) - 2) = (k : Int) - 2 := by simp [IntKind.wrap, IntKind.bits, IntKind.signed]; split <;> omega
          have d2 : ¬ k - 2 = k := by omega
          have z2 : (0 : Int) ≤ (k : Int) - 2 := by omega
          have i2 : (2 : Int) ≤ (k : Int) := by omega
          have l2 : (k : Int) - 2 < 64 := by omega
          have r7 : IntKind.i64.wrap ((k : Int) - 7) = (k : Int) - 7 := by simp [IntKind.wrap, IntKind.bits, IntKind.signed]; split <;> omega
          have d7 : ¬ k - 7 = k := by omega
          have z7 : (0 : Int) ≤ (k : Int) - 7 := by omega
          have i7 : (7 : Int) ≤ (k : Int) := by omega
          have l7 : (k : Int) - 7 < 64 := by omega
          have r15 : IntKind.i64.wrap ((k : Int) - 15) = (k : Int) - 15 := by simp [IntKind.wrap, IntKind.bits, IntKind.signed]; split <;> omega
          have d15 : ¬ k - 15 = k := by omega
          have z15 : (0 : Int) ≤ (k : Int) - 15 := by omega
          have i15 : (15 : Int) ≤ (k : Int) := by omega
          have l15 : (k : Int) - 15 < 64 := by omega
          have r16 : IntKind.i64.wrap ((k : Int) - 16) = (k : Int) - 16 := by simp [IntKind.wrap, IntKind.bits, IntKind.signed]; split <;> omega
          have d16 : ¬ k - 16 = k := by omega
          have z16 : (0 : Int) ≤ (k : Int) - 16 := by omega
          have i16 : (16 : Int) ≤ (k : Int) := by omega
          have l16 : (k : Int) - 16 < 64 := by omega
          go_wp2_with fail
          refine region_tail 22 (by kernel_rfl) (by kernel_rfl) ?_
          simp only [List.take_succ_cons, List.take_zero, List.drop_succ_cons, List.drop_zero]
          repeat still_step
          still_call (sS1_any _ _)
          repeat still_step
          still_call (sS0_any _ _)
          repeat still_step
          refine wpStill_nil ?_
          go_wp2
          go_roundw
          case rel =>
            (repeat apply Exists.intro)
            exact ⟨⟨k + 1, by omega, by omega, by go_num, spread_rel blk k _ w wr _ HX.out hlt H0.out H1.out HB.out⟩, rfl⟩
          case measure => simp [intOf]; omega
        · have hk64 : k = 64 := by omega
          subst hk64
          have hsz : ((wTo blk 64).map U).toArray.size = 64 := by simp [wTo_length]
          have hrow : rowU 64 (wTo blk 64) = (wTo blk 64).map U := by
            have := rowU_full (wTo blk 64); rwa [wTo_length] at this
          rw [hrow] at h1
          have hone : ((wTo blk 64).map U).toArray.all (·.oneCell') = true := by simp [U, Value.oneCell']
          unfold Row at h0 h1
          have hold : (rowU 64 []).toArray.size = ((wTo blk 64).map U).toArray.size := by rw [hsz]; rfl
          generalize (rowU 64 []).toArray = zs at *
          have H0 : Hid _ := h0
          have H1 : Hid _ := h1
          have HB : Hid _ := hb
          have HO : Hid _ := hold
          clear h0 h1 hb hold
          have hi : (Tryz.prog.info? 194).map (·.size) = some ((wTo blk 64).map U).toArray.size := by rw [hsz]; kernel_rfl
          generalize hcs : ((wTo blk 64).map U).toArray = cs at *
          have HC : Hid _ := hcs
          clear hcs
          have HS : Hid _ := hsz
          have HI : Hid _ := hi
          clear hsz hi hrow
          go_wp2_with (first
            | (refine wpList_load_row rfl 194 _ rfl (w.heap.size + 1) rfl 194 cs (0, 0) _ H1.out Tryz.underlying194 rfl HI.out ?_)
            | (refine wpList_store_row rfl 194 _ _ rfl w.heap.size cs rfl rfl 194 zs H0.out HI.out HO.out hone ?_))
          have hg2 := setRow_heap wr w.heap.size zs cs 194 (0, 0) H0.out
          refine bodyPost_ret (v := .agg cs) (results_cell_row Tryz.results153 _ _ w.heap.size 194 cs (0, 0) (.array 64 133) ?_ hg2 Tryz.underlying194 rfl HI.out) rfl ⟨by rw [HC.out], ?_⟩
          · rfl
          · exact HB.out.trans ⟨rfl, rfl, rfl, by simp, fun k hk => setRow_other _ _ _ _ (by omega)⟩
end Go.Proofs.YtclhcjiblfokaaaGreatDoor
namespace Go.Proofs.YtclhcjiblfokaaaGreatDoor
open Go.RowKit
attribute [local go_sem] u_xor u_and u_or u_not u_add u_add' u_andNot

/-- k of eight words have their letters added -/
def plusTo (s r : Oct) (k : Nat) : List (BitVec 32) := (s.plus r).list.take k ++ s.list.drop k
theorem plus_get (s r : Oct) (tl : List Value) : ∀ k, k < 8 → ((plusTo s r k).map U ++ tl)[k]? = some (.int .u32 (u (s.list.getD k 0)))
  | 0, _ => rfl | 1, _ => rfl | 2, _ => rfl | 3, _ => rfl | 4, _ => rfl | 5, _ => rfl | 6, _ => rfl | 7, _ => rfl
theorem plus_set (s r : Oct) (tl : List Value) : ∀ k, k < 8 → ((plusTo s r k).map U ++ tl).set k (U (s.list.getD k 0 + r.list.getD k 0)) = (plusTo s r (k + 1)).map U ++ tl
  | 0, _ => rfl | 1, _ => rfl | 2, _ => rfl | 3, _ => rfl | 4, _ => rfl | 5, _ => rfl | 6, _ => rfl | 7, _ => rfl
theorem oct_index (r : Oct) : ∀ (k : Nat), k < 8 → ∀ w, (Instr.index 134 (.agg #[.int .u32 (u r.a), .int .u32 (u r.b), .int .u32 (u r.c), .int .u32 (u r.d), .int .u32 (u r.e), .int .u32 (u r.f), .int .u32 (u r.g), .int .u32 (u r.h)]) (.int .i64 (k : Int))).run Tryz.prog w = .ok (.int .u32 (u (r.list.getD k 0))) w
  | 0, _ => fun _ => by kernel_rfl | 1, _ => fun _ => by kernel_rfl | 2, _ => fun _ => by kernel_rfl | 3, _ => fun _ => by kernel_rfl
  | 4, _ => fun _ => by kernel_rfl | 5, _ => fun _ => by kernel_rfl | 6, _ => fun _ => by kernel_rfl | 7, _ => fun _ => by kernel_rfl

set_option maxRecDepth 100000 in
set_option maxHeartbeats 1000000 in
theorem mix_any (s : Oct) (tl : List Value) (blk : List (BitVec 8)) (b off cap B : Nat) (w : World)
    (hB : Row w B 137 (s.list.map U ++ tl)) (hB0 : B ≠ 0)
    (hK : ∀ t, t < 64 → w.cell? ⟨0, t, none⟩ = some (.int .u32 (u (kTab.getD t 0))))
    (hc : ∀ i, i < 64 → w.cell? ⟨b, off + i, none⟩ = some (.int .u8 (b8 (blk.getD i 0)))) :
    Calls Tryz.prog 121 #[.pointer (some ⟨B, 0, none⟩), .slice (some ⟨b, off, none⟩) 64 cap] w fun e w' =>
      e = .returned (.tuple #[]) ∧ w.grownBy w' (some B) ∧ Row w' B 137 ((mixed s blk).list.map U ++ tl) := by
  have HB := hid hB
  have HK := hid hK
  have HC := hid hc
  clear hB hK hc
  go_enter Tryz.func121, Tryz.ntmps121
  go_wp2_with fail
  refine (spread_any blk b off cap _ HC.out).mono ?_
  rintro e w1 ⟨rfl, hb1⟩
  have hsz : ((wTo blk 64).map U).toArray.size = 64 := by simp [wTo_length]
  have hone : ((wTo blk 64).map U).toArray.all (·.oneCell') = true := by simp [U, Value.oneCell']
  have hi : (Tryz.prog.info? 194).map (·.size) = some ((wTo blk 64).map U).toArray.size := by rw [hsz]; kernel_rfl
  have hcs0 : ((wTo blk 64).map U).toArray = ((wTo blk 64).map U).toArray := rfl
  generalize hcs : ((wTo blk 64).map U).toArray = cs at *
  have HB1 := hid hb1
  have HS := hid hsz
  have HI := hid hi
  have HCS := hid hcs
  clear hsz hi hcs hcs0 hb1
  go_wp2_with (refine wpList_store_row rfl 194 _ _ rfl w1.heap.size cs rfl rfl 194 (rowU 64 []).toArray (heap_alloc_new _ _) HI.out (by rw [HS.out]; rfl) hone ?_)
  have hr1 : Row w1 B 137 (s.list.map U ++ tl) := HB.out.below HB1.out HB.out.lt
  have hlt1 : B < w1.heap.size := hr1.lt
  obtain ⟨w2, hw2⟩ : ∃ w2, World.setRow (w1.alloc (.cells (rowU 64 []).toArray 194)) w1.heap.size cs = w2 := ⟨_, rfl⟩
  change Code.wp _ _ _ _ (World.setRow (w1.alloc (.cells (rowU 64 []).toArray 194)) w1.heap.size cs)
  rw [hw2]
  have hr2 : Row w2 B 137 (s.list.map U ++ tl) := by
    rw [← hw2]; unfold Row; rw [setRow_other _ _ _ _ (by omega)]; exact hr1.alloc _
  have hg2 : w.grownBy w2 (some B) := by
    refine grown_trans (grown_below HB1.out) ?_
    rw [← hw2]
    exact ⟨rfl, rfl, rfl, by simp, fun k hk _ => by rw [setRow_other _ _ _ _ (by omega)]; exact Below.heap_alloc _ _ _ hk⟩
  have hw2r : w2.heap[w1.heap.size]? = some (.cells cs 194 (0, 0)) := by
    rw [← hw2]; exact setRow_heap _ _ (rowU 64 []).toArray _ _ _ (heap_alloc_new _ _)
  have hlt2 : B < w2.heap.size := hr2.lt
  have c0 : w2.cell? ⟨B, 0, none⟩ = some (.int .u32 (u s.a)) := hr2.cell 0
  have c1 : w2.cell? ⟨B, 1, none⟩ = some (.int .u32 (u s.b)) := hr2.cell 1
  have c2 : w2.cell? ⟨B, 2, none⟩ = some (.int .u32 (u s.c)) := hr2.cell 2
  have c3 : w2.cell? ⟨B, 3, none⟩ = some (.int .u32 (u s.d)) := hr2.cell 3
  have c4 : w2.cell? ⟨B, 4, none⟩ = some (.int .u32 (u s.e)) := hr2.cell 4
  have c5 : w2.cell? ⟨B, 5, none⟩ = some (.int .u32 (u s.f)) := hr2.cell 5
  have c6 : w2.cell? ⟨B, 6, none⟩ = some (.int .u32 (u s.g)) := hr2.cell 6
  have c7 : w2.cell? ⟨B, 7, none⟩ = some (.int .u32 (u s.h)) := hr2.cell 7
  clear hw2
  have HR2 := hid hr2
  have HG2 := hid hg2
  have HW2 := hid hw2r
  generalize hw1s : w1.heap.size = G at *
  have HKw : Hid (∀ t, t < 64 → w2.cell? ⟨0, t, none⟩ = some (.int .u32 (u (kTab.getD t 0)))) := by
    intro t ht
    have h0 := HK.out t ht
    have : (0 : Nat) < w.heap.size := block_lt_of_cell h0
    rw [← h0]
    exact World.cell?_of_block (hg2.block 0 this (by simp; omega))
  clear hr2 hg2 hw2r hr1 HB HK HC
  clear hw1s HB1
  go_quiet (fail)
  go_wp2_with fail
  go_quiet (fail)
  go_wp2_with fail
  have HW : Hid (∀ t, t < 64 → w2.cell? ⟨G, t, none⟩ = some (.int .u32 (u ((wTo blk 64).getD t 0)))) := by
    intro t ht
    have hx := cell_of_row w2 G t cs 194 (0, 0) HW2.out
    rw [hx, ← HCS.out]
    have hl : t < (wTo blk 64).length := by rw [wTo_length]; exact ht
    simp [hl, U]
  clear c0 c1 c2 c3 c4 c5 c6 c7
  go_loopw [5, 6, 7, 8, 9, 10, 11, 12, 60] (fun va vb vc vd ve vf vg vh i wr => ∃ (t n : Nat) (r : Oct), t ≤ 64 ∧ i = .int .i64 t ∧ Hid (r = rTo (wTo blk 64) s t) ∧
      va = .int .u32 (u r.a) ∧ vb = .int .u32 (u r.b) ∧ vc = .int .u32 (u r.c) ∧ vd = .int .u32 (u r.d) ∧ ve = .int .u32 (u r.e) ∧ vf = .int .u32 (u r.f) ∧ vg = .int .u32 (u r.g) ∧ vh = .int .u32 (u r.h) ∧ wr = w2.drewN n)
    (fun _ _ _ _ _ _ _ _ i _ => 64 - (intOf i).toNat)
  case atStart => exact ⟨0, _, s, by omega, rfl, rfl, rfl, rfl, rfl, rfl, rfl, rfl, rfl, rfl, by simp; rfl⟩
  case round =>
    obtain ⟨t, n, r, ht, rfl, HR, rfl, rfl, rfl, rfl, rfl, rfl, rfl, rfl, rfl⟩ := hrel
    by_cases hlt : t < 64
    · have hk := HKw.out t hlt
      have hwt := HW.out t hlt
      have hlt' : (t : Int) < 64 := by omega
      obtain ⟨kt, hkt⟩ : ∃ kt, kTab.getD t 0 = kt := ⟨_, rfl⟩
      obtain ⟨wt, hwt2⟩ : ∃ wt, (wTo blk 64).getD t 0 = wt := ⟨_, rfl⟩
      rw [hkt] at hk
      rw [hwt2] at hwt
      have HKT := hid hkt
      have HWT := hid hwt2
      clear hkt hwt2
      go_wp2_with fail
      refine region_still (by kernel_rfl) (by kernel_rfl) ?_
      repeat still_step
      still_call (bS1_any _ _)
      repeat still_step
      still_call (choose_any _ _ _ _)
      repeat still_step
      refine wpStill_nil ?_
      go_wp2_with (first | (go_at_call 156; refine (bS0_any _ _).mono ?_; rintro e w' ⟨rfl, rfl⟩) | (go_at_call 157; refine (maj_any _ _ _ _).mono ?_; rintro e w' ⟨rfl, rfl⟩))
      go_roundw
      case rel =>
        exact ⟨t + 1, n + 1, step kt wt r, by omega, by go_num, (by show _ = _; rw [HR.out, ← HKT.out, ← HWT.out]; rfl), rfl, rfl, rfl, rfl, rfl, rfl, rfl, rfl, rfl⟩
      case measure => simp [intOf]; omega
    · have ht64 : t = 64 := by omega
      subst ht64
      clear HKw HW
      go_wp2_with fail
      go_loopw [109] (fun i wr => ∃ k : Nat, k ≤ 8 ∧ i = .int .i64 k ∧ Row wr B 137 ((plusTo s r k).map U ++ tl) ∧ w2.grownBy wr (some B)) (fun i _ => 8 - (intOf i).toNat)
      case atStart => exact ⟨0, by omega, rfl, HR2.out, ⟨rfl, rfl, rfl, Nat.le_refl _, fun _ _ _ => rfl⟩⟩
      case round =>
        obtain ⟨k, hk, rfl, hrow, hgr⟩ := hrel
        by_cases hlt8 : k < 8
        · have hix := oct_index r k hlt8
          have hlt' : (k : Int) < 8 := by omega
          have hcell : wr.cell? ⟨B, k, none⟩ = some (.int .u32 (u (s.list.getD k 0))) := (hrow.cell k).trans (plus_get s r tl k hlt8)
          have hfz : wr.frozen? ⟨B, k, none⟩ = false := hrow.frozen k
          have hset := plus_set s r tl k hlt8
          obtain ⟨x, hx⟩ : ∃ x, s.list.getD k 0 = x := ⟨_, rfl⟩
          obtain ⟨y, hy⟩ : ∃ y, r.list.getD k 0 = y := ⟨_, rfl⟩
          rw [hx] at hcell hset
          rw [hy] at hix hset
          have HROW := hid hrow
          have HGR := hid hgr
          have HSET := hid hset
          clear hrow hgr hset hx hy
          go_wp2_with fail
          refine region_tail 11 (by kernel_rfl) (by kernel_rfl) ?_
          simp only [List.take_succ_cons, List.take_zero, List.drop_succ_cons, List.drop_zero]
          repeat still_step
          refine wpStill_nil ?_
          go_wp2
          go_roundw
          case rel =>
            (repeat apply Exists.intro)
            refine ⟨⟨k + 1, by omega, by go_num, ?_, ?_⟩, rfl⟩
            · have h := HROW.out.set k (U (x + y))
              rw [HSET.out] at h
              exact h.drew
            · exact grown_trans HGR.out ⟨rfl, rfl, rfl, by simp [World.setCell, World.drew], fun j _ hne => heap_setCell_other _ _ _ _ (fun e => hne (by rw [e]))⟩
          case measure => simp [intOf]; omega
        · have hk8 : k = 8 := by omega
          subst hk8
          have HROW := hid hrow
          have HGR := hid hgr
          clear hrow hgr
          go_wp2
          go_end0
          refine ⟨rfl, grown_trans HG2.out HGR.out, ?_⟩
          have he : mixed s blk = s.plus r := by rw [HR.out]; rfl
          rw [he]
          have h8 : plusTo s r 8 = (s.plus r).list := rfl
          rw [← h8]
          exact HROW.out
end Go.Proofs.YtclhcjiblfokaaaGreatDoor
namespace Go.Proofs.YtclhcjiblfokaaaGreatDoor
open Go.RowKit

def dig (s : Oct) (R : List (BitVec 8)) (h z : Nat) : List Value := s.list.map U ++ (R.map V ++ [.int .i64 (h : Int), .int .u64 (z : Int)])
theorem dig_length (s : Oct) (R : List (BitVec 8)) (h z : Nat) : (dig s R h z).length = 10 + R.length := by
  simp [dig, Oct.list]; omega
theorem oct_len (s : Oct) : (s.list.map U).length = 8 := rfl
theorem dig_at (s : Oct) (R : List (BitVec 8)) (h z i : Nat) (hi : i < R.length) : (dig s R h z)[8 + i]? = some (.int .u8 (b8 (R.getD i 0))) := by
  unfold dig
  rw [List.getElem?_append_right (by rw [oct_len]; omega), oct_len, show 8 + i - 8 = i by omega, List.getElem?_append_left (by simpa using hi), List.getElem?_map, getD_some R i 0 hi]
  rfl
theorem dig_held (s : Oct) (R : List (BitVec 8)) (h z : Nat) (hR : R.length = 64) : (dig s R h z)[72]? = some (.int .i64 (h : Int)) := by
  unfold dig
  rw [List.getElem?_append_right (by rw [oct_len]; omega), oct_len, List.getElem?_append_right (by simp [hR])]
  simp [hR]
theorem dig_size (s : Oct) (R : List (BitVec 8)) (h z : Nat) (hR : R.length = 64) : (dig s R h z)[73]? = some (.int .u64 (z : Int)) := by
  unfold dig
  rw [List.getElem?_append_right (by rw [oct_len]; omega), oct_len, List.getElem?_append_right (by simp [hR])]
  simp [hR]
theorem dig_set (s : Oct) (R : List (BitVec 8)) (h z i : Nat) (hi : i < R.length) (x : BitVec 8) : (dig s R h z).set (8 + i) (V x) = dig s (R.set i x) h z := by
  unfold dig
  rw [List.set_append_right _ _ (by rw [oct_len]; omega), oct_len, show 8 + i - 8 = i by omega, List.set_append_left _ _ (by simpa using hi), List.map_set]
theorem dig_setHeld (s : Oct) (R : List (BitVec 8)) (h z h' : Nat) (hR : R.length = 64) : (dig s R h z).set 72 (.int .i64 (h' : Int)) = dig s R h' z := by
  unfold dig
  rw [List.set_append_right _ _ (by rw [oct_len]; omega), oct_len, List.set_append_right _ _ (by simp [hR])]
  simp [hR]
theorem dig_setSize (s : Oct) (R : List (BitVec 8)) (h z z' : Nat) (hR : R.length = 64) : (dig s R h z).set 73 (.int .u64 (z' : Int)) = dig s R h z' := by
  unfold dig
  rw [List.set_append_right _ _ (by rw [oct_len]; omega), oct_len, List.set_append_right _ _ (by simp [hR])]
  simp [hR]
/-- a run of bytes written over the rest, from place i on -/
theorem dig_splice (s : Oct) (R l : List (BitVec 8)) (h z i : Nat) (hi : i + l.length ≤ R.length) :
    (dig s R h z).take (8 + i) ++ l.map V ++ (dig s R h z).drop (8 + i + l.length) = dig s (R.take i ++ l ++ R.drop (i + l.length)) h z := by
  unfold dig
  have e1 : (s.list.map U ++ (R.map V ++ [Value.int .i64 (h : Int), .int .u64 (z : Int)])).take (8 + i) = s.list.map U ++ (R.take i).map V := by
    rw [List.take_append, oct_len, show 8 + i - 8 = i by omega, List.take_of_length_le (by rw [oct_len]; omega), List.take_append_of_le_length (by simp; omega), List.map_take]
  have e2 : (s.list.map U ++ (R.map V ++ [Value.int .i64 (h : Int), .int .u64 (z : Int)])).drop (8 + i + l.length) = (R.drop (i + l.length)).map V ++ [Value.int .i64 (h : Int), .int .u64 (z : Int)] := by
    rw [List.drop_append, oct_len, show 8 + i + l.length - 8 = i + l.length by omega, List.drop_of_length_le (by rw [oct_len]; omega), List.drop_append_of_le_length (by simpa using hi), List.map_drop]
    rfl
  rw [e1, e2]
  simp

theorem wrap_u8_byte (n : Nat) : IntKind.u8.wrap (n : Int) = b8 (BitVec.ofNat 8 n) := by
  unfold b8; rw [IntKind.wrap_u8']; simp
/-- what stands in the rest when m of the size's bytes are still to be written -/
def sizeTo (R : List (BitVec 8)) (n m : Nat) : List (BitVec 8) := R.take (56 + m) ++ (be8 n).drop m
theorem sizeTo_length (R : List (BitVec 8)) (n m : Nat) (hR : R.length = 64) (hm : m ≤ 8) : (sizeTo R n m).length = 64 := by
  simp [sizeTo, be8, hR]; omega
theorem be8_at (n : Nat) : ∀ m, m < 8 → (be8 n)[m]? = some (BitVec.ofNat 8 (n / 2 ^ (8 * (7 - m))))
  | 0, _ => rfl | 1, _ => rfl | 2, _ => rfl | 3, _ => rfl | 4, _ => rfl | 5, _ => rfl | 6, _ => rfl | 7, _ => by simp [be8]
theorem sizeTo_set (R : List (BitVec 8)) (n m : Nat) (hR : R.length = 64) (hm : m < 8) :
    (sizeTo R n (m + 1)).set (m + 56) (BitVec.ofNat 8 (n / 2 ^ (8 * (7 - m)))) = sizeTo R n m := by
  unfold sizeTo
  have e1 : R.take (56 + (m + 1)) = R.take (56 + m) ++ [R.getD (56 + m) 0] := by
    rw [← Nat.add_assoc, List.take_succ_eq_append_getElem (by omega)]
    congr 2
    simp [show 56 + m < R.length by omega]
  have e2 : (be8 n).drop m = BitVec.ofNat 8 (n / 2 ^ (8 * (7 - m))) :: (be8 n).drop (m + 1) := by
    have hl : m < (be8 n).length := by simp [be8]; omega
    rw [List.drop_eq_getElem_cons hl]
    congr 1
    have := be8_at n m hm
    rw [List.getElem?_eq_getElem hl] at this
    exact Option.some.inj this
  have hl : (R.take (56 + m)).length = m + 56 := by simp; omega
  rw [e1, e2, List.append_assoc, List.set_append_right _ _ (by omega), hl]
  simp
theorem sizeTo_full (R : List (BitVec 8)) (n : Nat) (hR : R.length = 64) : sizeTo R n 8 = R := by
  simp [sizeTo, be8, List.take_of_length_le, hR]
end Go.Proofs.YtclhcjiblfokaaaGreatDoor
namespace Go.Proofs.YtclhcjiblfokaaaGreatDoor
open Go.RowKit
set_option maxRecDepth 100000 in
set_option maxHeartbeats 1000000 in
theorem putSize_any (s : Oct) (R : List (BitVec 8)) (h z B : Nat) (hR : R.length = 64) (hz : z < 2305843009213693952) (w : World) (hB : Row w B 137 (dig s R h z)) :
    Calls Tryz.prog 122 #[.pointer (some ⟨B, 0, none⟩)] w fun e w' =>
      e = .returned (.tuple #[]) ∧ w.grownBy w' (some B) ∧ Row w' B 137 (dig s (R.take 56 ++ be8 (8 * z)) h z) := by
  have cz : w.cell? ⟨B, 73, none⟩ = some (.int .u64 (z : Int)) := (hB.cell 73).trans (dig_size s R h z hR)
  have hz' : (z : Int) < 2305843009213693952 := by omega
  have hz0 : (0 : Int) ≤ (z : Int) := by omega
  have hwz : IntKind.u64.wrap ((z : Int) * 8) = ((8 * z : Nat) : Int) := by
    simp [IntKind.wrap, IntKind.bits, IntKind.signed]; omega
  have HR := hid hR
  have HB := hid hB
  clear hB hR hz hz' hz0
  go_enter Tryz.func122, Tryz.ntmps122
  go_wp2_with fail
  go_loopw [2, 3] (fun v i wr => ∃ m bc : Nat, m ≤ 8 ∧ i = .int .i64 ((m : Int) + 55) ∧ v = .int .u64 (bc : Int) ∧ Hid (bc = 8 * z / 2 ^ (8 * (8 - m))) ∧ Row wr B 137 (dig s (sizeTo R (8 * z) m) h z) ∧ w.grownBy wr (some B))
    (fun _ i _ => (intOf i).toNat)
  case atStart =>
    refine ⟨8, 8 * z, by omega, by go_num, by go_num, by show _ = _; simp, ?_, ⟨rfl, rfl, rfl, Nat.le_refl _, fun _ _ _ => rfl⟩⟩
    rw [sizeTo_full _ _ HR.out]; exact HB.out
  case round =>
    clear cz hwz
    obtain ⟨m, bc, hm, rfl, rfl, HC, hrow, hgr⟩ := hrel
    cases m with
    | zero =>
      have HROW := hid hrow
      have HGR := hid hgr
      clear hrow hgr
      go_wp2
      go_end0
      refine ⟨rfl, HGR.out, ?_⟩
      exact HROW.out
    | succ m =>
      have hl := sizeTo_length R (8 * z) (m + 1) HR.out hm
      have hfz : wr.frozen? ⟨B, 8 + (m + 56), none⟩ = false := hrow.frozen _
      obtain ⟨v0, hv0⟩ : ∃ v0, wr.cell? ⟨B, 8 + (m + 56), none⟩ = some v0 := ⟨_, (hrow.cell _).trans (dig_at _ _ _ _ _ (by omega))⟩
      have e1 : (((m + 1 : Nat) : Int) + 55).toNat = m + 56 := by omega
      have e2 : ((m : Int) + 1 + 55).toNat = m + 56 := by omega
      have hb : IntKind.u8.wrap (bc : Int) = b8 (BitVec.ofNat 8 bc) := wrap_u8_byte bc
      have hb' : (bc : Int) % 256 = b8 (BitVec.ofNat 8 bc) := by rw [← hb, IntKind.wrap_u8']
      have hm' : (m : Int) < 8 := by omega
      have HL := hid hl
      have HROW := hid hrow
      have HGR := hid hgr
      clear hrow hgr hl
      go_wp2
      go_roundw
      case rel =>
        have hbc : bc = 8 * z / 2 ^ (8 * (7 - m)) := by rw [HC.out]; congr 3; omega
        refine ⟨m, bc / 256, by omega, by congr 1; omega, by congr 1, ?_, ?_, ?_⟩
        · show _ = _
          rw [hbc, Nat.div_div_eq_div_mul, show (256 : Nat) = 2 ^ 8 from rfl, ← Nat.pow_add, show 8 * (7 - m) + 8 = 8 * (8 - m) by omega]
        · have hs := HROW.out.set (8 + (m + 56)) (V (BitVec.ofNat 8 bc))
          rw [dig_set _ _ _ _ _ (by rw [HL.out]; omega), hbc, sizeTo_set _ _ _ HR.out (by omega)] at hs
          rw [hbc]
          exact hs
        · exact grown_trans HGR.out (grown_set _ _ _ _)
      case measure => simp [intOf]; omega
end Go.Proofs.YtclhcjiblfokaaaGreatDoor
namespace Go.Proofs.YtclhcjiblfokaaaGreatDoor
open Go.RowKit
theorem u_byte24 (x : BitVec 32) : IntKind.u8.wrap (u x / (16777216 : Int)) = b8 ((x >>> 24).setWidth 8) := by
  have h : u x / (16777216 : Int) = u (x >>> 24) := u_shr x 24
  rw [h, IntKind.wrap_u8']; unfold u b8; simp
theorem u_byte16 (x : BitVec 32) : IntKind.u8.wrap (u x / (65536 : Int)) = b8 ((x >>> 16).setWidth 8) := by
  have h : u x / (65536 : Int) = u (x >>> 16) := u_shr x 16
  rw [h, IntKind.wrap_u8']; unfold u b8; simp
theorem u_byte8 (x : BitVec 32) : IntKind.u8.wrap (u x / (256 : Int)) = b8 ((x >>> 8).setWidth 8) := by
  have h : u x / (256 : Int) = u (x >>> 8) := u_shr x 8
  rw [h, IntKind.wrap_u8']; unfold u b8; simp
theorem u_byte0 (x : BitVec 32) : IntKind.u8.wrap (u x) = b8 (x.setWidth 8) := by
  rw [IntKind.wrap_u8']; unfold u b8; simp
def bytesTo (s : Oct) (k : Nat) : List (BitVec 8) := (s.list.take k).flatMap wordBytes
theorem bytesTo_succ (s : Oct) : ∀ k, k < 8 → bytesTo s (k + 1) = bytesTo s k ++ wordBytes (s.list.getD k 0)
  | 0, _ => rfl | 1, _ => rfl | 2, _ => rfl | 3, _ => rfl | 4, _ => rfl | 5, _ => rfl | 6, _ => rfl | 7, _ => rfl
attribute [local go_sem] u_byte24 u_byte16 u_byte8 u_byte0
set_option maxRecDepth 100000 in
set_option maxHeartbeats 1000000 in
theorem bytes_any (s : Oct) (tl : List Value) (B : Nat) (w : World) (hB : Row w B 137 (s.list.map U ++ tl)) :
    Calls Tryz.prog 123 #[.pointer (some ⟨B, 0, none⟩)] w fun e w' =>
      ∃ v, e = .returned v ∧ w'.ownsRow w.heap.size 5 1 v 32 ((s.list.flatMap wordBytes).map V) ∧ Below w.heap.size w w' := by
  obtain ⟨i0, hi0, hz0, hz1, hz2⟩ := info_parts info_u8
  have hmk : ∀ w : World, (Instr.makeSlice 29 (.int .i64 0) (.int .i64 32)).run Tryz.prog w = .ok (.slice (some ⟨w.heap.size, 0, none⟩) 0 32) (w.alloc (.cells (List.replicate 32 (Value.int .u8 0)).toArray 5)) := fun _ => by kernel_rfl
  have hlt : B < w.heap.size := hB.lt
  have c0 : w.cell? ⟨B, 0, none⟩ = some (.int .u32 (u s.a)) := hB.cell 0
  have c1 : w.cell? ⟨B, 1, none⟩ = some (.int .u32 (u s.b)) := hB.cell 1
  have c2 : w.cell? ⟨B, 2, none⟩ = some (.int .u32 (u s.c)) := hB.cell 2
  have c3 : w.cell? ⟨B, 3, none⟩ = some (.int .u32 (u s.d)) := hB.cell 3
  have c4 : w.cell? ⟨B, 4, none⟩ = some (.int .u32 (u s.e)) := hB.cell 4
  have c5 : w.cell? ⟨B, 5, none⟩ = some (.int .u32 (u s.f)) := hB.cell 5
  have c6 : w.cell? ⟨B, 6, none⟩ = some (.int .u32 (u s.g)) := hB.cell 6
  have c7 : w.cell? ⟨B, 7, none⟩ = some (.int .u32 (u s.h)) := hB.cell 7
  clear hB
  go_enter Tryz.func123, Tryz.ntmps123
  go_wp2_with fail
  clear c0 c1 c2 c3 c4 c5 c6 c7 hmk
  go_loopw [3, 11] (fun v i wr => ∃ k : Nat, k ≤ 8 ∧ i = .int .i64 k ∧ wr.ownsRow w.heap.size 5 1 v (4 * k) ((bytesTo s k).map V) ∧ Below w.heap.size w wr) (fun _ i _ => 8 - (intOf i).toNat)
  case atStart =>
    exact ⟨0, by omega, rfl, World.ownsRow_made w (List.replicate 32 (Value.int .u8 0)).toArray 32 (Nat.le_refl _) (by decide) (by simp), (Below.refl _ _).alloc (Nat.le_refl _) _⟩
  case round =>
    obtain ⟨k, hk, rfl, hown, hbe⟩ := hrel
    by_cases hlt8 : k < 8
    · have hix := oct_index s k hlt8
      have hlt' : (k : Int) < 8 := by omega
      have hsucc := bytesTo_succ s k hlt8
      obtain ⟨x, hx⟩ : ∃ x, s.list.getD k 0 = x := ⟨_, rfl⟩
      rw [hx] at hix hsucc
      have HS := hid hsucc
      have HO := hid hown
      have HB := hid hbe
      have hsz := hbe.size
      clear hsucc hx hown hbe
      go_wp2_with (at_builtin; refine wpList_append_own _ rfl (.tmp 14) (.tmp 26) 29 rfl w.heap.size 5 i0 (.int .u8 0) 1 1 Tryz.underlying29 hi0 hz0 hz1 hz2 rfl (by decide) _ _ _ rfl (HO.out.alloc _) ⟨wr.heap.size, 0, none⟩ 4 4 ((wordBytes x).map V) rfl rfl (cells_new _ _ _) (by simp [wordBytes, V, Value.oneCell']) (by unfold maxLen; omega) (by omega) (by simp; omega) ?_; intro v' w1 hown' hgrow hnil)
      go_roundw
      case rel =>
        refine ⟨k + 1, by omega, by go_num, ?_, ?_⟩
        · rw [HS.out, List.map_append]; exact hown'
        · exact (HB.out.alloc hsz _).grown hgrow (by simp; omega) (fun j hj => (HO.out.lt j hj).1)
      case measure => simp [intOf]; omega
    · have hk8 : k = 8 := by omega
      subst hk8
      have HO := hid hown
      have HB := hid hbe
      clear hown hbe
      go_wp2
      go_ret
      exact ⟨_, rfl, HO.out, HB.out⟩
end Go.Proofs.YtclhcjiblfokaaaGreatDoor
namespace Go.Proofs.YtclhcjiblfokaaaGreatDoor
open Go.RowKit
def dig0 : List Value := dig hTab (List.replicate 64 0) 0 0
/-- a digest of zeros -/
def digZ : List Value := List.replicate 8 (.int .u32 0) ++ List.replicate 64 (.int .u8 0) ++ [.int .i64 0, .int .u64 0]
theorem zero_dig (w : World) : (zeroValue 137).run Tryz.prog w = .ok (.agg digZ.toArray) w := by kernel_rfl
theorem info_dig : (Tryz.prog.info? 137).map (·.size) = some 74 := by kernel_rfl
theorem dig0_size : dig0.toArray.size = 74 := by kernel_rfl
set_option maxRecDepth 100000 in
set_option maxHeartbeats 1000000 in
theorem begin_any (w : World) : Calls Tryz.prog 76 #[] w fun e w' => e = .returned (.agg dig0.toArray) ∧ Below w.heap.size w w' := by
  go_enter Tryz.func76, Tryz.ntmps76
  have hzv : ∀ w : World, (zeroValue 137).run Tryz.prog w = .ok (.agg #[(.int .u32 0), (.int .u32 0), (.int .u32 0), (.int .u32 0), (.int .u32 0), (.int .u32 0), (.int .u32 0), (.int .u32 0), (.int .u8 0), (.int .u8 0), (.int .u8 0), (.int .u8 0), (.int .u8 0), (.int .u8 0), (.int .u8 0), (.int .u8 0), (.int .u8 0), (.int .u8 0), (.int .u8 0), (.int .u8 0), (.int .u8 0), (.int .u8 0), (.int .u8 0), (.int .u8 0), (.int .u8 0), (.int .u8 0), (.int .u8 0), (.int .u8 0), (.int .u8 0), (.int .u8 0), (.int .u8 0), (.int .u8 0), (.int .u8 0), (.int .u8 0), (.int .u8 0), (.int .u8 0), (.int .u8 0), (.int .u8 0), (.int .u8 0), (.int .u8 0), (.int .u8 0), (.int .u8 0), (.int .u8 0), (.int .u8 0), (.int .u8 0), (.int .u8 0), (.int .u8 0), (.int .u8 0), (.int .u8 0), (.int .u8 0), (.int .u8 0), (.int .u8 0), (.int .u8 0), (.int .u8 0), (.int .u8 0), (.int .u8 0), (.int .u8 0), (.int .u8 0), (.int .u8 0), (.int .u8 0), (.int .u8 0), (.int .u8 0), (.int .u8 0), (.int .u8 0), (.int .u8 0), (.int .u8 0), (.int .u8 0), (.int .u8 0), (.int .u8 0), (.int .u8 0), (.int .u8 0), (.int .u8 0), (.int .i64 0), (.int .u64 0)]) w := zero_dig
  go_wp2_with (refine wpList_store_row rfl 137 (.tmp 0) (.tmp 2) rfl w.heap.size _ rfl rfl 137 _ (heap_alloc_new _ _) (by kernel_rfl) (by kernel_rfl) (by kernel_rfl) ?_)
  refine bodyPost_ret (v := .agg dig0.toArray) (results_cell_row Tryz.results76 _ _ w.heap.size 137 dig0.toArray (0, 0) _ ?_ (setRow_heap _ _ digZ.toArray _ _ _ (heap_alloc_new _ _)) Tryz.underlying137 rfl (by rw [dig0_size]; exact info_dig)) rfl ⟨rfl, ?_⟩
  · rfl
  · exact ((Below.refl _ _).alloc (Nat.le_refl _) _).trans ⟨rfl, rfl, rfl, by simp, fun k hk => setRow_other _ _ _ _ (by omega)⟩
end Go.Proofs.YtclhcjiblfokaaaGreatDoor
namespace Go.Proofs.YtclhcjiblfokaaaGreatDoor
open Go.RowKit

/-- the walk's rule for the built-in copy, where its run is known -/
theorem wpList_copy {P : Program} {ops : Array Oper} {rest : List Oper} {o : Oper} {a : Act} {w w' : World} {Q : Exit → Act → World → Prop} (hgd : o.guard = none) (s x : Operand) (t t' : TypeId)
    (ho : o.op = .call { callee := .builtin .copy, args := #[s, x], argTypes := #[t, t'] }) (dv sv v : Value) (hs : a.eval s = dv) (hx : a.eval x = sv)
    (hr : (Builtin.copy_ #[t, t'] o.type #[dv, sv]).run P w = .ok v w') (h : wpList P ops Q rest (a.put o.dst v) w') : wpList P ops Q (o :: rest) a w :=
  wpList_plain hgd fun K hK => by
    unfold Oper.wp execOp
    simp only [ho, resolve, invoke, builtin, Sem.run_bind, Sem.run_pure, Result.andThen_ok, List.map_toArray, List.map_cons, List.map_nil, hs, hx, hr]
    exact hK _ _ h
theorem wpList_clear {P : Program} {ops : Array Oper} {rest : List Oper} {o : Oper} {a : Act} {w w' : World} {Q : Exit → Act → World → Prop} (hgd : o.guard = none) (s : Operand) (t : TypeId)
    (ho : o.op = .call { callee := .builtin .clear, args := #[s], argTypes := #[t] }) (dv v : Value) (hs : a.eval s = dv)
    (hr : (Builtin.clear_ #[t] o.type #[dv]).run P w = .ok v w') (h : wpList P ops Q rest (a.put o.dst v) w') : wpList P ops Q (o :: rest) a w :=
  wpList_plain hgd fun K hK => by
    unfold Oper.wp execOp
    simp only [ho, resolve, invoke, builtin, Sem.run_bind, Sem.run_pure, Result.andThen_ok, List.map_toArray, List.map_cons, List.map_nil, hs, hr]
    exact hK _ _ h

theorem grown_setRow (w : World) (g : Nat) (cs : Array Value) : w.grownBy (w.setRow g cs) (some g) :=
  ⟨rfl, rfl, rfl, by simp, fun j _ hne => setRow_other _ _ _ _ (fun e => hne (by rw [e]))⟩

/-- what copy does to the rest -/
theorem copy_rest (s : Oct) (R l : List (BitVec 8)) (h z i c N B : Nat) (ty : TypeId) (sv : Value) (w : World) (hB : Row w B 137 (dig s R h z)) (hR : R.length = 64) (hi : i ≤ 64) (hb : Bytes w N sv l) :
    ∃ w', (Builtin.copy_ #[29, 29] ty #[.slice (some ⟨B, 8 + i, none⟩) (64 - i) c, sv]).run Tryz.prog w = .ok (goInt ((min l.length (64 - i) : Nat) : Int)) w' ∧ w.grownBy w' (some B) ∧
      Row w' B 137 (dig s (R.take i ++ l.take (64 - i) ++ R.drop (i + min l.length (64 - i))) h z) := by
  have key : ∀ (a : Addr) (cap : Nat), sv = .slice (some a) l.length cap → (∀ j v, ((l.take (64 - i)).map V)[j]? = some v → w.cell? (a.add j) = some v) →
      ∃ w', (Builtin.copy_ #[29, 29] ty #[.slice (some ⟨B, 8 + i, none⟩) (64 - i) c, sv]).run Tryz.prog w = .ok (goInt ((min l.length (64 - i) : Nat) : Int)) w' ∧ w.grownBy w' (some B) ∧
        Row w' B 137 (dig s (R.take i ++ l.take (64 - i) ++ R.drop (i + min l.length (64 - i))) h z) := by
    rintro a cap rfl hsrc
    have hlen : ((l.take (64 - i)).map V).length = Nat.min l.length (64 - i) := by simp; exact Nat.min_comm _ _
    have hsz : (dig s R h z).toArray.size = 74 := by simp [dig_length, hR]
    have hr := run_copy_row Tryz.prog w 29 29 ty 5 B (8 + i) (64 - i) c a l.length cap (dig s R h z).toArray 137 ((l.take (64 - i)).map V)
      Tryz.underlying29 (by kernel_rfl) hB hlen hsrc
      (by rw [hsz, hlen]; have : Nat.min l.length (64 - i) ≤ 64 - i := Nat.min_le_right _ _; omega) (fun v hv => by obtain ⟨x, _, rfl⟩ := List.mem_map.1 hv; rfl)
    refine ⟨_, by rw [hr, hlen], grown_setRow _ _ _, ?_⟩
    unfold Row
    rw [setRow_heap w B _ _ 137 _ hB]
    have hl2 : (l.take (64 - i)).length = min l.length (64 - i) := by simp; exact Nat.min_comm _ _
    have hsp := dig_splice s R (l.take (64 - i)) h z i (by rw [hl2, hR]; omega)
    rw [hl2] at hsp
    have e : l.length.min (64 - i) = min l.length (64 - i) := rfl
    rw [e]
    exact congrArg (fun x : List Value => some (Obj.cells x.toArray 137 (0, 0))) hsp
  rcases hb with ⟨rfl, rfl⟩ | ⟨a, cap, rfl, rfl⟩ | ⟨b, off, cap, rfl, hc, hcells⟩
  · refine ⟨w, ?_, grown_refl _ _, ?_⟩
    · rw [run_copy_nil Tryz.prog w 29 29 ty 5 _ _ _ Tryz.underlying29 (by kernel_rfl)]
      simp
    · simpa using hB
  · exact key a cap rfl (fun j v hv => by simp at hv)
  · refine key ⟨b, off, none⟩ cap rfl (fun j v hv => ?_)
    have hadd : (⟨b, off, none⟩ : Addr).add j = ⟨b, off + j, none⟩ := by unfold Addr.add; split <;> simp_all
    have hjl : j < (l.take (64 - i)).length := by
      have := (List.getElem?_eq_some_iff.1 hv).1; simpa using this
    have hj : j < l.length := by simp at hjl; omega
    have hj2 : j < 64 - i := by simp at hjl; omega
    rw [hadd, (hcells j hj).2, ← hv]
    simp [hj2, V, hj]

/-- what clear does to the rest -/
theorem clear_rest (s : Oct) (R : List (BitVec 8)) (h z i c B : Nat) (w : World) (hB : Row w B 137 (dig s R h z)) (hR : R.length = 64) (hi : i < 64) :
    ∃ w', (∀ ty, (Builtin.clear_ #[29] ty #[.slice (some ⟨B, 8 + i, none⟩) (64 - i) c]).run Tryz.prog w = .ok (.tuple #[]) w') ∧ w.grownBy w' (some B) ∧
      Row w' B 137 (dig s (R.take i ++ List.replicate (64 - i) 0) h z) := by
  have hsz : (dig s R h z).toArray.size = 74 := by simp [dig_length, hR]
  have hst := run_storeCells_at Tryz.prog B (8 + i) 137 ((List.replicate (64 - i) (0 : BitVec 8)).map V) 0 (dig s R h z).toArray w hB (by rw [hsz]; simp; omega) (fun v hv => by obtain ⟨x, _, rfl⟩ := List.mem_map.1 hv; rfl)
  have hzv : (zeroValue 5).run Tryz.prog w = .ok (.int .u8 0) w := by kernel_rfl
  have hV : V (0 : BitVec 8) = Value.int .u8 0 := rfl
  have hzc : (Builtin.zeroCells #[Value.int .u8 0] (64 - i)).toList = (List.replicate (64 - i) (0 : BitVec 8)).map V := by
    rw [List.map_replicate, hV]
    simp [Builtin.zeroCells]
    apply List.ext_getElem
    · simp
    · intro i h1 h2
      simp [Nat.mod_one]
  simp only [Nat.add_zero] at hst
  refine ⟨w.setRow B (List.take (8 + i) (dig s R h z) ++ (List.replicate (64 - i) (0 : BitVec 8)).map V ++ List.drop (8 + i + (List.replicate (64 - i) (0 : BitVec 8)).length) (dig s R h z)).toArray, fun ty => ?_, grown_setRow w B _, ?_⟩
  · rw [← hzc] at hst
    have hlen : (List.replicate (64 - i) (0 : BitVec 8)).length = (Builtin.zeroCells #[Value.int .u8 0] (64 - i)).toList.length := by rw [hzc]; simp
    rw [hlen, ← hzc]
    obtain ⟨m, hm⟩ : ∃ m, 64 - i = m + 1 := ⟨63 - i, by omega⟩
    rw [hm] at hst ⊢
    simp only [Builtin.clear_, List.getElem?_toArray, List.getElem?_cons_zero, Sem.run_bind, run_underlying Tryz.underlying29, Result.andThen_ok, hzv, Value.cells, hst, Sem.run_pure]
  · unfold Row
    rw [setRow_heap w B _ _ 137 _ hB]
    have hsp := dig_splice s R (List.replicate (64 - i) (0 : BitVec 8)) h z i (by simp; omega)
    rw [hsp]
    have hd : R.drop (i + (List.replicate (64 - i) (0 : BitVec 8)).length) = [] := by
      apply List.drop_eq_nil_of_le; simp; omega
    rw [hd, List.append_nil]
end Go.Proofs.YtclhcjiblfokaaaGreatDoor
namespace Go.Proofs.YtclhcjiblfokaaaGreatDoor
open Go.RowKit

theorem mixAll_succ (j : Nat) : ∀ (s : Oct) (m : List (BitVec 8)), mixAll (j + 1) s m = mixed (mixAll j s m) ((m.drop (64 * j)).take 64) := by
  induction j with
  | zero => intro s m; simp [mixAll]
  | succ j ih =>
    intro s m
    have h := ih (mixed s (m.take 64)) (m.drop 64)
    rw [List.drop_drop] at h
    rw [show 64 * (j + 1) = 64 + 64 * j by omega]
    exact h
theorem mixAll_append (j : Nat) : ∀ (s : Oct) (m l : List (BitVec 8)), 64 * j ≤ m.length → mixAll j s (m ++ l) = mixAll j s m := by
  induction j with
  | zero => intro s m l _; rfl
  | succ j ih =>
    intro s m l h
    show mixAll j (mixed s ((m ++ l).take 64)) ((m ++ l).drop 64) = mixAll j (mixed s (m.take 64)) (m.drop 64)
    rw [List.take_append_of_le_length (by omega), List.drop_append_of_le_length (by omega)]
    exact ih _ _ _ (by simp; omega)

/-- R holds what of m fills no block yet -/
def Abs (m R : List (BitVec 8)) : Prop := R.length = 64 ∧ R.take (m.length % 64) = m.drop (64 * (m.length / 64))
/-- the cells of a digest in the making that has taken m -/
def digOf (m R : List (BitVec 8)) : List Value := dig (mixAll (m.length / 64) hTab m) R (m.length % 64) m.length

/-- too little to fill the block that was begun -/
theorem abs_short (m l R : List (BitVec 8)) (h : Abs m R) (hs : m.length % 64 + l.length < 64) :
    Abs (m ++ l) (R.take (m.length % 64) ++ l.take (64 - m.length % 64) ++ R.drop (m.length % 64 + min l.length (64 - m.length % 64))) ∧
    (m ++ l).length / 64 = m.length / 64 ∧ (m ++ l).length % 64 = m.length % 64 + l.length ∧ mixAll ((m ++ l).length / 64) hTab (m ++ l) = mixAll (m.length / 64) hTab m := by
  have hq : (m ++ l).length / 64 = m.length / 64 := by simp; omega
  have hr : (m ++ l).length % 64 = m.length % 64 + l.length := by simp; omega
  refine ⟨⟨by simp [h.1]; omega, ?_⟩, hq, hr, ?_⟩
  · rw [hq, hr, h.2, List.drop_append_of_le_length (by omega), List.take_of_length_le (l := l) (by omega)]
    apply List.take_left'
    simp; omega
  · rw [hq]; exact mixAll_append _ _ _ _ (by omega)
/-- what was begun, and as much of l as fills its block -/
theorem abs_fill (m l R : List (BitVec 8)) (h : Abs m R) (hs : 64 ≤ m.length % 64 + l.length) :
    R.take (m.length % 64) ++ l.take (64 - m.length % 64) ++ R.drop (m.length % 64 + min l.length (64 - m.length % 64)) = ((m ++ l).drop (64 * (m.length / 64))).take 64 ∧
    l.drop (64 - m.length % 64) = (m ++ l).drop (64 * (m.length / 64 + 1)) := by
  have hd : R.drop (m.length % 64 + min l.length (64 - m.length % 64)) = [] := by
    apply List.drop_eq_nil_of_le; rw [h.1]; omega
  constructor
  · rw [hd, List.append_nil, h.2, List.drop_append_of_le_length (by omega), List.take_append, List.take_of_length_le (l := m.drop _) (by simp; omega)]
    congr 2
    simp; omega
  · rw [List.drop_append, List.drop_of_length_le (l := m) (by omega), List.nil_append]
    congr 1
    omega
/-- what is left at the end, less than a block -/
theorem abs_end (m R : List (BitVec 8)) (j : Nat) (hR : R.length = 64) (hj : 64 * j ≤ m.length) (hl : (m.drop (64 * j)).length < 64) :
    Abs m (R.take 0 ++ (m.drop (64 * j)).take (64 - 0) ++ R.drop (0 + min (m.drop (64 * j)).length (64 - 0))) ∧ m.length / 64 = j ∧ m.length % 64 = (m.drop (64 * j)).length := by
  simp at hl
  have hq : m.length / 64 = j := by omega
  have hr : m.length % 64 = (m.drop (64 * j)).length := by simp; omega
  refine ⟨⟨by simp [hR]; omega, ?_⟩, hq, hr⟩
  rw [hq, hr, List.take_zero, List.nil_append, List.take_of_length_le (l := m.drop _) (by simp; omega)]
  exact List.take_left' rfl

theorem mixAll_padded (m : List (BitVec 8)) : mixAll (m.length / 64) hTab (padded m) = mixAll (m.length / 64) hTab m := by
  unfold padded
  rw [List.append_assoc, List.append_assoc]
  exact mixAll_append _ _ _ _ (by omega)
theorem padded_drop (m : List (BitVec 8)) : (padded m).drop (64 * (m.length / 64)) = m.drop (64 * (m.length / 64)) ++ ([128] ++ List.replicate (zeros m.length) 0 ++ be8 (8 * m.length)) := by
  unfold padded
  rw [List.append_assoc, List.append_assoc, List.drop_append_of_le_length (by omega), List.append_assoc]
/-- the mark behind what was begun, and zeros to the block's end -/
def marked (m R : List (BitVec 8)) : List (BitVec 8) := R.take (m.length % 64) ++ [128] ++ List.replicate (63 - m.length % 64) 0
theorem marked_length (m R : List (BitVec 8)) (h : R.length = 64) : (marked m R).length = 64 := by
  simp [marked, h]; omega
theorem marked_set (m R : List (BitVec 8)) (h : R.length = 64) : (R.set (m.length % 64) 128).take (m.length % 64 + 1) ++ List.replicate (64 - (m.length % 64 + 1)) 0 = marked m R := by
  have hl : m.length % 64 < R.length := by omega
  have e : (R.set (m.length % 64) 128).take (m.length % 64 + 1) = R.take (m.length % 64) ++ [128] := by
    rw [List.take_succ_eq_append_getElem (by simpa using hl)]
    have e0 : List.take (m.length % 64) (R.set (m.length % 64) 128) = List.take (m.length % 64) R := by
      apply List.ext_getElem?
      intro j
      simp only [List.getElem?_take]
      split
      · rw [List.getElem?_set_ne (by omega)]
      · rfl
    rw [e0]
    simp
  rw [e]
  unfold marked
  rw [show 64 - (m.length % 64 + 1) = 63 - m.length % 64 by omega]
theorem marked_full (m R : List (BitVec 8)) (h : R.length = 64) (h63 : m.length % 64 = 63) : R.set (m.length % 64) 128 = marked m R := by
  rw [← marked_set m R h, h63]
  simp [List.take_of_length_le, h]
/-- where there is room for the size -/
theorem sha_short (m R : List (BitVec 8)) (hA : Abs m R) (hs : m.length % 64 < 56) : sha m = (mixed (mixAll (m.length / 64) hTab m) ((marked m R).take 56 ++ be8 (8 * m.length))).list.flatMap wordBytes := by
  unfold sha
  rw [show (m.length + 72) / 64 = m.length / 64 + 1 by omega, mixAll_succ, mixAll_padded, padded_drop]
  have hz : zeros m.length = 55 - m.length % 64 := by unfold zeros; omega
  unfold marked
  rw [hA.2, hz]
  have hd : (m.drop (64 * (m.length / 64))).length = m.length % 64 := by simp; omega
  have e : (m.drop (64 * (m.length / 64)) ++ [128] ++ List.replicate (63 - m.length % 64) (0 : BitVec 8)).take 56 = m.drop (64 * (m.length / 64)) ++ [128] ++ List.replicate (55 - m.length % 64) 0 := by
    rw [List.take_append, List.take_of_length_le (by simp; omega), List.take_replicate]
    congr 2
    simp [hd]; omega
  have e5 : (m.drop (64 * (m.length / 64)) ++ ([128] ++ List.replicate (55 - m.length % 64) 0 ++ be8 (8 * m.length))).take 64 = m.drop (64 * (m.length / 64)) ++ [128] ++ List.replicate (55 - m.length % 64) 0 ++ be8 (8 * m.length) := by
    rw [List.take_of_length_le (by simp [be8]; omega)]
    simp
  rw [e, e5]
/-- where there is none -/
theorem sha_long (m R : List (BitVec 8)) (hA : Abs m R) (hs : 56 ≤ m.length % 64) :
    sha m = (mixed (mixed (mixAll (m.length / 64) hTab m) (marked m R)) ((List.replicate 64 (0 : BitVec 8)).take 56 ++ be8 (8 * m.length))).list.flatMap wordBytes := by
  unfold sha
  rw [show (m.length + 72) / 64 = m.length / 64 + 1 + 1 by omega, mixAll_succ, mixAll_succ, mixAll_padded]
  have hz : zeros m.length = (63 - m.length % 64) + 56 := by unfold zeros; omega
  have hd : (m.drop (64 * (m.length / 64))).length = m.length % 64 := by simp; omega
  have e1 : (padded m).drop (64 * (m.length / 64)) = marked m R ++ (List.replicate 56 0 ++ be8 (8 * m.length)) := by
    rw [padded_drop, hz]
    unfold marked
    rw [hA.2, ← List.replicate_append_replicate]
    simp
  have hml := marked_length m R hA.1
  have e2 : (padded m).drop (64 * (m.length / 64 + 1)) = List.replicate 56 0 ++ be8 (8 * m.length) := by
    rw [show 64 * (m.length / 64 + 1) = 64 * (m.length / 64) + 64 by omega, ← List.drop_drop, e1]
    exact List.drop_left' hml
  have e3 : (marked m R ++ (List.replicate 56 0 ++ be8 (8 * m.length))).take 64 = marked m R := by
    rw [List.take_append_of_le_length (by omega), List.take_of_length_le (by omega)]
  have e4 : (List.replicate 56 0 ++ be8 (8 * m.length)).take 64 = (List.replicate 64 (0 : BitVec 8)).take 56 ++ be8 (8 * m.length) := by
    rw [List.take_of_length_le (by simp [be8]), List.take_replicate]
    rfl
  rw [e1, e2, e3, e4]
end Go.Proofs.YtclhcjiblfokaaaGreatDoor
namespace Go.Proofs.YtclhcjiblfokaaaGreatDoor
open Go.RowKit

/-- 's.rest' as a slice, from place i on, is no copy of anything: it lies in the digest's own row -/
def tableAt (w : World) : Prop := ∀ t, t < 64 → w.cell? ⟨0, t, none⟩ = Option.some (.int .u32 (u (kTab.getD t 0)))
theorem tableAt.grown {w w' : World} {B : Nat} (h : tableAt w) (hg : w.grownBy w' (Option.some B)) (hB : B ≠ 0) : tableAt w' := by
  intro t ht
  have h0 := h t ht
  have : (0 : Nat) < w.heap.size := block_lt_of_cell h0
  rw [← h0]
  exact World.cell?_of_block (hg.block 0 this (by simp; omega))

theorem slice_rest (B hd : Nat) (h : hd < 64) (w : World) : (Instr.sliceAt 135 (.pointer (Option.some ⟨B, 8, none⟩)) (Option.some (.int .i64 (hd : Int))) none none).run Tryz.prog w = .ok (.slice (Option.some ⟨B, 8 + hd, none⟩) (64 - hd) (64 - hd)) w := by
  have hl : Tryz.prog.arrayLen 135 = 64 := by kernel_rfl
  have hs : (sizeOf (Tryz.prog.elem 135)).run Tryz.prog w = .ok 1 w := by kernel_rfl
  have hne : ¬ 64 = hd := by omega
  rw [run_sliceAt_array_l w 135 ⟨B, 8, none⟩ (by kernel_rfl) .i64 hd (by omega) (by rw [hl]; omega), hs, hl]
  simp [slicedAt, hne, Addr.add]
set_option maxRecDepth 100000 in
set_option maxHeartbeats 2000000 in
theorem take_any (m l R : List (BitVec 8)) (sv : Value) (N B : Nat) (w : World) (hA : Abs m R) (hB : Row w B 137 (digOf m R)) (hN : N ≤ B) (hB0 : B ≠ 0)
    (hb : Bytes w N sv l) (hK : tableAt w) (hlen : m.length + l.length < 2305843009213693952) :
    Calls Tryz.prog 77 #[.pointer (some ⟨B, 0, none⟩), sv] w fun e w' =>
      e = .returned (.tuple #[]) ∧ w.grownBy w' (some B) ∧ ∃ R', Abs (m ++ l) R' ∧ Row w' B 137 (digOf (m ++ l) R') := by
  obtain ⟨oa, cap, rfl, hcap⟩ := hb.shape
  have hR := hA.1
  unfold digOf at hB
  have hlt : B < w.heap.size := hB.lt
  have cz : w.cell? ⟨B, 73, none⟩ = some (.int .u64 (m.length : Int)) := (hB.cell 73).trans (dig_size _ _ _ _ hR)
  have ch : w.cell? ⟨B, 72, none⟩ = some (.int .i64 ((m.length % 64 : Nat) : Int)) := (hB.cell 72).trans (dig_held _ _ _ _ hR)
  have fz : w.frozen? ⟨B, 73, none⟩ = false := hB.frozen 73
  have hwz : IntKind.u64.wrap ((m.length : Int) + (l.length : Int)) = ((m.length + l.length : Nat) : Int) := by
    simp [IntKind.wrap, IntKind.bits, IntKind.signed]; omega
  have hwl : IntKind.u64.wrap (l.length : Int) = (l.length : Int) := by
    simp [IntKind.wrap, IntKind.bits, IntKind.signed]; omega
  have HA := hid hA
  have HB := hid hB
  have HBY := hid hb
  have HK := hid hK
  have HLEN := hid hlen
  have HR := hid hR
  clear hA hB hb hK hlen hR
  by_cases hh : 0 < m.length % 64
  · have hh' : (0 : Int) < ((m.length % 64 : Nat) : Int) := by omega
    have hhd64 : ((m.length % 64 : Nat) : Int) < 64 := by omega
    generalize hhd : m.length % 64 = hd at *
    generalize hml : m.length = ml at *
    generalize hll : l.length = ll at *
    generalize hsw : mixAll (ml / 64) hTab m = sw at *
    have HHD := hid hhd
    have HML := hid hml
    have HLL := hid hll
    have HSW := hid hsw
    clear hhd hml hll hsw
    go_enter Tryz.func77, Tryz.ntmps77
    go_wp2_with fail
    obtain ⟨w1, hw1⟩ : ∃ w1, w.setCell ⟨B, 73, none⟩ (.int .u64 ((ml : Int) + (ll : Int))) = w1 := ⟨_, rfl⟩
    rw [hw1]
    have hrow1 : Row w1 B 137 (dig sw R hd (ml + ll)) := by
      have h := HB.out.set 73 (.int .u64 ((ml + ll : Nat) : Int))
      rw [dig_setSize _ _ _ _ _ HR.out] at h
      rw [← hw1]; exact h
    have hg1 : w.grownBy w1 (some B) := by rw [← hw1]; exact grown_set _ _ _ _
    have ch1 : w1.cell? ⟨B, 72, none⟩ = some (.int .i64 (hd : Int)) := (hrow1.cell 72).trans (dig_held _ _ _ _ HR.out)
    have hlt1 : B < w1.heap.size := hrow1.lt
    have hby1 : Bytes w1 N (.slice oa ll cap) l := HBY.out.grown hg1 hN (by omega)
    have HROW1 := hid hrow1
    have HG1 := hid hg1
    have HBY1 := hid hby1
    clear hw1 cz ch fz hwz hwl hrow1 hg1 hby1
    have hsl := slice_rest B hd (by omega)
    refine region_tail 9 (by kernel_rfl) (by kernel_rfl) ?_
    simp only [List.take_succ_cons, List.take_zero, List.drop_succ_cons, List.drop_zero]
    repeat still_step
    refine wpStill_nil ?_
    clear hsl ch1
    obtain ⟨w2, hcopy, hg2, hrow2⟩ := copy_rest sw R l hd (ml + ll) hd (64 - hd) N B 3 (.slice oa ll cap) w1.drew HROW1.out HR.out (by omega) HBY1.out
    refine wpList_copy rfl (.tmp 27) (.tmp 28) 29 29 rfl _ _ _ rfl rfl hcopy ?_
    obtain ⟨nn, hnn⟩ : ∃ nn, min l.length (64 - hd) = nn := ⟨_, rfl⟩
    obtain ⟨R2, hR2⟩ : ∃ R2, R.take hd ++ l.take (64 - hd) ++ R.drop (hd + nn) = R2 := ⟨_, rfl⟩
    rw [hnn] at hrow2 ⊢
    rw [hR2] at hrow2
    have hR2l : R2.length = 64 := by
      have h1 := HR.out
      rw [← hR2]; simp; omega
    have hnl : nn ≤ ll := by have := HLL.out; omega
    have hcapn : ll ≤ cap := hcap
    have ch2 : w2.cell? ⟨B, 72, none⟩ = some (.int .i64 (hd : Int)) := (hrow2.cell 72).trans (dig_held _ _ _ _ hR2l)
    have f2 : w2.frozen? ⟨B, 72, none⟩ = false := hrow2.frozen 72
    have hby2 : Bytes w2 N (.slice oa ll cap) l := (show Bytes w1.drew N (.slice oa ll cap) l from HBY1.out).grown hg2 hN (by show N ≤ w1.heap.size; omega)
    have HROW2 := hid hrow2
    have HG2 := hid hg2
    have HBY2 := hid hby2
    have HR2 := hid hR2
    have HNN := hid hnn
    have HR2L := hid hR2l
    clear hcopy hrow2 hg2 hby2 hR2 hR2l hnn
    by_cases hshort : hd + ll < 64
    · have hnn2 : nn = ll := by have h1 := HNN.out; have h2 := HLL.out; omega
      subst hnn2
      have hsum : (hd : Int) + (nn : Int) < 64 := by omega
      have hshape := abs_short m l R HA.out (by have h1 := HHD.out; have h2 := HML.out; have h3 := HLL.out; subst h1; rw [h2, h3]; omega)
      rw [HML.out, HHD.out, HNN.out, HR2.out, HLL.out] at hshape
      have HSH := hid hshape
      clear hshape
      go_wp2_with fail
      all_goals
        refine bodyPost_ret (v := .tuple #[]) (by simp [results, Tryz.results77, go_sem]) rfl ⟨rfl, ?_, R2, HSH.out.1, ?_⟩
        · exact grown_trans (grown_trans (grown_drew HG1.out) HG2.out) (grown_set _ _ _ _)
        · have h := HROW2.out.set 72 (.int .i64 ((hd + nn : Nat) : Int))
          rw [dig_setHeld _ _ _ _ _ HR2L.out] at h
          unfold digOf
          rw [HSH.out.2.2.2, HSH.out.2.2.1, List.length_append, HML.out, HLL.out, HSW.out]
          exact h
    · have hl0 : 0 < l.length := by have h2 := HLL.out; omega
      have hnn2 : nn = 64 - hd := by have h1 := HNN.out; have h2 := HLL.out; omega
      subst hnn2
      obtain ⟨b, off, rfl, hcells⟩ := (show Bytes w2 N (.slice oa l.length cap) l by rw [HLL.out]; exact HBY2.out).some hl0
      have hfill := abs_fill m l R HA.out (by have h1 := HHD.out; have h2 := HML.out; have h3 := HLL.out; rw [h2, h3, h1]; omega)
      rw [HML.out, HHD.out, HNN.out, HR2.out] at hfill
      have hsum : (hd : Int) + ((64 - hd : Nat) : Int) = 64 := by omega
      have HC := hid hcells
      have HF := hid hfill
      clear hcells hfill
      obtain ⟨w3, hw3⟩ : ∃ w3, w2.setCell ⟨B, 72, none⟩ (.int .i64 64) = w3 := ⟨_, rfl⟩
      have hrow3 : Row w3 B 137 (dig sw R2 64 (ml + ll)) := by
        have h := HROW2.out.set 72 (.int .i64 ((64 : Nat) : Int))
        rw [dig_setHeld _ _ _ _ _ HR2L.out] at h
        rw [← hw3]; exact h
      have hg3 : w.grownBy w3 (some B) := by
        rw [← hw3]; exact grown_trans (grown_trans (grown_drew HG1.out) HG2.out) (grown_set _ _ _ _)
      have hmix := mix_any sw (R2.map V ++ [.int .i64 ((64 : Nat) : Int), .int .u64 ((ml + ll : Nat) : Int)]) R2 B 8 64 B w3 hrow3 hB0 (HK.out.grown hg3 hB0)
        (fun i hi => (hrow3.cell (8 + i)).trans (dig_at _ _ _ _ _ (by rw [HR2L.out]; exact hi)))
      have hwords : mixed sw R2 = mixAll (ml / 64 + 1) hTab (m ++ l) := by
        rw [mixAll_succ, ← HF.out.1, mixAll_append _ _ _ _ (by rw [HML.out]; omega), HSW.out]
      have hj : 64 * (ml / 64 + 1) ≤ (m ++ l).length := by
        rw [List.length_append, HML.out, HLL.out]; have h1 := HHD.out; omega
      have hg3' : w2.grownBy w3 (some B) := by rw [← hw3]; exact grown_set _ _ _ _
      have hlt2 : B < w2.heap.size := HROW2.out.lt
      have hby3 : ∀ i, i < l.length → b < N ∧ w3.cell? ⟨b, off + i, none⟩ = some (.int .u8 (b8 (l.getD i 0))) := fun i hi => by
        have h1 := HC.out i hi
        refine ⟨h1.1, ?_⟩
        rw [← h1.2]
        exact World.cell?_of_block (hg3'.block b (by have := h1.1; omega) (by have := h1.1; simp; omega))
      have HW3 := hid hw3
      clear hw3
      have HMIX := hid hmix
      have HG3 := hid hg3
      have HBY3 := hid hby3
      have HW := hid hwords
      have HJ := hid hj
      clear hmix hrow3 hg3 hg3' hby3 hwords hj
      by_cases hcn : cap = 64 - hd
      · go_wp2_with fail
        rw [HW3.out]
        refine HMIX.out.mono ?_
        rintro e w4 ⟨rfl, hg4, hrow4⟩
        have hby4 : Bytes w4 N (.slice (some ⟨b, off, none⟩) (ll - (64 - hd)) 0) ((m ++ l).drop (64 * (ml / 64 + 1))) := by
          rw [← HF.out.2]
          have h := Bytes.none_left (w := w4) (N := N) (l := l) ⟨b, off, none⟩ cap (64 - hd) (by rw [HLL.out]; omega)
          rw [HLL.out, hcn, Nat.sub_self] at h
          exact h
        have hg4' := grown_trans HG3.out hg4
        rw [HW.out] at hrow4
        have HROWL := hid hrow4
        have HBYL := hid hby4
        have HGL := hid hg4'
        clear hrow4 hby4 hg4 hg4' HMIX HG3 HBY3 HW3 HC HG1 HG2 HROW1 HROW2 HBY1 HBY2 HB HBY
        have HRL := hid HR2L.out
        clear HR2L
        go_wp2_with fail
        go_loopw [1] (fun v wr => ∃ (j h' : Nat) (R' : List (BitVec 8)), 64 * j ≤ (m ++ l).length ∧ R'.length = 64 ∧ Row wr B 137 (dig (mixAll j hTab (m ++ l)) R' h' (ml + ll)) ∧ Bytes wr N v ((m ++ l).drop (64 * j)) ∧ w.grownBy wr (some B)) (fun v _ => lenOf v)
        case atStart => exact ⟨_, _, _, HJ.out, HRL.out, HROWL.out, HBYL.out, HGL.out⟩
        case round =>
          clear HROWL HBYL HGL HJ HRL
          obtain ⟨j, h', R', hj', hR', hrow, hby, hgr⟩ := hrel
          obtain ⟨oa2, cap2, rfl, hcap2⟩ := hby.shape
          have hltr : B < wr.heap.size := hrow.lt
          have hlen2 : ((m ++ l).drop (64 * j)).length < 2305843009213693952 := by have h1 := HLEN.out; have h2 := HML.out; have h3 := HLL.out; simp; omega
          by_cases h64 : 64 ≤ ((m ++ l).drop (64 * j)).length
          · obtain ⟨b2, off2, rfl, hcells2⟩ := hby.some (by omega)
            have hmix := mix_any (mixAll j hTab (m ++ l)) (R'.map V ++ [.int .i64 (h' : Int), .int .u64 ((ml + ll : Nat) : Int)]) (((m ++ l).drop (64 * j)).take 64) b2 off2 cap2 B wr hrow hB0 (HK.out.grown hgr hB0)
              (fun i hi => by rw [(hcells2 i (by omega)).2]; simp [hi])
            rw [← mixAll_succ] at hmix
            have hj2 : 64 * (j + 1) ≤ (m ++ l).length := by have h := h64; simp at h; simp; omega
            have htail : cap2 ≠ 64 → Bytes wr N (.slice (some ⟨b2, off2 + 64, none⟩) (((m ++ l).drop (64 * j)).length - 64) (cap2 - 64)) ((m ++ l).drop (64 * (j + 1))) := fun _ => by
              have h := Bytes.tail (w := wr) (N := N) b2 off2 cap2 64 h64 hcap2 hcells2
              rw [List.drop_drop] at h
              rw [show 64 * (j + 1) = 64 * j + 64 by omega]; exact h
            have hnone : cap2 = 64 → Bytes wr N (.slice (some ⟨b2, off2, none⟩) (((m ++ l).drop (64 * j)).length - 64) (cap2 - 64)) ((m ++ l).drop (64 * (j + 1))) := fun hc => by
              have h := Bytes.none_left (w := wr) (N := N) (l := (m ++ l).drop (64 * j)) ⟨b2, off2, none⟩ cap2 64 (by omega)
              rw [List.drop_drop] at h
              rw [show 64 * (j + 1) = 64 * j + 64 by omega]; exact h
            generalize hnr : ((m ++ l).drop (64 * j)).length = nr at *
            have HMIX := hid hmix
            have HROW := hid hrow
            have HGR := hid hgr
            have HT := hid htail
            have HN := hid hnone
            have HR' := hid hR'
            have HJ2 := hid hj2
            clear hmix hrow hgr htail hnone hR' hj2 hcells2 hby hj' hnr
            have h64' : (64 : Int) ≤ (nr : Int) := by omega
            have hcap' : (64 : Int) ≤ (cap2 : Int) := by omega
            by_cases hc64 : cap2 = 64
            · have hnr64 : nr = 64 := by omega
              subst hnr64
              subst hc64
              go_wp2_with (go_at_call 121; refine HMIX.out.mono ?_; rintro e w5 ⟨rfl, hg5, hrow5⟩)
              go_roundw
              case rel =>
                exact ⟨j + 1, h', R', HJ2.out, HR'.out, hrow5, (HN.out (by trivial)).grown hg5 hN (by omega), grown_trans HGR.out hg5⟩
              case measure => simp [lenOf]
            · go_wp2_with (go_at_call 121; refine HMIX.out.mono ?_; rintro e w5 ⟨rfl, hg5, hrow5⟩)
              go_roundw
              case rel =>
                exact ⟨j + 1, h', R', HJ2.out, HR'.out, hrow5, (HT.out hc64).grown hg5 hN (by omega), grown_trans HGR.out hg5⟩
              case measure => simp [lenOf]; omega
          · obtain ⟨w6, hcopy, hg6, hrow6⟩ := copy_rest (mixAll j hTab (m ++ l)) R' ((m ++ l).drop (64 * j)) h' (ml + ll) 0 64 N B 3 (.slice oa2 ((m ++ l).drop (64 * j)).length cap2) wr hrow hR' (by omega) hby
            have hend := abs_end (m ++ l) R' j hR' hj' (by omega)
            have hmin : min ((m ++ l).drop (64 * j)).length (64 - 0) = ((m ++ l).drop (64 * j)).length := by omega
            rw [hmin] at hcopy hrow6 hend
            generalize hnr : ((m ++ l).drop (64 * j)).length = nr at *
            have hR6 := hend.1.1
            have f6 : w6.frozen? ⟨B, 72, none⟩ = false := hrow6.frozen 72
            obtain ⟨v6, c6⟩ : ∃ v6, w6.cell? ⟨B, 72, none⟩ = some v6 := ⟨_, (hrow6.cell 72).trans (dig_held _ _ _ _ hR6)⟩
            have HCOPY := hid hcopy
            have HROW6 := hid hrow6
            have HG6 := hid hg6
            have HGR := hid hgr
            have HEND := hid hend
            have HR6 := hid hR6
            clear hcopy hrow6 hg6 hgr hend hR6 hmin hby hrow hR' hj' hnr
            have h64' : (nr : Int) < 64 := by omega
            go_wp2_with (refine wpList_copy rfl (.tmp 65) (.tmp 66) 29 29 rfl _ _ _ rfl rfl HCOPY.out ?_)
            go_end0
            refine ⟨rfl, grown_trans (grown_trans HGR.out HG6.out) (grown_set _ _ _ _), _, HEND.out.1, ?_⟩
            have h := HROW6.out.set 72 (.int .i64 (nr : Int))
            rw [dig_setHeld _ _ _ _ _ HR6.out] at h
            unfold digOf
            rw [HEND.out.2.1, HEND.out.2.2, List.length_append, HML.out, HLL.out]
            exact h
      · go_wp2_with fail
        rw [HW3.out]
        refine HMIX.out.mono ?_
        rintro e w4 ⟨rfl, hg4, hrow4⟩
        have hby4 : Bytes w4 N (.slice (some ⟨b, off + (64 - hd), none⟩) (ll - (64 - hd)) (cap - (64 - hd))) ((m ++ l).drop (64 * (ml / 64 + 1))) := by
          rw [← HF.out.2]
          have h := Bytes.tail (w := w3) (N := N) b off cap (64 - hd) (by rw [HLL.out]; omega) (by rw [HLL.out]; exact hcap) HBY3.out
          rw [HLL.out] at h
          exact h.grown hg4 hN (by have h3 := HG3.out.size; omega)
        have hg4' := grown_trans HG3.out hg4
        rw [HW.out] at hrow4
        have HROWL := hid hrow4
        have HBYL := hid hby4
        have HGL := hid hg4'
        clear hrow4 hby4 hg4 hg4' HMIX HG3 HBY3 HW3 HC HG1 HG2 HROW1 HROW2 HBY1 HBY2 HB HBY
        have HRL := hid HR2L.out
        clear HR2L
        go_wp2_with fail
        go_loopw [1] (fun v wr => ∃ (j h' : Nat) (R' : List (BitVec 8)), 64 * j ≤ (m ++ l).length ∧ R'.length = 64 ∧ Row wr B 137 (dig (mixAll j hTab (m ++ l)) R' h' (ml + ll)) ∧ Bytes wr N v ((m ++ l).drop (64 * j)) ∧ w.grownBy wr (some B)) (fun v _ => lenOf v)
        case atStart => exact ⟨_, _, _, HJ.out, HRL.out, HROWL.out, HBYL.out, HGL.out⟩
        case round =>
          clear HROWL HBYL HGL HJ HRL
          obtain ⟨j, h', R', hj', hR', hrow, hby, hgr⟩ := hrel
          obtain ⟨oa2, cap2, rfl, hcap2⟩ := hby.shape
          have hltr : B < wr.heap.size := hrow.lt
          have hlen2 : ((m ++ l).drop (64 * j)).length < 2305843009213693952 := by have h1 := HLEN.out; have h2 := HML.out; have h3 := HLL.out; simp; omega
          by_cases h64 : 64 ≤ ((m ++ l).drop (64 * j)).length
          · obtain ⟨b2, off2, rfl, hcells2⟩ := hby.some (by omega)
            have hmix := mix_any (mixAll j hTab (m ++ l)) (R'.map V ++ [.int .i64 (h' : Int), .int .u64 ((ml + ll : Nat) : Int)]) (((m ++ l).drop (64 * j)).take 64) b2 off2 cap2 B wr hrow hB0 (HK.out.grown hgr hB0)
              (fun i hi => by rw [(hcells2 i (by omega)).2]; simp [hi])
            rw [← mixAll_succ] at hmix
            have hj2 : 64 * (j + 1) ≤ (m ++ l).length := by have h := h64; simp at h; simp; omega
            have htail : cap2 ≠ 64 → Bytes wr N (.slice (some ⟨b2, off2 + 64, none⟩) (((m ++ l).drop (64 * j)).length - 64) (cap2 - 64)) ((m ++ l).drop (64 * (j + 1))) := fun _ => by
              have h := Bytes.tail (w := wr) (N := N) b2 off2 cap2 64 h64 hcap2 hcells2
              rw [List.drop_drop] at h
              rw [show 64 * (j + 1) = 64 * j + 64 by omega]; exact h
            have hnone : cap2 = 64 → Bytes wr N (.slice (some ⟨b2, off2, none⟩) (((m ++ l).drop (64 * j)).length - 64) (cap2 - 64)) ((m ++ l).drop (64 * (j + 1))) := fun hc => by
              have h := Bytes.none_left (w := wr) (N := N) (l := (m ++ l).drop (64 * j)) ⟨b2, off2, none⟩ cap2 64 (by omega)
              rw [List.drop_drop] at h
              rw [show 64 * (j + 1) = 64 * j + 64 by omega]; exact h
            generalize hnr : ((m ++ l).drop (64 * j)).length = nr at *
            have HMIX := hid hmix
            have HROW := hid hrow
            have HGR := hid hgr
            have HT := hid htail
            have HN := hid hnone
            have HR' := hid hR'
            have HJ2 := hid hj2
            clear hmix hrow hgr htail hnone hR' hj2 hcells2 hby hj' hnr
            have h64' : (64 : Int) ≤ (nr : Int) := by omega
            have hcap' : (64 : Int) ≤ (cap2 : Int) := by omega
            by_cases hc64 : cap2 = 64
            · have hnr64 : nr = 64 := by omega
              subst hnr64
              subst hc64
              go_wp2_with (go_at_call 121; refine HMIX.out.mono ?_; rintro e w5 ⟨rfl, hg5, hrow5⟩)
              go_roundw
              case rel =>
                exact ⟨j + 1, h', R', HJ2.out, HR'.out, hrow5, (HN.out (by trivial)).grown hg5 hN (by omega), grown_trans HGR.out hg5⟩
              case measure => simp [lenOf]
            · go_wp2_with (go_at_call 121; refine HMIX.out.mono ?_; rintro e w5 ⟨rfl, hg5, hrow5⟩)
              go_roundw
              case rel =>
                exact ⟨j + 1, h', R', HJ2.out, HR'.out, hrow5, (HT.out hc64).grown hg5 hN (by omega), grown_trans HGR.out hg5⟩
              case measure => simp [lenOf]; omega
          · obtain ⟨w6, hcopy, hg6, hrow6⟩ := copy_rest (mixAll j hTab (m ++ l)) R' ((m ++ l).drop (64 * j)) h' (ml + ll) 0 64 N B 3 (.slice oa2 ((m ++ l).drop (64 * j)).length cap2) wr hrow hR' (by omega) hby
            have hend := abs_end (m ++ l) R' j hR' hj' (by omega)
            have hmin : min ((m ++ l).drop (64 * j)).length (64 - 0) = ((m ++ l).drop (64 * j)).length := by omega
            rw [hmin] at hcopy hrow6 hend
            generalize hnr : ((m ++ l).drop (64 * j)).length = nr at *
            have hR6 := hend.1.1
            have f6 : w6.frozen? ⟨B, 72, none⟩ = false := hrow6.frozen 72
            obtain ⟨v6, c6⟩ : ∃ v6, w6.cell? ⟨B, 72, none⟩ = some v6 := ⟨_, (hrow6.cell 72).trans (dig_held _ _ _ _ hR6)⟩
            have HCOPY := hid hcopy
            have HROW6 := hid hrow6
            have HG6 := hid hg6
            have HGR := hid hgr
            have HEND := hid hend
            have HR6 := hid hR6
            clear hcopy hrow6 hg6 hgr hend hR6 hmin hby hrow hR' hj' hnr
            have h64' : (nr : Int) < 64 := by omega
            go_wp2_with (refine wpList_copy rfl (.tmp 65) (.tmp 66) 29 29 rfl _ _ _ rfl rfl HCOPY.out ?_)
            go_end0
            refine ⟨rfl, grown_trans (grown_trans HGR.out HG6.out) (grown_set _ _ _ _), _, HEND.out.1, ?_⟩
            have h := HROW6.out.set 72 (.int .i64 (nr : Int))
            rw [dig_setHeld _ _ _ _ _ HR6.out] at h
            unfold digOf
            rw [HEND.out.2.1, HEND.out.2.2, List.length_append, HML.out, HLL.out]
            exact h
  · have hd0 : m.length % 64 = 0 := by omega
    rw [hd0] at ch HB
    generalize hml : m.length = ml at *
    generalize hll : l.length = ll at *
    generalize hsw : mixAll (ml / 64) hTab m = sw at *
    have HML := hid hml
    have HLL := hid hll
    have HSW := hid hsw
    have HD0 := hid hd0
    clear hml hll hsw hd0 hh
    go_enter Tryz.func77, Tryz.ntmps77
    go_wp2_with fail
    obtain ⟨w1, hw1⟩ : ∃ w1, w.setCell ⟨B, 73, none⟩ (.int .u64 ((ml : Int) + (ll : Int))) = w1 := ⟨_, rfl⟩
    rw [hw1]
    have hrow1 : Row w1 B 137 (dig sw R 0 (ml + ll)) := by
      have h := HB.out.set 73 (.int .u64 ((ml + ll : Nat) : Int))
      rw [dig_setSize _ _ _ _ _ HR.out] at h
      rw [← hw1]; exact h
    have hg1 : w.grownBy w1 (some B) := by rw [← hw1]; exact grown_set _ _ _ _
    have hby1 : Bytes w1 N (.slice oa ll cap) ((m ++ l).drop (64 * (ml / 64))) := by
      have h1 := HML.out
      have h2 := HD0.out
      rw [List.drop_append, List.drop_of_length_le (l := m) (by omega), List.nil_append, show 64 * (ml / 64) - m.length = 0 by omega, List.drop_zero]
      exact HBY.out.grown hg1 hN (by omega)
    have hw : sw = mixAll (ml / 64) hTab (m ++ l) := by rw [mixAll_append _ _ _ _ (by rw [HML.out]; omega), HSW.out]
    rw [hw] at hrow1
    have hj : 64 * (ml / 64) ≤ (m ++ l).length := by rw [List.length_append, HML.out]; omega
    have HROWL := hid hrow1
    have HBYL := hid hby1
    have HGL := hid hg1
    have HJ := hid hj
    have HRL := hid HR.out
    clear hw1 cz ch fz hwz hwl hrow1 hg1 hby1 hw hj HB HBY HR
    go_wp2_with fail
    go_loopw [1] (fun v wr => ∃ (j h' : Nat) (R' : List (BitVec 8)), 64 * j ≤ (m ++ l).length ∧ R'.length = 64 ∧ Row wr B 137 (dig (mixAll j hTab (m ++ l)) R' h' (ml + ll)) ∧ Bytes wr N v ((m ++ l).drop (64 * j)) ∧ w.grownBy wr (some B)) (fun v _ => lenOf v)
    case atStart => exact ⟨_, _, _, HJ.out, HRL.out, HROWL.out, HBYL.out, HGL.out⟩
    case round =>
      clear HROWL HBYL HGL HJ HRL
      obtain ⟨j, h', R', hj', hR', hrow, hby, hgr⟩ := hrel
      obtain ⟨oa2, cap2, rfl, hcap2⟩ := hby.shape
      have hltr : B < wr.heap.size := hrow.lt
      have hlen2 : ((m ++ l).drop (64 * j)).length < 2305843009213693952 := by have h1 := HLEN.out; have h2 := HML.out; have h3 := HLL.out; simp; omega
      by_cases h64 : 64 ≤ ((m ++ l).drop (64 * j)).length
      · obtain ⟨b2, off2, rfl, hcells2⟩ := hby.some (by omega)
        have hmix := mix_any (mixAll j hTab (m ++ l)) (R'.map V ++ [.int .i64 (h' : Int), .int .u64 ((ml + ll : Nat) : Int)]) (((m ++ l).drop (64 * j)).take 64) b2 off2 cap2 B wr hrow hB0 (HK.out.grown hgr hB0)
          (fun i hi => by rw [(hcells2 i (by omega)).2]; simp [hi])
        rw [← mixAll_succ] at hmix
        have hj2 : 64 * (j + 1) ≤ (m ++ l).length := by have h := h64; simp at h; simp; omega
        have htail : cap2 ≠ 64 → Bytes wr N (.slice (some ⟨b2, off2 + 64, none⟩) (((m ++ l).drop (64 * j)).length - 64) (cap2 - 64)) ((m ++ l).drop (64 * (j + 1))) := fun _ => by
          have h := Bytes.tail (w := wr) (N := N) b2 off2 cap2 64 h64 hcap2 hcells2
          rw [List.drop_drop] at h
          rw [show 64 * (j + 1) = 64 * j + 64 by omega]; exact h
        have hnone : cap2 = 64 → Bytes wr N (.slice (some ⟨b2, off2, none⟩) (((m ++ l).drop (64 * j)).length - 64) (cap2 - 64)) ((m ++ l).drop (64 * (j + 1))) := fun hc => by
          have h := Bytes.none_left (w := wr) (N := N) (l := (m ++ l).drop (64 * j)) ⟨b2, off2, none⟩ cap2 64 (by omega)
          rw [List.drop_drop] at h
          rw [show 64 * (j + 1) = 64 * j + 64 by omega]; exact h
        generalize hnr : ((m ++ l).drop (64 * j)).length = nr at *
        have HMIX := hid hmix
        have HROW := hid hrow
        have HGR := hid hgr
        have HT := hid htail
        have HN := hid hnone
        have HR' := hid hR'
        have HJ2 := hid hj2
        clear hmix hrow hgr htail hnone hR' hj2 hcells2 hby hj' hnr
        have h64' : (64 : Int) ≤ (nr : Int) := by omega
        have hcap' : (64 : Int) ≤ (cap2 : Int) := by omega
        by_cases hc64 : cap2 = 64
        · have hnr64 : nr = 64 := by omega
          subst hnr64
          subst hc64
          go_wp2_with (go_at_call 121; refine HMIX.out.mono ?_; rintro e w5 ⟨rfl, hg5, hrow5⟩)
          go_roundw
          case rel =>
            exact ⟨j + 1, h', R', HJ2.out, HR'.out, hrow5, (HN.out (by trivial)).grown hg5 hN (by omega), grown_trans HGR.out hg5⟩
          case measure => simp [lenOf]
        · go_wp2_with (go_at_call 121; refine HMIX.out.mono ?_; rintro e w5 ⟨rfl, hg5, hrow5⟩)
          go_roundw
          case rel =>
            exact ⟨j + 1, h', R', HJ2.out, HR'.out, hrow5, (HT.out hc64).grown hg5 hN (by omega), grown_trans HGR.out hg5⟩
          case measure => simp [lenOf]; omega
      · obtain ⟨w6, hcopy, hg6, hrow6⟩ := copy_rest (mixAll j hTab (m ++ l)) R' ((m ++ l).drop (64 * j)) h' (ml + ll) 0 64 N B 3 (.slice oa2 ((m ++ l).drop (64 * j)).length cap2) wr hrow hR' (by omega) hby
        have hend := abs_end (m ++ l) R' j hR' hj' (by omega)
        have hmin : min ((m ++ l).drop (64 * j)).length (64 - 0) = ((m ++ l).drop (64 * j)).length := by omega
        rw [hmin] at hcopy hrow6 hend
        generalize hnr : ((m ++ l).drop (64 * j)).length = nr at *
        have hR6 := hend.1.1
        have f6 : w6.frozen? ⟨B, 72, none⟩ = false := hrow6.frozen 72
        obtain ⟨v6, c6⟩ : ∃ v6, w6.cell? ⟨B, 72, none⟩ = some v6 := ⟨_, (hrow6.cell 72).trans (dig_held _ _ _ _ hR6)⟩
        have HCOPY := hid hcopy
        have HROW6 := hid hrow6
        have HG6 := hid hg6
        have HGR := hid hgr
        have HEND := hid hend
        have HR6 := hid hR6
        clear hcopy hrow6 hg6 hgr hend hR6 hmin hby hrow hR' hj' hnr
        have h64' : (nr : Int) < 64 := by omega
        go_wp2_with (refine wpList_copy rfl (.tmp 65) (.tmp 66) 29 29 rfl _ _ _ rfl rfl HCOPY.out ?_)
        go_end0
        refine ⟨rfl, grown_trans (grown_trans HGR.out HG6.out) (grown_set _ _ _ _), _, HEND.out.1, ?_⟩
        have h := HROW6.out.set 72 (.int .i64 (nr : Int))
        rw [dig_setHeld _ _ _ _ _ HR6.out] at h
        unfold digOf
        rw [HEND.out.2.1, HEND.out.2.2, List.length_append, HML.out, HLL.out]
        exact h
end Go.Proofs.YtclhcjiblfokaaaGreatDoor
namespace Go.Proofs.YtclhcjiblfokaaaGreatDoor
open Go.RowKit

theorem ownsRow_mono {w : World} {base base' : Nat} {e : TypeId} {size : Nat} {v : Value} {n : Nat} {xs : List Value} (h : w.ownsRow base e size v n xs) (hb : base' ≤ base) : w.ownsRow base' e size v n xs := by
  refine ⟨h.1, ?_⟩
  rcases h.2 with h2 | ⟨g, cap, cur, h3, h4, h5⟩
  · exact .inl h2
  · exact .inr ⟨g, cap, cur, h3, by omega, h5⟩
theorem slice_rest_end (B : Nat) (w : World) : (Instr.sliceAt 135 (.pointer (some ⟨B, 8, none⟩)) (some (.int .i64 64)) none none).run Tryz.prog w = .ok (.slice (some ⟨B, 8, none⟩) 0 0) w := by kernel_rfl
theorem clear_none (a : Addr) (ty : TypeId) (w : World) : (Builtin.clear_ #[29] ty #[.slice (some a) 0 0]).run Tryz.prog w = .ok (.tuple #[]) w := by kernel_rfl

set_option maxRecDepth 100000 in
set_option maxHeartbeats 2000000 in
theorem finish_any (m R : List (BitVec 8)) (B : Nat) (w : World) (hA : Abs m R) (hB : Row w B 137 (digOf m R)) (hB0 : B ≠ 0) (hK : tableAt w) (hlen : m.length < 2305843009213693952) :
    Calls Tryz.prog 78 #[.pointer (some ⟨B, 0, none⟩)] w fun e w' =>
      ∃ v, e = .returned v ∧ w'.ownsRow w.heap.size 5 1 v 32 ((sha m).map V) ∧ w.grownBy w' (some B) := by
  have hR := hA.1
  unfold digOf at hB
  have hlt : B < w.heap.size := hB.lt
  have ch : w.cell? ⟨B, 72, none⟩ = some (.int .i64 ((m.length % 64 : Nat) : Int)) := (hB.cell 72).trans (dig_held _ _ _ _ hR)
  have hh : ((m.length % 64 : Nat) : Int) < 64 := by omega
  obtain ⟨v8, c8⟩ : ∃ v8, w.cell? ⟨B, 8 + m.length % 64, none⟩ = some v8 := ⟨_, (hB.cell _).trans (dig_at _ _ _ _ _ (by omega))⟩
  have f8 : w.frozen? ⟨B, 8 + m.length % 64, none⟩ = false := hB.frozen _
  have HA := hid hA
  have HB := hid hB
  have HK := hid hK
  have HLEN := hid hlen
  have HR := hid hR
  have HMS := hid (marked_set m R hR)
  have HMF := hid (marked_full m R hR)
  have HML := hid (marked_length m R hR)
  clear hA hB hK hlen hR
  generalize hhd : m.length % 64 = hd at *
  have HHD := hid hhd
  clear hhd
  go_enter Tryz.func78, Tryz.ntmps78
  go_wp2_with fail
  refine region_tail 8 (by kernel_rfl) (by kernel_rfl) ?_
  simp only [List.take_succ_cons, List.take_zero, List.drop_succ_cons, List.drop_zero]
  repeat still_step
  refine wpStill_nil ?_
  go_wp2_with fail
  obtain ⟨w1, hw1⟩ : ∃ w1, (w.setCell ⟨B, 8 + hd, none⟩ (.int .u8 128)).drew = w1 := ⟨_, rfl⟩
  rw [hw1]
  have hrow1 : Row w1 B 137 (dig (mixAll (m.length / 64) hTab m) (R.set hd 128) hd m.length) := by
    have h := HB.out.set (8 + hd) (V 128)
    rw [dig_set _ _ _ _ _ (by rw [HR.out]; omega)] at h
    rw [← hw1]; exact h
  have hg1 : w.grownBy w1 (some B) := by rw [← hw1]; exact grown_drew (grown_set _ _ _ _)
  have hR1 : (R.set hd 128).length = 64 := by rw [List.length_set]; exact HR.out
  have ch1 : w1.cell? ⟨B, 72, none⟩ = some (.int .i64 (hd : Int)) := (hrow1.cell 72).trans (dig_held _ _ _ _ hR1)
  have hlt1 : B < w1.heap.size := hrow1.lt
  have HROW1 := hid hrow1
  have HG1 := hid hg1
  have HR1 := hid hR1
  clear hrow1 hg1 hR1 hw1 ch c8 f8
  by_cases h63 : hd = 63
  · have hm := HMF.out h63
    rw [hm] at HROW1
    have H63 := hid h63
    clear hm HMF HMS
    obtain ⟨w2, hw2⟩ : ∃ w2, w1.drew = w2 := ⟨_, rfl⟩
    have hrow2 : Row w2 B 137 (dig (mixAll (m.length / 64) hTab m) (marked m R) hd m.length) := by rw [← hw2]; exact HROW1.out
    have hg2 : w.grownBy w2 (some B) := by rw [← hw2]; exact grown_drew HG1.out
    have HROW2 := hid hrow2
    have HG2 := hid hg2
    have HW2 := hid hw2
    clear hrow2 hg2 hw2 HG1 HROW1
    have hsl : ∀ w : World, (Instr.sliceAt 135 (.pointer (some ⟨B, 8, none⟩)) (some (.int .i64 ((hd : Int) + 1))) none none).run Tryz.prog w = .ok (.slice (some ⟨B, 8, none⟩) 0 0) w := by subst h63; exact slice_rest_end B
    have hwr : IntKind.i64.wrap ((hd : Int) + 1) = (hd : Int) + 1 := by simp [IntKind.wrap, IntKind.bits, IntKind.signed]; split <;> omega
    have hdge : 56 ≤ hd := by omega
    clear h63
    refine region_tail 9 (by kernel_rfl) (by kernel_rfl) ?_
    simp only [List.take_succ_cons, List.take_zero, List.drop_succ_cons, List.drop_zero]
    repeat still_step
    refine wpStill_nil ?_
    refine wpList_clear rfl (.tmp 19) 29 rfl _ _ rfl (clear_none _ _ _) ?_
    rw [HW2.out]
    clear hsl ch1 hwr
    have ch2 : w2.cell? ⟨B, 72, none⟩ = some (.int .i64 (hd : Int)) := (HROW2.out.cell 72).trans (dig_held _ _ _ _ HML.out)
    have hsh := sha_long m R HA.out (by rw [HHD.out]; omega)
    have hs' : (56 : Int) ≤ (hd : Int) := by omega
    have hmix := mix_any (mixAll (m.length / 64) hTab m) ((marked m R).map V ++ [.int .i64 (hd : Int), .int .u64 (m.length : Int)]) (marked m R) B 8 64 B w2 HROW2.out hB0 (HK.out.grown HG2.out hB0)
      (fun i hi => (HROW2.out.cell (8 + i)).trans (dig_at _ _ _ _ _ (by rw [HML.out]; exact hi)))
    have HMIX := hid hmix
    have HSH := hid hsh
    clear hmix hsh
    go_wp2_with fail
    refine HMIX.out.mono ?_
    rintro e w3 ⟨rfl, hg3, hrow3⟩
    obtain ⟨w4, hclr, hg4, hrow4⟩ := clear_rest (mixed (mixAll (m.length / 64) hTab m) (marked m R)) (marked m R) hd m.length 0 64 B w3 hrow3 HML.out (by omega)
    have hput := putSize_any (mixed (mixAll (m.length / 64) hTab m) (marked m R)) (List.replicate 64 0) hd m.length B (by simp) HLEN.out w4 hrow4
    have HCLR := hid hclr
    have HPUT := hid hput
    have HG4 := hid (grown_trans HG2.out (grown_trans hg3 hg4))
    clear hclr hput hg3 hg4 hrow3 hrow4 ch2
    go_wp2_with (refine wpList_clear rfl (.tmp 34) 29 rfl _ _ rfl (HCLR.out _) ?_)
    refine HPUT.out.mono ?_
    rintro e w5 ⟨rfl, hg5, hrow5⟩
    have hl5 : ((List.replicate 64 (0 : BitVec 8)).take 56 ++ be8 (8 * m.length)).length = 64 := by simp [be8]
    have hg5' := grown_trans HG4.out hg5
    have hmix2 := mix_any (mixed (mixAll (m.length / 64) hTab m) (marked m R)) (((List.replicate 64 (0 : BitVec 8)).take 56 ++ be8 (8 * m.length)).map V ++ [.int .i64 (hd : Int), .int .u64 (m.length : Int)]) ((List.replicate 64 (0 : BitVec 8)).take 56 ++ be8 (8 * m.length)) B 8 64 B w5 hrow5 hB0 (HK.out.grown hg5' hB0)
      (fun i hi => (hrow5.cell (8 + i)).trans (dig_at _ _ _ _ _ (by rw [hl5]; exact hi)))
    have HMIX2 := hid hmix2
    have HG5 := hid hg5'
    clear hmix2 hg5 hrow5 hg5' hl5
    go_wp2_with fail
    refine HMIX2.out.mono ?_
    rintro e w6 ⟨rfl, hg6, hrow6⟩
    have hby := bytes_any (mixed (mixed (mixAll (m.length / 64) hTab m) (marked m R)) ((List.replicate 64 (0 : BitVec 8)).take 56 ++ be8 (8 * m.length))) _ B w6 hrow6
    rw [← HSH.out] at hby
    have HBYT := hid hby
    have HG6 := hid (grown_trans HG5.out hg6)
    clear hby hg6 hrow6
    go_wp2_with fail
    refine HBYT.out.mono ?_
    rintro e w7 ⟨v, rfl, hown, hbel⟩
    go_wp2
    go_ret
    exact ⟨_, rfl, ownsRow_mono hown HG6.out.size, grown_trans HG6.out (grown_below hbel)⟩
  · obtain ⟨w2, hclr0, hg2, hrow2⟩ := clear_rest (mixAll (m.length / 64) hTab m) (R.set hd 128) hd m.length (hd + 1) (64 - (hd + 1)) B w1.drew HROW1.out HR1.out (by omega)
    rw [HMS.out] at hrow2
    rw [show 64 - (hd + 1) = 63 - hd by omega] at hclr0
    have HCLR0 := hid hclr0
    have HROW2 := hid hrow2
    have HG2 := hid (grown_trans (grown_drew HG1.out) hg2)
    have hsl : ∀ w : World, (Instr.sliceAt 135 (.pointer (some ⟨B, 8, none⟩)) (some (.int .i64 ((hd : Int) + 1))) none none).run Tryz.prog w = .ok (.slice (some ⟨B, 8 + (hd + 1), none⟩) (63 - hd) (63 - hd)) w := fun w => by
      have h := slice_rest B (hd + 1) (by omega) w
      rw [show 64 - (hd + 1) = 63 - hd by omega] at h
      exact h
    have hwr : IntKind.i64.wrap ((hd : Int) + 1) = (hd : Int) + 1 := by simp [IntKind.wrap, IntKind.bits, IntKind.signed]; split <;> omega
    clear hclr0 hrow2 hg2 HMS HMF
    refine region_tail 9 (by kernel_rfl) (by kernel_rfl) ?_
    simp only [List.take_succ_cons, List.take_zero, List.drop_succ_cons, List.drop_zero]
    repeat still_step
    refine wpStill_nil ?_
    refine wpList_clear rfl (.tmp 19) 29 rfl _ _ rfl (HCLR0.out _) ?_
    clear hsl hwr ch1
    have ch2 : w2.cell? ⟨B, 72, none⟩ = some (.int .i64 (hd : Int)) := (HROW2.out.cell 72).trans (dig_held _ _ _ _ HML.out)
    by_cases h56 : hd < 56
    · have hsh := sha_short m R HA.out (by rw [HHD.out]; omega)
      have hs' : (hd : Int) < 56 := by omega
      have hput := putSize_any (mixAll (m.length / 64) hTab m) (marked m R) hd m.length B HML.out HLEN.out w2 HROW2.out
      have HPUT := hid hput
      have HSH := hid hsh
      clear hput hsh
      go_wp2_with fail
      refine HPUT.out.mono ?_
      rintro e w3 ⟨rfl, hg3, hrow3⟩
      have hl3 : ((marked m R).take 56 ++ be8 (8 * m.length)).length = 64 := by simp [HML.out, be8]
      have hg3' := grown_trans HG2.out hg3
      have hmix := mix_any (mixAll (m.length / 64) hTab m) (((marked m R).take 56 ++ be8 (8 * m.length)).map V ++ [.int .i64 (hd : Int), .int .u64 (m.length : Int)]) ((marked m R).take 56 ++ be8 (8 * m.length)) B 8 64 B w3 hrow3 hB0 (HK.out.grown hg3' hB0)
        (fun i hi => (hrow3.cell (8 + i)).trans (dig_at _ _ _ _ _ (by rw [hl3]; exact hi)))
      have HMIX := hid hmix
      have HG3 := hid hg3'
      clear hmix hg3 hrow3 hg3' hl3 ch2
      go_wp2_with fail
      refine HMIX.out.mono ?_
      rintro e w4 ⟨rfl, hg4, hrow4⟩
      have hby := bytes_any (mixed (mixAll (m.length / 64) hTab m) ((marked m R).take 56 ++ be8 (8 * m.length))) _ B w4 hrow4
      rw [← HSH.out] at hby
      have HBYT := hid hby
      have HG4 := hid (grown_trans HG3.out hg4)
      clear hby hg4 hrow4
      go_wp2_with fail
      refine HBYT.out.mono ?_
      rintro e w5 ⟨v, rfl, hown, hbel⟩
      go_wp2
      go_ret
      exact ⟨_, rfl, ownsRow_mono hown HG4.out.size, grown_trans HG4.out (grown_below hbel)⟩
    · have hsh := sha_long m R HA.out (by rw [HHD.out]; omega)
      have hs' : (56 : Int) ≤ (hd : Int) := by omega
      have hmix := mix_any (mixAll (m.length / 64) hTab m) ((marked m R).map V ++ [.int .i64 (hd : Int), .int .u64 (m.length : Int)]) (marked m R) B 8 64 B w2 HROW2.out hB0 (HK.out.grown HG2.out hB0)
        (fun i hi => (HROW2.out.cell (8 + i)).trans (dig_at _ _ _ _ _ (by rw [HML.out]; exact hi)))
      have HMIX := hid hmix
      have HSH := hid hsh
      clear hmix hsh
      go_wp2_with fail
      refine HMIX.out.mono ?_
      rintro e w3 ⟨rfl, hg3, hrow3⟩
      obtain ⟨w4, hclr, hg4, hrow4⟩ := clear_rest (mixed (mixAll (m.length / 64) hTab m) (marked m R)) (marked m R) hd m.length 0 64 B w3 hrow3 HML.out (by omega)
      have hput := putSize_any (mixed (mixAll (m.length / 64) hTab m) (marked m R)) (List.replicate 64 0) hd m.length B (by simp) HLEN.out w4 hrow4
      have HCLR := hid hclr
      have HPUT := hid hput
      have HG4 := hid (grown_trans HG2.out (grown_trans hg3 hg4))
      clear hclr hput hg3 hg4 hrow3 hrow4 ch2
      go_wp2_with (refine wpList_clear rfl (.tmp 34) 29 rfl _ _ rfl (HCLR.out _) ?_)
      refine HPUT.out.mono ?_
      rintro e w5 ⟨rfl, hg5, hrow5⟩
      have hl5 : ((List.replicate 64 (0 : BitVec 8)).take 56 ++ be8 (8 * m.length)).length = 64 := by simp [be8]
      have hg5' := grown_trans HG4.out hg5
      have hmix2 := mix_any (mixed (mixAll (m.length / 64) hTab m) (marked m R)) (((List.replicate 64 (0 : BitVec 8)).take 56 ++ be8 (8 * m.length)).map V ++ [.int .i64 (hd : Int), .int .u64 (m.length : Int)]) ((List.replicate 64 (0 : BitVec 8)).take 56 ++ be8 (8 * m.length)) B 8 64 B w5 hrow5 hB0 (HK.out.grown hg5' hB0)
        (fun i hi => (hrow5.cell (8 + i)).trans (dig_at _ _ _ _ _ (by rw [hl5]; exact hi)))
      have HMIX2 := hid hmix2
      have HG5 := hid hg5'
      clear hmix2 hg5 hrow5 hg5' hl5
      go_wp2_with fail
      refine HMIX2.out.mono ?_
      rintro e w6 ⟨rfl, hg6, hrow6⟩
      have hby := bytes_any (mixed (mixed (mixAll (m.length / 64) hTab m) (marked m R)) ((List.replicate 64 (0 : BitVec 8)).take 56 ++ be8 (8 * m.length))) _ B w6 hrow6
      rw [← HSH.out] at hby
      have HBYT := hid hby
      have HG6 := hid (grown_trans HG5.out hg6)
      clear hby hg6 hrow6
      go_wp2_with fail
      refine HBYT.out.mono ?_
      rintro e w7 ⟨v, rfl, hown, hbel⟩
      go_wp2
      go_ret
      exact ⟨_, rfl, ownsRow_mono hown HG6.out.size, grown_trans HG6.out (grown_below hbel)⟩
end Go.Proofs.YtclhcjiblfokaaaGreatDoor
namespace Go.Proofs.YtclhcjiblfokaaaGreatDoor
open Go.RowKit

theorem abs_nil : Abs [] (List.replicate 64 0) := ⟨by simp, by simp⟩
theorem digOf_nil : digOf [] (List.replicate 64 0) = dig0 := rfl
theorem tableAt.lt {w : World} (h : tableAt w) : (0 : Nat) < w.heap.size := block_lt_of_cell (h 0 (by omega))
theorem tableAt.below {w w' : World} {N : Nat} (h : tableAt w) (hg : Below N w w') (hN : (0 : Nat) < N) : tableAt w' := fun t ht => (hg.cell hN).trans (h t ht)
theorem dig0_all : dig0.toArray.all (·.oneCell') = true := by kernel_rfl
theorem digZ_dig0 : digZ.toArray.size = dig0.toArray.size := by kernel_rfl
theorem info_dig0 : (Tryz.prog.info? 137).map (·.size) = some dig0.toArray.size := by rw [dig0_size]; exact info_dig
theorem below_grown {w w' : World} {N B : Nat} (h : w.grownBy w' (some B)) (hN : N ≤ B) (hw : N ≤ w.heap.size) : Below N w w' :=
  ⟨h.os, h.tape, h.output, h.size, fun k hk => h.block k (by omega) (by simp; omega)⟩

end Go.Proofs.YtclhcjiblfokaaaGreatDoor
namespace Go.Proofs.YtclhcjiblfokaaaGreatDoor
open Go.RowKit

end Go.Proofs.YtclhcjiblfokaaaGreatDoor
