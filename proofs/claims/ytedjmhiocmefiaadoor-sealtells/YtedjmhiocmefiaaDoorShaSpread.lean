/-
  What spread answers: the schedule's 64 words, in new memory.
-/
import Derived.Test.YtedjmhiocmefiaaDoorShaPure
import Derived.Test.YtedjmhiocmefiaaDoorShaMem
import Derived.BigRegion
import Derived.BigQuiet
import Derived.StillTailTactics
namespace Go.Proofs.YtedjmhiocmefiaaDoor
open Go.RowKit
attribute [local go_sem] u_xor u_and u_or u_not u_add u_add' u_andNot u_shl24 u_shl16 u_shl8 wrap_b8
theorem spread_rel (blk : List (BitVec 8)) (k N : Nat) (w wr : World) (x : BitVec 32) (hx : x = wNext blk k (wTo blk k)) (hk : k < 64)
    (h0 : Row wr N 64 (rowU 64 [])) (h1 : Row wr (N + 1) 64 (rowU 64 (wTo blk k))) (hb : Below N w wr) :
    Row (wr.setCell ⟨N + 1, k, none⟩ (.int .u32 (u x))).drew N 64 (rowU 64 []) ∧ Row (wr.setCell ⟨N + 1, k, none⟩ (.int .u32 (u x))).drew (N + 1) 64 (rowU 64 (wTo blk (k + 1))) ∧
      Below N w (wr.setCell ⟨N + 1, k, none⟩ (.int .u32 (u x))).drew := by
  refine ⟨(h0.other _ (by simp)).drew, ?_, (hb.setCell (by simp) _).drew⟩
  have h := h1.set k (U x)
  have e := rowU_set 64 (wTo blk k) x (by rw [wTo_length]; omega)
  rw [wTo_length] at e
  rw [e] at h
  unfold wTo
  rw [← hx]
  exact h.drew
set_option maxRecDepth 100000 in
set_option maxHeartbeats 1000000 in
theorem spread_any (blk : List (BitVec 8)) (b off cap : Nat) (w : World)
    (hc : ∀ i, i < 64 → w.cell? ⟨b, off + i, none⟩ = some (.int .u8 (b8 (blk.getD i 0)))) :
    Calls Tryd.prog 49 #[.slice (some ⟨b, off, none⟩) 64 cap] w fun e w' => e = .returned (.agg ((wTo blk 64).map U).toArray) ∧ Below w.heap.size w w' := by
  go_enter Tryd.func49, Tryd.ntmps49
  go_wp2
  go_loopw [7] (fun i wr => ∃ k : Nat, k ≤ 16 ∧ i = .int .i64 k ∧ Row wr w.heap.size 64 (rowU 64 []) ∧ Row wr (w.heap.size + 1) 64 (rowU 64 (wTo blk k)) ∧ Below w.heap.size w wr)
    (fun i _ => 16 - (intOf i).toNat)
  case atStart => 
    refine ⟨0, by omega, rfl, ?_, ?_, ?_⟩
    · exact (Row.new w 64 (rowU 64 [])).alloc _
    · exact Row.newAt _ 64 (rowU 64 []) _ (by simp)
    · exact ((Below.refl _ _).alloc (Nat.le_refl _) _).alloc (by simp) _
  case round =>
    obtain ⟨k, hk, rfl, h0, h1, hb⟩ := hrel
    have hbl : b < w.heap.size := block_lt_of_cell (hc 0 (by omega))
    by_cases hlt : k < 16
    · have c0 : wr.cell? ⟨b, off + 4 * k, none⟩ = some (.int .u8 (b8 (blk.getD (4 * k) 0))) := (hb.cell hbl).trans (hc (4 * k) (by omega))
      have c1 : wr.cell? ⟨b, off + (4 * k + 1), none⟩ = some (.int .u8 (b8 (blk.getD (4 * k + 1) 0))) := (hb.cell hbl).trans (hc (4 * k + 1) (by omega))
      have c2 : wr.cell? ⟨b, off + (4 * k + 2), none⟩ = some (.int .u8 (b8 (blk.getD (4 * k + 2) 0))) := (hb.cell hbl).trans (hc (4 * k + 2) (by omega))
      have c3 : wr.cell? ⟨b, off + (4 * k + 3), none⟩ = some (.int .u8 (b8 (blk.getD (4 * k + 3) 0))) := (hb.cell hbl).trans (hc (4 * k + 3) (by omega))
      obtain ⟨v, hv⟩ : ∃ v, wr.cell? ⟨w.heap.size + 1, k, none⟩ = some v := by rw [h1.cell]; exact rowU_some _ _ _ (by rw [wTo_length]; omega) (by omega)
      have hf : wr.frozen? ⟨w.heap.size + 1, k, none⟩ = false := h1.frozen k
      have e1 : (4 * (k : Int) + 1).toNat = 4 * k + 1 := by omega
      have e2 : (4 * (k : Int) + 2).toNat = 4 * k + 2 := by omega
      have e3 : (4 * (k : Int) + 3).toNat = 4 * k + 3 := by omega
      have e0 : (4 * (k : Int)).toNat = 4 * k := by omega
      have hlt' : (k : Int) < 16 := by omega
      have H0 : Hid _ := h0
      have H1 : Hid _ := h1
      have HB : Hid _ := hb
      clear h0 h1 hb hc
      go_wp2
      go_region
      go_wp2
      go_roundw
      case rel =>
        exact ⟨k + 1, by omega, by go_num, spread_rel blk k _ w wr _ (by unfold wNext; rw [if_pos hlt]; rfl) (by omega) H0.out H1.out HB.out⟩
      case measure => simp [intOf]; omega
    · have hk16 : k = 16 := by omega
      subst hk16
      clear hc
      have H0 : Hid _ := h0
      have H1 : Hid _ := h1
      have HB : Hid _ := hb
      clear h0 h1 hb
      go_wp2
      go_loopw [6] (fun i wr => ∃ k : Nat, 16 ≤ k ∧ k ≤ 64 ∧ i = .int .i64 k ∧ Row wr w.heap.size 64 (rowU 64 []) ∧ Row wr (w.heap.size + 1) 64 (rowU 64 (wTo blk k)) ∧ Below w.heap.size w wr)
        (fun i _ => 64 - (intOf i).toNat)
      case atStart => exact ⟨16, by omega, by omega, rfl, H0.out, H1.out, HB.out⟩
      case round =>
        clear H0 H1 HB
        rename_i wr2
        obtain ⟨k, hk0, hk, rfl, h0, h1, hb⟩ := hrel
        by_cases hlt : k < 64
        · have hl := wTo_length blk k
          have e2 : ((k : Int) - 2).toNat = k - 2 := by omega
          have e7 : ((k : Int) - 7).toNat = k - 7 := by omega
          have e15 : ((k : Int) - 15).toNat = k - 15 := by omega
          have e16 : ((k : Int) - 16).toNat = k - 16 := by omega
          have hlt' : (k : Int) < 64 := by omega
          have c2 : wr.cell? ⟨w.heap.size + 1, k - 2, none⟩ = some (.int .u32 (u ((wTo blk k).getD (k - 2) 0))) := (h1.cell _).trans (rowU_get _ _ _ (by omega))
          have c7 : wr.cell? ⟨w.heap.size + 1, k - 7, none⟩ = some (.int .u32 (u ((wTo blk k).getD (k - 7) 0))) := (h1.cell _).trans (rowU_get _ _ _ (by omega))
          have c15 : wr.cell? ⟨w.heap.size + 1, k - 15, none⟩ = some (.int .u32 (u ((wTo blk k).getD (k - 15) 0))) := (h1.cell _).trans (rowU_get _ _ _ (by omega))
          have c16 : wr.cell? ⟨w.heap.size + 1, k - 16, none⟩ = some (.int .u32 (u ((wTo blk k).getD (k - 16) 0))) := (h1.cell _).trans (rowU_get _ _ _ (by omega))
          obtain ⟨v, hv⟩ : ∃ v, wr.cell? ⟨w.heap.size + 1, k, none⟩ = some v := by rw [h1.cell]; exact rowU_some _ _ _ (by omega) (by omega)
          have hf : wr.frozen? ⟨w.heap.size + 1, k, none⟩ = false := h1.frozen k
          have H0 : Hid _ := h0
          have H1 : Hid _ := h1
          have HB : Hid _ := hb
          have HX : Hid (sS1 ((wTo blk k).getD (k - 2) 0) + (wTo blk k).getD (k - 7) 0 + sS0 ((wTo blk k).getD (k - 15) 0) + (wTo blk k).getD (k - 16) 0 = wNext blk k (wTo blk k)) := by
            show _ = _; unfold wNext; rw [if_neg (by omega)]
          clear h0 h1 hb hl
          generalize (wTo blk k).getD (k - 2) 0 = x2 at *
          generalize (wTo blk k).getD (k - 7) 0 = x7 at *
          generalize (wTo blk k).getD (k - 15) 0 = x15 at *
          generalize (wTo blk k).getD (k - 16) 0 = x16 at *
          have g2 : ((k : Int) < 2) = False := eq_false (by omega)
          have g7 : ((k : Int) < 7) = False := eq_false (by omega)
          have g15 : ((k : Int) < 15) = False := eq_false (by omega)
          have g16 : ((k : Int) < 16) = False := eq_false (by omega)
          have r2 : IntKind.i64.wrap ((k : Int) - 2) = (k : Int) - 2 := by simp [IntKind.wrap, IntKind.bits, IntKind.signed]; split <;> omega
          have d2 : ¬ k - 2 = k := by omega
          have z2 : (0 : Int) ≤ (k : Int) - 2 := by omega
          have i2 : (2 : Int) ≤ (k : Int) := by omega
          have l2 : (k : Int) - 2 < 64 := by omega
          have r7 : IntKind.i64.wrap ((k : Int) - 7) = (k : Int) - 7 := by simp [IntKind.wrap, IntKind.bits, IntKind.signed]; split <;> omega
          have d7 : ¬ k - 7 = k := by omega
          have z7 : (0 : Int) ≤ (k : Int) - 7 := by omega
          have i7 : (7 : Int) ≤ (k : Int) := by omega
          have l7 : (k : Int) - 7 < 64 := by omega
          have r15 : IntKind.i64.wrap ((k : Int) - 15) = (k : Int) - 15 := by simp [IntKind.wrap, IntKind.bits, IntKind.signed]; split <;> omega
          have d15 : ¬ k - 15 = k := by omega
          have z15 : (0 : Int) ≤ (k : Int) - 15 := by omega
          have i15 : (15 : Int) ≤ (k : Int) := by omega
          have l15 : (k : Int) - 15 < 64 := by omega
          have r16 : IntKind.i64.wrap ((k : Int) - 16) = (k : Int) - 16 := by simp [IntKind.wrap, IntKind.bits, IntKind.signed]; split <;> omega
          have d16 : ¬ k - 16 = k := by omega
          have z16 : (0 : Int) ≤ (k : Int) - 16 := by omega
          have i16 : (16 : Int) ≤ (k : Int) := by omega
          have l16 : (k : Int) - 16 < 64 := by omega
          go_wp2_with fail
          refine region_tail 22 (by kernel_rfl) (by kernel_rfl) ?_
          simp only [List.take_succ_cons, List.take_zero, List.drop_succ_cons, List.drop_zero]
          repeat still_step
          still_call (sS1_any _ _)
          repeat still_step
          still_call (sS0_any _ _)
          repeat still_step
          refine wpStill_nil ?_
          go_wp2
          go_roundw
          case rel =>
            (repeat apply Exists.intro)
            exact ⟨⟨k + 1, by omega, by omega, by go_num, spread_rel blk k _ w wr _ HX.out hlt H0.out H1.out HB.out⟩, rfl⟩
          case measure => simp [intOf]; omega
        · have hk64 : k = 64 := by omega
          subst hk64
          have hsz : ((wTo blk 64).map U).toArray.size = 64 := by simp [wTo_length]
          have hrow : rowU 64 (wTo blk 64) = (wTo blk 64).map U := by
            have := rowU_full (wTo blk 64); rwa [wTo_length] at this
          rw [hrow] at h1
          have hone : ((wTo blk 64).map U).toArray.all (·.oneCell') = true := by simp [U, Value.oneCell']
          unfold Row at h0 h1
          have hold : (rowU 64 []).toArray.size = ((wTo blk 64).map U).toArray.size := by rw [hsz]; rfl
          generalize (rowU 64 []).toArray = zs at *
          have H0 : Hid _ := h0
          have H1 : Hid _ := h1
          have HB : Hid _ := hb
          have HO : Hid _ := hold
          clear h0 h1 hb hold
          have hi : (Tryd.prog.info? 64).map (·.size) = some ((wTo blk 64).map U).toArray.size := by rw [hsz]; kernel_rfl
          generalize hcs : ((wTo blk 64).map U).toArray = cs at *
          have HC : Hid _ := hcs
          clear hcs
          have HS : Hid _ := hsz
          have HI : Hid _ := hi
          clear hsz hi hrow
          go_wp2_with (first
            | (refine wpList_load_row rfl 64 _ rfl (w.heap.size + 1) rfl 64 cs (0, 0) _ H1.out Tryd.underlying64 rfl HI.out ?_)
            | (refine wpList_store_row rfl 64 _ _ rfl w.heap.size cs rfl rfl 64 zs H0.out HI.out HO.out hone ?_))
          have hg2 := setRow_heap wr w.heap.size zs cs 64 (0, 0) H0.out
          refine bodyPost_ret (v := .agg cs) (results_cell_row Tryd.results49 _ _ w.heap.size 64 cs (0, 0) (.array 64 40) ?_ hg2 Tryd.underlying64 rfl HI.out) rfl ⟨by rw [HC.out], ?_⟩
          · rfl
          · exact HB.out.trans ⟨rfl, rfl, rfl, by simp, fun k hk => setRow_other _ _ _ _ (by omega)⟩
end Go.Proofs.YtedjmhiocmefiaaDoor
