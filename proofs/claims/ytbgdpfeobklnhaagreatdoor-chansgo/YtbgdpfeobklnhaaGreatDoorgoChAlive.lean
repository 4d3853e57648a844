/-
  The law's closed fact: a channel begins.
-/
import Derived.Test.YtbgdpfeobklnhaaGreatDoorgoChUse
import Derived.Test.YtbgdpfeobklnhaaGreatDoorgoChAdd
import Derived.Test.YtbgdpfeobklnhaaGreatDoorgoSt9RKit
import Derived.Test.YtbgdpfeobklnhaaGreatDoorgoCoFit
import Derived.Test.YtbgdpfeobklnhaaGreatDoorgoChFol
namespace Go.Proofs.YtbgdpfeobklnhaaGreatDoor
open Go.RowKit

set_option maxRecDepth 100000 in
set_option maxHeartbeats 4000000 in
theorem cinit_any (s : St) (v : Value) (N : Nat) (w : World) (i : Int) (od : Bool) (hv : StV w N v s) (hN : N ≤ w.heap.size) (hfit : s.fits) :
    Calls Tryz.prog 5 #[v, .int .i64 i, .bool od] w fun e w' => Below w.heap.size w w' ∧ ∃ v', e = .returned (.tuple #[v', .int .i64 (addChI s (cinitN s i)), .int .i64 (cinitN s i)]) ∧ HoldsS N w.heap.size w' v' (cinitS s i od) := by
  have HST := hid (fun wx (hx : Below w.heap.size w wx) => cstart_any s v N wx i (hv.below (hx.mono hN)) (Nat.le_trans hN hx.size) hfit)
  have HAD := hid (fun (h0 : cstartN s i = 0) wx (hx : Below w.heap.size w wx) => cadded_any s v N wx ⟨1, od, i, -1, 0, 0, 0⟩ (hv.below (hx.mono hN)) (Nat.le_trans hN hx.size) hfit (wrongS_few (cstartN_ok h0).1))
  have HD := hid (show cinitN s i = if cstartN s i ≠ 0 then cstartN s i else manyChN s from rfl)
  have HSS := hid (show cinitS s i od = addCh s (cinitN s i) ⟨1, od, i, -1, 1, 1, 1⟩ from rfl)
  obtain ⟨o1, c1, o2, c2, o3, c3, o4, c4, o5, c5, o6, c6, o7, c7, rfl, hm⟩ := hv.open
  clear hv hm hfit
  go_enter Tryz.func5, Tryz.ntmps5
  go_upto_region 1 with fail
  refine fbox2 ?_
  intro w0 F0 hs
  clear hs
  obtain ⟨k0, k1, k2, k3, k4, k5, k6, k7, k8, k9⟩ := F0.r0.k10
  go_wp2_with fail
  refine (HST.out _ F0.b).mono ?_
  rintro e w1 ⟨rfl, hb1⟩
  have F := F0.go hb1
  clear hb1 k0 k1 k2 k3 k4 k5 k6 k7 k8 k9 F0
  by_cases hz : cstartN s i = 0
  · have HI := hid (show cinitN s i = manyChN s from HD.out.trans (if_neg (by simp [hz])))
    have HA2 := hid (HAD.out hz)
    rw [hz]
    clear hz
    obtain ⟨k0, k1, k2, k3, k4, k5, k6, k7, k8, k9⟩ := F.r0.k10
    go_wp2_with fail
    refine (HA2.out _ F.b).mono ?_
    rintro e w2 ⟨hb2, v', rfl, hva⟩
    have F2 := F.go hb2
    clear hb2 k0 k1 k2 k3 k4 k5 k6 k7 k8 k9
    obtain ⟨a0, a1, a2, a3, a4, a5, a6, a7, a8, a9, rfl, hon⟩ := hva.now.ten
    have HVA := hid hva
    have HON := hid hon
    clear hva hon
    go_wp2_with (refine F2.store 1 rfl rfl rfl rfl rfl structState rfl HON.out ?_; intro w3 F3 O3)
    refine ret_ctt Tryz.results5 rfl F3.r1 structState rfl ⟨F3.b, _, by rw [HI.out]; rfl, ?_⟩
    rw [HSS.out, HI.out]
    exact (HVA.out.only O3 (by omega) F.r1.lt).lower F.b.size
  · have e0 : (cstartN s i != 0) = true := by simpa using hz
    have HI := hid (show cinitN s i = cstartN s i from HD.out.trans (if_pos hz))
    have HNO := hid (show cinitS s i od = St.none from HSS.out.trans (by rw [HD.out, if_pos hz]; exact if_neg hz))
    have HN0 := hid (show addChI s (cstartN s i) = 0 from if_neg hz)
    clear hz
    generalize cstartN s i = zz at *
    go_wp2_with (refine F.store 1 rfl rfl rfl rfl rfl structState rfl (by simp [Value.oneCell']) ?_; intro wz FZ OZ)
    refine ret_ctt Tryz.results5 rfl FZ.r1 structState rfl ⟨FZ.b, _, by rw [HI.out, HN0.out]; rfl, ?_⟩
    rw [HNO.out]
    exact holdsS_none _ _ _
end Go.Proofs.YtbgdpfeobklnhaaGreatDoor
namespace Go.Proofs.YtbgdpfeobklnhaaGreatDoor
open Go.RowKit

def kn9 : Kn := ⟨1, 1, List.replicate 32 0, List.replicate 32 0⟩
def cl9 : Cl := ⟨⟨#[98]⟩, 9, false, [kn9]⟩
def one9 : St := ⟨⟨#[97]⟩, 1, 1, [cl9], [], [], [], [], [], []⟩
theorem cl9_right : wrongCl cl9 = 0 := (wrongCl_iff cl9).2 ⟨by decide, by decide, by decide, fun k hk => by
  obtain rfl : k = kn9 := by simpa [cl9] using hk
  decide, by simp [cl9, Rising]⟩
theorem one9_right : wrongS one9 = 0 := by
  unfold wrongS
  rw [if_neg (by decide), if_neg (by decide), if_neg (by decide)]
  refine (orN_iff _).2 ?_
  simp only [List.mem_cons, List.not_mem_nil, or_false, forall_eq_or_imp, forall_eq]
  exact ⟨(firstW_iff _ _).2 (fun c hc => by obtain rfl : c = cl9 := (by simpa [one9] using hc); exact cl9_right), rfl, rfl, rfl, rfl, rfl, rfl⟩
theorem one9_fits : one9.fits := ⟨by show (1 : Nat) ≤ _; omega, ⟨by show (1 : Nat) < _; omega, fun c hc => by
  obtain rfl : c = cl9 := by simpa [one9] using hc
  exact ⟨by show (1 : Nat) ≤ _; omega, by show (1 : Nat) < _; omega, fun k hk => by
    obtain rfl : k = kn9 := by simpa [cl9] using hk
    exact ⟨by simp [kn9], by simp [kn9]⟩⟩⟩, by show (0 : Nat) < _; omega, by show (0 : Nat) < _; omega, ⟨by show (0 : Nat) < _; omega, fun _ h => by cases h⟩, ⟨by show (0 : Nat) < _; omega, fun _ h => by cases h⟩, ⟨by show (0 : Nat) < _; omega, fun _ h => by cases h⟩, by show (0 : Nat) < _; omega, fun _ h => by cases h⟩
set_option maxRecDepth 100000 in
set_option maxHeartbeats 4000000 in
theorem one9_any (w : World) : Calls Tryz.prog 38 #[] w fun e w' => Below w.heap.size w w' ∧ ∃ v, e = .returned v ∧ StV w' w'.heap.size v one9 := by
  have hmk : ∀ w : World, (Instr.makeSlice 29 (.int .i64 32) (.int .i64 32)).run Tryz.prog w = .ok (.slice (some ⟨w.heap.size, 0, none⟩) 32 32) (w.alloc (.cells ((List.replicate 32 (0 : BitVec 8)).map V).toArray 5)) := fun _ => by kernel_rfl
  obtain ⟨w0, hw0⟩ : ∃ w0, w.alloc (.cells #[.string ⟨#[]⟩, .int .i64 0, .int .i64 0, .slice none 0 0, .slice none 0 0, .slice none 0 0, .slice none 0 0, .slice none 0 0, .slice none 0 0, .slice none 0 0] 28) = w0 := ⟨_, rfl⟩
  have hsz0 : w0.heap.size = w.heap.size + 1 := by rw [← hw0]; simp
  have hr0 : Row w0 w.heap.size 28 [.string ⟨#[]⟩, .int .i64 0, .int .i64 0, .slice none 0 0, .slice none 0 0, .slice none 0 0, .slice none 0 0, .slice none 0 0, .slice none 0 0, .slice none 0 0] := by rw [← hw0]; exact Row.new _ _ _
  obtain ⟨w1, hw1⟩ : ∃ w1, w0.alloc (.cells ((List.replicate 32 (0 : BitVec 8)).map V).toArray 5) = w1 := ⟨_, rfl⟩
  have hb1 : Below w0.heap.size w0 w1 := by rw [← hw1]; exact (Below.refl _ _).alloc (Nat.le_refl _) _
  have hmk0 := hmk w0
  rw [hw1, hsz0] at hmk0
  have hbw : Below w.heap.size w w1 := by rw [← hw1, ← hw0]; exact ((Below.refl _ _).alloc (Nat.le_refl _) _).alloc (by simp) _
  have hr1 := hr0.below hb1 hr0.lt
  have how : OwnB w1 (w.heap.size + 1) (.slice (some ⟨w.heap.size + 1, 0, none⟩) 32 32) (List.replicate 32 0) :=
    ⟨by simp, .inr ⟨w.heap.size + 1, 32, ((List.replicate 32 (0 : BitVec 8)).map V).toArray, rfl, Nat.le_refl _, by rw [← hw1, ← hsz0]; exact heap_alloc_new _ _, by simp, by unfold maxLen; omega, by simp, by simp⟩⟩
  obtain ⟨w2, hw2⟩ : ∃ w2, (w1.alloc (.cells #[.int .i64 1, .int .i64 1, .slice (some ⟨w.heap.size + 1, 0, none⟩) 32 32, .slice (some ⟨w.heap.size + 1, 0, none⟩) 32 32] 114)).alloc (.cells #[.string ⟨#[98]⟩, .int .i64 9, .bool false, .slice (some ⟨w1.heap.size, 0, none⟩) 1 1] 72) = w2 := ⟨_, rfl⟩
  have hb2 : Below w1.heap.size w1 w2 := by rw [← hw2]; exact ((Below.refl _ _).alloc (Nat.le_refl _) _).alloc (by simp) _
  have hk2 : Row w2 w1.heap.size 114 [.int .i64 1, .int .i64 1, .slice (some ⟨w.heap.size + 1, 0, none⟩) 32 32, .slice (some ⟨w.heap.size + 1, 0, none⟩) 32 32] := by rw [← hw2]; exact (Row.new _ _ _).alloc _
  have hc2 : Row w2 (w1.heap.size + 1) 72 [.string ⟨#[98]⟩, .int .i64 9, .bool false, .slice (some ⟨w1.heap.size, 0, none⟩) 1 1] := by rw [← hw2]; exact Row.newAt _ _ _ _ (by simp)
  have hby := (how.bytes.below hb2).mono hb2.size
  have hks : Knowns w2 w2.heap.size (.slice (some ⟨w1.heap.size, 0, none⟩) 1 1) [kn9] := ⟨[⟨kn9, .slice (some ⟨w.heap.size + 1, 0, none⟩) 32 32, .slice (some ⟨w.heap.size + 1, 0, none⟩) 32 32⟩], rfl, (one_rec hk2).mono (by have := hk2.lt; omega), fun q hq => by obtain rfl := List.mem_singleton.1 hq; exact ⟨hby, hby⟩⟩
  have hcs : Many ClR 4 w2 w2.heap.size (.slice (some ⟨w1.heap.size + 1, 0, none⟩) 1 1) [cl9] := ⟨[[.string ⟨#[98]⟩, .int .i64 9, .bool false, .slice (some ⟨w1.heap.size, 0, none⟩) 1 1]], rfl, (one_rec hc2).mono (by have := hc2.lt; omega), fun i r x hr hx => by
    have hi : i = 0 := by have := (List.getElem?_eq_some_iff.1 hr).1; simp at this; exact this
    subst hi
    obtain rfl : [.string ⟨#[98]⟩, .int .i64 9, .bool false, .slice (some ⟨w1.heap.size, 0, none⟩) 1 1] = r := by simpa using hr
    obtain rfl : cl9 = x := by simpa using hx
    exact ⟨_, rfl, hks⟩⟩
  have HR2 := hid (hr1.below hb2 hr1.lt)
  have HSV := hid (show HoldsS 0 (w.heap.size + 1) w2 (.agg #[.string ⟨#[97]⟩, .int .i64 1, .int .i64 1, .slice (some ⟨w1.heap.size + 1, 0, none⟩) 1 1, .slice none 0 0, .slice none 0 0, .slice none 0 0, .slice none 0 0, .slice none 0 0, .slice none 0 0]) one9 from
    ⟨fun b hb => hb.2, fun w3 h3 hk3 => by
      have hag : ∀ b, w.heap.size + 1 ≤ b → b < w2.heap.size → w3.heap[b]? = w2.heap[b]? := fun b h1 h2 => hk3 b ⟨.inr h1, h2⟩
      have hlt1 := hk2.lt
      have hlt2 := hc2.lt
      have h10 : w.heap.size + 1 < w1.heap.size := by rw [← hw1]; simp; omega
      have hk3' : Row w3 w1.heap.size 114 [.int .i64 1, .int .i64 1, .slice (some ⟨w.heap.size + 1, 0, none⟩) 32 32, .slice (some ⟨w.heap.size + 1, 0, none⟩) 32 32] := (hag _ (by omega) hlt1).trans hk2
      have hc3' : Row w3 (w1.heap.size + 1) 72 [.string ⟨#[98]⟩, .int .i64 9, .bool false, .slice (some ⟨w1.heap.size, 0, none⟩) 1 1] := (hag _ (by omega) hlt2).trans hc2
      have hb3' : OwnB w3 (w.heap.size + 1) (.slice (some ⟨w.heap.size + 1, 0, none⟩) 32 32) (List.replicate 32 0) := ownsRow_at (show w2.ownsRow _ _ _ _ _ _ from ownsRow_belowR how hb2) (fun g hg => by obtain rfl : w.heap.size + 1 = g := (by simpa [Value.ownBlock] using hg); exact hag _ (by omega) (by omega))
      have hsz3 := h3.size
      have hks3 : Knowns w3 w3.heap.size (.slice (some ⟨w1.heap.size, 0, none⟩) 1 1) [kn9] := ⟨[⟨kn9, .slice (some ⟨w.heap.size + 1, 0, none⟩) 32 32, .slice (some ⟨w.heap.size + 1, 0, none⟩) 32 32⟩], rfl, (one_rec hk3').mono (by omega), fun q hq => by obtain rfl := List.mem_singleton.1 hq; exact ⟨hb3'.bytes, hb3'.bytes⟩⟩
      have hcs3 : Many ClR 4 w3 w3.heap.size (.slice (some ⟨w1.heap.size + 1, 0, none⟩) 1 1) [cl9] := ⟨[[.string ⟨#[98]⟩, .int .i64 9, .bool false, .slice (some ⟨w1.heap.size, 0, none⟩) 1 1]], rfl, (one_rec hc3').mono (by omega), fun i r x hr hx => by
        have hi : i = 0 := by have := (List.getElem?_eq_some_iff.1 hr).1; simp at this; exact this
        subst hi
        obtain rfl : [.string ⟨#[98]⟩, .int .i64 9, .bool false, .slice (some ⟨w1.heap.size, 0, none⟩) 1 1] = r := by simpa using hr
        obtain rfl : cl9 = x := by simpa using hx
        exact ⟨_, rfl, hks3⟩⟩
      exact ⟨_, _, _, _, _, _, _, rfl, hcs3, Many.nil _ _ _ _, Many.nil _ _ _ _, Many.nil _ _ _ _, Many.nil _ _ _ _, Many.nil _ _ _ _, Many.nil _ _ _ _⟩⟩)
  have HB2 := hid (hbw.trans (hb2.mono hbw.size))
  have HIZ := hid (show (Tryz.prog.info? 28).map (·.size) = some 10 by kernel_rfl)
  obtain ⟨w3, hw3⟩ : ∃ w3, w2.setRow (w.heap.size) #[.string ⟨#[97]⟩, .int .i64 1, .int .i64 1, .slice (some ⟨w1.heap.size + 1, 0, none⟩) 1 1, .slice none 0 0, .slice none 0 0, .slice none 0 0, .slice none 0 0, .slice none 0 0, .slice none 0 0] = w3 := ⟨_, rfl⟩
  have HRS3 := hid (show Row w3 (w.heap.size) 28 [.string ⟨#[97]⟩, .int .i64 1, .int .i64 1, .slice (some ⟨w1.heap.size + 1, 0, none⟩) 1 1, .slice none 0 0, .slice none 0 0, .slice none 0 0, .slice none 0 0, .slice none 0 0, .slice none 0 0] by rw [← hw3]; exact Row.setRow HR2.out _)
  have HHZ3 := hid (show w2.heap[w.heap.size]? = some (.cells #[.string ⟨#[]⟩, .int .i64 0, .int .i64 0, .slice none 0 0, .slice none 0 0, .slice none 0 0, .slice none 0 0, .slice none 0 0, .slice none 0 0, .slice none 0 0] 28 (0, 0)) from HR2.out)
  have HON3 := hid (show (#[.string ⟨#[97]⟩, .int .i64 1, .int .i64 1, .slice (some ⟨w1.heap.size + 1, 0, none⟩) 1 1, .slice none 0 0, .slice none 0 0, .slice none 0 0, .slice none 0 0, .slice none 0 0, .slice none 0 0] : Array Value).all (·.oneCell') = true by simp [Value.oneCell'])
  have HSW3 := hid hw3
  have HB3 := hid (show Below w.heap.size w w3 by rw [← hw3]; exact setRow_below HB2.out (Nat.le_refl _) _)
  have HS3 := hid (show StV w3 w3.heap.size (.agg #[.string ⟨#[97]⟩, .int .i64 1, .int .i64 1, .slice (some ⟨w1.heap.size + 1, 0, none⟩) 1 1, .slice none 0 0, .slice none 0 0, .slice none 0 0, .slice none 0 0, .slice none 0 0, .slice none 0 0]) one9 by rw [← hw3]; exact (HSV.out.row (Nat.zero_le _) (by omega) _).now)
  have HW0 := hid hw0
  have HW2 := hid hw2
  clear hw0 hw1 hb1 hr0 hsz0 hmk hbw hr1 how hw2 hb2 hk2 hc2 hby hks hcs hw3
  go_enter Tryz.func38, Tryz.ntmps38
  go_wp2_with fail
  rw [HW0.out, hmk0]
  go_wp2_with (first | (refine wpList_store_row rfl 28 (.tmp 0) (.tmp 9) rfl (w.heap.size) #[.string ⟨#[97]⟩, .int .i64 1, .int .i64 1, .slice (some ⟨w1.heap.size + 1, 0, none⟩) 1 1, .slice none 0 0, .slice none 0 0, .slice none 0 0, .slice none 0 0, .slice none 0 0, .slice none 0 0] rfl rfl 28 #[.string ⟨#[]⟩, .int .i64 0, .int .i64 0, .slice none 0 0, .slice none 0 0, .slice none 0 0, .slice none 0 0, .slice none 0 0, .slice none 0 0, .slice none 0 0] (by rw [HW2.out]; exact HHZ3.out) HIZ.out rfl HON3.out ?_; rw [HW2.out, HSW3.out]))
  have y0 := HRS3.out.cell 0
  simp at y0
  have y1 := HRS3.out.cell 1
  simp at y1
  have y2 := HRS3.out.cell 2
  simp at y2
  have y3 := HRS3.out.cell 3
  simp at y3
  have y4 := HRS3.out.cell 4
  simp at y4
  have y5 := HRS3.out.cell 5
  simp at y5
  have y6 := HRS3.out.cell 6
  simp at y6
  have y7 := HRS3.out.cell 7
  simp at y7
  have y8 := HRS3.out.cell 8
  simp at y8
  have y9 := HRS3.out.cell 9
  simp at y9
  exact bodyPost_ret (v := .agg #[.string ⟨#[97]⟩, .int .i64 1, .int .i64 1, .slice (some ⟨w1.heap.size + 1, 0, none⟩) 1 1, .slice none 0 0, .slice none 0 0, .slice none 0 0, .slice none 0 0, .slice none 0 0, .slice none 0 0]) (by simp [results, Tryz.results38, go_sem, y0, y1, y2, y3, y4, y5, y6, y7, y8, y9]) rfl ⟨HB3.out, _, rfl, HS3.out⟩
def oneC : St := { one9 with conns := [⟨3, 0, 0, 0⟩] }
theorem oneC_right : wrongS oneC = 0 := wrongS_more one9_right (by decide) (fun c hc => by obtain rfl : c = ⟨3, 0, 0, 0⟩ := (by simpa using hc); decide)
theorem oneC_fits : oneC.fits := conns_fits one9_fits (by decide)
theorem oneC_start : cstartN oneC 0 = 0 := by
  unfold cstartN
  rw [if_neg (by simp [oneC_right])]
  decide
theorem oneC_init : cinitN oneC 0 = 0 := by
  unfold cinitN
  rw [if_neg (by simp [oneC_start])]
  decide
theorem oneC_state : cinitS oneC 0 true = { oneC with chans := [⟨1, true, 0, -1, 1, 1, 1⟩] } := by
  unfold cinitS addCh
  rw [oneC_init, if_pos rfl]
  rfl
set_option maxRecDepth 100000 in
set_option maxHeartbeats 4000000 in
theorem alive10_any (w : World) : Calls Tryz.prog 13 #[] w fun e w' => e = .returned (.bool true) ∧ Below w.heap.size w w' := by
  go_enter Tryz.func13, Tryz.ntmps13
  go_wp2_with fail
  refine (one9_any w).mono ?_
  rintro e w1 ⟨hb1, v, rfl, hsv⟩
  obtain ⟨o1, c1, o2, c2, o3, c3, o4, c4, o5, c5, o6, c6, o7, c7, rfl, hm⟩ := hsv.open
  have HM := hid hm
  have HB1 := hid hb1
  clear hb1 hsv hm
  go_upto_region 2 with (refine storeNew rfl rfl rfl rfl structState rfl (by simp [Value.oneCell']) ?_; intro w3 hr3 hb3)
  obtain ⟨w4, hw4⟩ : ∃ w4, (w3.setCell ⟨w1.heap.size, 4, none⟩ (.slice (some ⟨w3.heap.size, 0, none⟩) 1 1)).alloc (.cells #[.int .i64 3, .int .i64 0, .int .i64 0, .int .i64 0] 60) = w4 := ⟨_, rfl⟩
  have hlt := hr3.lt
  have hb4 : Below w1.heap.size w1 w4 := by rw [← hw4]; exact (hb3.setCell (Nat.le_refl _) _).alloc (by simp [World.setCell]; exact hb3.size) _
  have hr4 : Row w4 w1.heap.size 28 [.string one9.name, .int .i64 one9.height, .int .i64 one9.time, .slice o1 one9.clients.length c1, .slice (some ⟨w3.heap.size, 0, none⟩) 1 1, .slice o3 one9.chans.length c3, .slice o4 one9.sent.length c4, .slice o5 one9.got.length c5, .slice o6 one9.acks.length c6, .slice o7 one9.purses.length c7] := by rw [← hw4]; exact (hr3.set 4 _).alloc _
  have hc4 : Row w4 w3.heap.size 60 [.int .i64 3, .int .i64 0, .int .i64 0, .int .i64 0] := by rw [← hw4]; exact Row.newAt _ _ _ _ (by simp [World.setCell])
  have hm4 := (HM.out.below hb4).mono hb4.size
  have hcs : Many CnR 4 w4 w4.heap.size (.slice (some ⟨w3.heap.size, 0, none⟩) 1 1) [⟨3, 0, 0, 0⟩] := ⟨[[.int .i64 3, .int .i64 0, .int .i64 0, .int .i64 0]], rfl, (one_rec hc4).mono (by have := hc4.lt; omega), fun i r x hr hx => by
    have hi : i = 0 := by have := (List.getElem?_eq_some_iff.1 hr).1; simp at this; exact this
    subst hi
    obtain rfl : [.int .i64 3, .int .i64 0, .int .i64 0, .int .i64 0] = r := by simpa using hr
    obtain rfl : (⟨3, 0, 0, 0⟩ : Cn) = x := by simpa using hx
    rfl⟩
  have hst : StV w4 w4.heap.size (.agg #[.string one9.name, .int .i64 one9.height, .int .i64 one9.time, .slice o1 one9.clients.length c1, .slice (some ⟨w3.heap.size, 0, none⟩) 1 1, .slice o3 one9.chans.length c3, .slice o4 one9.sent.length c4, .slice o5 one9.got.length c5, .slice o6 one9.acks.length c6, .slice o7 one9.purses.length c7]) oneC := ⟨_, _, _, _, _, _, _, rfl, ⟨hm4.clients, hcs, hm4.chans, hm4.sent, hm4.got, hm4.acks, hm4.purses⟩⟩
  have HIN := hid (cinit_any oneC _ w4.heap.size w4 0 true hst (Nat.le_refl _) oneC_fits)
  rw [oneC_init, oneC_state, show addChI oneC 0 = 0 from rfl] at HIN
  have HB4 := hid (HB1.out.trans (hb4.mono HB1.out.size))
  have HR4 := hid hr4
  have HW4 := hid hw4
  obtain ⟨t, ht⟩ : ∃ t : St, { oneC with chans := [⟨1, true, 0, -1, 1, 1, 1⟩] } = t := ⟨_, rfl⟩
  have HTC := hid (show t.chans = [⟨1, true, 0, -1, 1, 1, 1⟩] by rw [← ht])
  rw [ht] at HIN
  have k4 := hr3.k10.2.2.2.2.1
  have z4 := hr3.frozen 4
  have hne : w1.heap.size ≠ w3.heap.size := by omega
  clear ht hb4 hr4 hc4 hm4 hcs hst hw4 hb3
  go_upto_region 3 with fail
  refine at_world HW4.out ?_
  clear k4 z4 hne hlt hr3
  obtain ⟨k0, k1, k2, k3, k4, k5, k6, k7, k8, k9⟩ := HR4.out.k10
  go_wp2_with fail
  refine HIN.out.mono ?_
  rintro e w5 ⟨hb5, va, rfl, hva⟩
  obtain ⟨t1, u1, t2, u2, t3, u3, t4, u4, t5, u5, t6, u6, t7, u7, rfl, hm⟩ := hva.now.open
  have HB5 := hid (HB4.out.trans (hb5.mono HB4.out.size))
  have hlen : t.chans.length = 1 := by rw [HTC.out]; rfl
  have HM5 := hid hm
  clear hb5 hva hm k0 k1 k2 k3 k4 k5 k6 k7 k8 k9
  go_upto_region 4 with (refine storeNew rfl rfl rfl rfl structState rfl (by simp [Value.oneCell']) ?_; intro w7 hr7 hb7)
  have HB7 := hid (HB5.out.trans (hb7.mono HB5.out.size))
  obtain ⟨b, f, rfl, hbN, x0, x1, -⟩ := ((HM5.out.below hb7).mono hb7.size).chans.chan (k := 0) (x := ⟨1, true, 0, -1, 1, 1, 1⟩) rfl (by rw [HTC.out]; rfl)
  obtain ⟨k0, k1, k2, k3, k4, k5, k6, k7, k8, k9⟩ := hr7.k10
  simp only [Nat.zero_mul, Nat.add_zero] at x1
  clear x0 hb7 hlen
  go_wp2
  go_ret
  exact ⟨rfl, HB7.out⟩
end Go.Proofs.YtbgdpfeobklnhaaGreatDoor
