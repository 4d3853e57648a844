/-
  PacketNumbers: what numbers come of sending and receiving; its drawn regions.
-/
import Derived.Test.YtclhcjiblfokaaaGreatDoorpnPkSend
import Derived.Test.YtclhcjiblfokaaaGreatDoorpnCoFit
import Derived.Test.YtclhcjiblfokaaaGreatDoorpnPkMath
import Derived.Test.YtclhcjiblfokaaaGreatDoorpnChFol
import Derived.Test.YtclhcjiblfokaaaGreatDoorpnCoMath
import Derived.Test.YtclhcjiblfokaaaGreatDoorpnPkRecv
import Derived.Test.YtclhcjiblfokaaaGreatDoorpnMkIns
import Derived.Test.YtclhcjiblfokaaaGreatDoorpnBookRow
import Derived.Test.YtclhcjiblfokaaaGreatDoorpnPkKey
import Derived.Test.YtclhcjiblfokaaaGreatDoorpnClShown
namespace Go.Proofs.YtclhcjiblfokaaaGreatDoor
open Go.RowKit

def kn9 : Kn := ⟨1, 1, List.replicate 32 0, List.replicate 32 0⟩
def cl9 : Cl := ⟨⟨#[98]⟩, 9, false, [kn9]⟩
def one9 : St := ⟨⟨#[97]⟩, 1, 1, [cl9], [], [], [], [], [], []⟩
theorem cl9_right : wrongCl cl9 = 0 := (wrongCl_iff cl9).2 ⟨by decide, by decide, by decide, fun k hk => by
  obtain rfl : k = kn9 := by simpa [cl9] using hk
  decide, by simp [cl9, Rising]⟩
theorem one9_right : wrongS one9 = 0 := by
  unfold wrongS
  rw [if_neg (by decide), if_neg (by decide), if_neg (by decide)]
  refine (orN_iff _).2 ?_
  simp only [List.mem_cons, List.not_mem_nil, or_false, forall_eq_or_imp, forall_eq]
  exact ⟨(firstW_iff _ _).2 (fun c hc => by obtain rfl : c = cl9 := (by simpa [one9] using hc); exact cl9_right), rfl, rfl, rfl, rfl, rfl, rfl⟩
theorem one9_fits : one9.fits := ⟨by show (1 : Nat) ≤ _; omega, ⟨by show (1 : Nat) < _; omega, fun c hc => by
  obtain rfl : c = cl9 := by simpa [one9] using hc
  exact ⟨by show (1 : Nat) ≤ _; omega, by show (1 : Nat) < _; omega, fun k hk => by
    obtain rfl : k = kn9 := by simpa [cl9] using hk
    exact ⟨by simp [kn9], by simp [kn9]⟩⟩⟩, by show (0 : Nat) < _; omega, by show (0 : Nat) < _; omega, ⟨by show (0 : Nat) < _; omega, fun _ h => by cases h⟩, ⟨by show (0 : Nat) < _; omega, fun _ h => by cases h⟩, ⟨by show (0 : Nat) < _; omega, fun _ h => by cases h⟩, by show (0 : Nat) < _; omega, fun _ h => by cases h⟩
set_option maxRecDepth 100000 in
set_option maxHeartbeats 4000000 in
theorem one9_any (w : World) : Calls Tryz.prog 112 #[] w fun e w' => Below w.heap.size w w' ∧ ∃ v, e = .returned v ∧ HoldsS 0 w.heap.size w' v one9 := by
  have hmk : ∀ w : World, (Instr.makeSlice 29 (.int .i64 32) (.int .i64 32)).run Tryz.prog w = .ok (.slice (some ⟨w.heap.size, 0, none⟩) 32 32) (w.alloc (.cells ((List.replicate 32 (0 : BitVec 8)).map V).toArray 5)) := fun _ => by kernel_rfl
  obtain ⟨w0, hw0⟩ : ∃ w0, w.alloc (.cells #[.string ⟨#[]⟩, .int .i64 0, .int .i64 0, .slice none 0 0, .slice none 0 0, .slice none 0 0, .slice none 0 0, .slice none 0 0, .slice none 0 0, .slice none 0 0] 28) = w0 := ⟨_, rfl⟩
  have hsz0 : w0.heap.size = w.heap.size + 1 := by rw [← hw0]; simp
  have hr0 : Row w0 w.heap.size 28 [.string ⟨#[]⟩, .int .i64 0, .int .i64 0, .slice none 0 0, .slice none 0 0, .slice none 0 0, .slice none 0 0, .slice none 0 0, .slice none 0 0, .slice none 0 0] := by rw [← hw0]; exact Row.new _ _ _
  obtain ⟨w1, hw1⟩ : ∃ w1, w0.alloc (.cells ((List.replicate 32 (0 : BitVec 8)).map V).toArray 5) = w1 := ⟨_, rfl⟩
  have hb1 : Below w0.heap.size w0 w1 := by rw [← hw1]; exact (Below.refl _ _).alloc (Nat.le_refl _) _
  have hmk0 := hmk w0
  rw [hw1, hsz0] at hmk0
  have hbw : Below w.heap.size w w1 := by rw [← hw1, ← hw0]; exact ((Below.refl _ _).alloc (Nat.le_refl _) _).alloc (by simp) _
  have hr1 := hr0.below hb1 hr0.lt
  have how : OwnB w1 (w.heap.size + 1) (.slice (some ⟨w.heap.size + 1, 0, none⟩) 32 32) (List.replicate 32 0) :=
    ⟨by simp, .inr ⟨w.heap.size + 1, 32, ((List.replicate 32 (0 : BitVec 8)).map V).toArray, rfl, Nat.le_refl _, by rw [← hw1, ← hsz0]; exact heap_alloc_new _ _, by simp, by unfold maxLen; omega, by simp, by simp⟩⟩
  obtain ⟨w2, hw2⟩ : ∃ w2, (w1.alloc (.cells #[.int .i64 1, .int .i64 1, .slice (some ⟨w.heap.size + 1, 0, none⟩) 32 32, .slice (some ⟨w.heap.size + 1, 0, none⟩) 32 32] 93)).alloc (.cells #[.string ⟨#[98]⟩, .int .i64 9, .bool false, .slice (some ⟨w1.heap.size, 0, none⟩) 1 1] 79) = w2 := ⟨_, rfl⟩
  have hb2 : Below w1.heap.size w1 w2 := by rw [← hw2]; exact ((Below.refl _ _).alloc (Nat.le_refl _) _).alloc (by simp) _
  have hk2 : Row w2 w1.heap.size 93 [.int .i64 1, .int .i64 1, .slice (some ⟨w.heap.size + 1, 0, none⟩) 32 32, .slice (some ⟨w.heap.size + 1, 0, none⟩) 32 32] := by rw [← hw2]; exact (Row.new _ _ _).alloc _
  have hc2 : Row w2 (w1.heap.size + 1) 79 [.string ⟨#[98]⟩, .int .i64 9, .bool false, .slice (some ⟨w1.heap.size, 0, none⟩) 1 1] := by rw [← hw2]; exact Row.newAt _ _ _ _ (by simp)
  have hby := (how.bytes.below hb2).mono hb2.size
  have hks : Knowns w2 w2.heap.size (.slice (some ⟨w1.heap.size, 0, none⟩) 1 1) [kn9] := ⟨[⟨kn9, .slice (some ⟨w.heap.size + 1, 0, none⟩) 32 32, .slice (some ⟨w.heap.size + 1, 0, none⟩) 32 32⟩], rfl, (one_rec hk2).mono (by have := hk2.lt; omega), fun q hq => by obtain rfl := List.mem_singleton.1 hq; exact ⟨hby, hby⟩⟩
  have hcs : Many ClR 4 w2 w2.heap.size (.slice (some ⟨w1.heap.size + 1, 0, none⟩) 1 1) [cl9] := ⟨[[.string ⟨#[98]⟩, .int .i64 9, .bool false, .slice (some ⟨w1.heap.size, 0, none⟩) 1 1]], rfl, (one_rec hc2).mono (by have := hc2.lt; omega), fun i r x hr hx => by
    have hi : i = 0 := by have := (List.getElem?_eq_some_iff.1 hr).1; simp at this; exact this
    subst hi
    obtain rfl : [.string ⟨#[98]⟩, .int .i64 9, .bool false, .slice (some ⟨w1.heap.size, 0, none⟩) 1 1] = r := by simpa using hr
    obtain rfl : cl9 = x := by simpa using hx
    exact ⟨_, rfl, hks⟩⟩
  have HR2 := hid (hr1.below hb2 hr1.lt)
  have HSV := hid (show HoldsS 0 (w.heap.size + 1) w2 (.agg #[.string ⟨#[97]⟩, .int .i64 1, .int .i64 1, .slice (some ⟨w1.heap.size + 1, 0, none⟩) 1 1, .slice none 0 0, .slice none 0 0, .slice none 0 0, .slice none 0 0, .slice none 0 0, .slice none 0 0]) one9 from
    ⟨fun b hb => hb.2, fun w3 h3 hk3 => by
      have hag : ∀ b, w.heap.size + 1 ≤ b → b < w2.heap.size → w3.heap[b]? = w2.heap[b]? := fun b h1 h2 => hk3 b ⟨.inr h1, h2⟩
      have hlt1 := hk2.lt
      have hlt2 := hc2.lt
      have h10 : w.heap.size + 1 < w1.heap.size := by rw [← hw1]; simp; omega
      have hk3' : Row w3 w1.heap.size 93 [.int .i64 1, .int .i64 1, .slice (some ⟨w.heap.size + 1, 0, none⟩) 32 32, .slice (some ⟨w.heap.size + 1, 0, none⟩) 32 32] := (hag _ (by omega) hlt1).trans hk2
      have hc3' : Row w3 (w1.heap.size + 1) 79 [.string ⟨#[98]⟩, .int .i64 9, .bool false, .slice (some ⟨w1.heap.size, 0, none⟩) 1 1] := (hag _ (by omega) hlt2).trans hc2
      have hb3' : OwnB w3 (w.heap.size + 1) (.slice (some ⟨w.heap.size + 1, 0, none⟩) 32 32) (List.replicate 32 0) := ownsRow_at (show w2.ownsRow _ _ _ _ _ _ from ownsRow_belowR how hb2) (fun g hg => by obtain rfl : w.heap.size + 1 = g := (by simpa [Value.ownBlock] using hg); exact hag _ (by omega) (by omega))
      have hsz3 := h3.size
      have hks3 : Knowns w3 w3.heap.size (.slice (some ⟨w1.heap.size, 0, none⟩) 1 1) [kn9] := ⟨[⟨kn9, .slice (some ⟨w.heap.size + 1, 0, none⟩) 32 32, .slice (some ⟨w.heap.size + 1, 0, none⟩) 32 32⟩], rfl, (one_rec hk3').mono (by omega), fun q hq => by obtain rfl := List.mem_singleton.1 hq; exact ⟨hb3'.bytes, hb3'.bytes⟩⟩
      have hcs3 : Many ClR 4 w3 w3.heap.size (.slice (some ⟨w1.heap.size + 1, 0, none⟩) 1 1) [cl9] := ⟨[[.string ⟨#[98]⟩, .int .i64 9, .bool false, .slice (some ⟨w1.heap.size, 0, none⟩) 1 1]], rfl, (one_rec hc3').mono (by omega), fun i r x hr hx => by
        have hi : i = 0 := by have := (List.getElem?_eq_some_iff.1 hr).1; simp at this; exact this
        subst hi
        obtain rfl : [.string ⟨#[98]⟩, .int .i64 9, .bool false, .slice (some ⟨w1.heap.size, 0, none⟩) 1 1] = r := by simpa using hr
        obtain rfl : cl9 = x := by simpa using hx
        exact ⟨_, rfl, hks3⟩⟩
      exact ⟨_, _, _, _, _, _, _, rfl, hcs3, Many.nil _ _ _ _, Many.nil _ _ _ _, Many.nil _ _ _ _, Many.nil _ _ _ _, Many.nil _ _ _ _, Many.nil _ _ _ _⟩⟩)
  have HB2 := hid (hbw.trans (hb2.mono hbw.size))
  have HIZ := hid (show (Tryz.prog.info? 28).map (·.size) = some 10 by kernel_rfl)
  obtain ⟨w3, hw3⟩ : ∃ w3, w2.setRow (w.heap.size) #[.string ⟨#[97]⟩, .int .i64 1, .int .i64 1, .slice (some ⟨w1.heap.size + 1, 0, none⟩) 1 1, .slice none 0 0, .slice none 0 0, .slice none 0 0, .slice none 0 0, .slice none 0 0, .slice none 0 0] = w3 := ⟨_, rfl⟩
  have HRS3 := hid (show Row w3 (w.heap.size) 28 [.string ⟨#[97]⟩, .int .i64 1, .int .i64 1, .slice (some ⟨w1.heap.size + 1, 0, none⟩) 1 1, .slice none 0 0, .slice none 0 0, .slice none 0 0, .slice none 0 0, .slice none 0 0, .slice none 0 0] by rw [← hw3]; exact Row.setRow HR2.out _)
  have HHZ3 := hid (show w2.heap[w.heap.size]? = some (.cells #[.string ⟨#[]⟩, .int .i64 0, .int .i64 0, .slice none 0 0, .slice none 0 0, .slice none 0 0, .slice none 0 0, .slice none 0 0, .slice none 0 0, .slice none 0 0] 28 (0, 0)) from HR2.out)
  have HON3 := hid (show (#[.string ⟨#[97]⟩, .int .i64 1, .int .i64 1, .slice (some ⟨w1.heap.size + 1, 0, none⟩) 1 1, .slice none 0 0, .slice none 0 0, .slice none 0 0, .slice none 0 0, .slice none 0 0, .slice none 0 0] : Array Value).all (·.oneCell') = true by simp [Value.oneCell'])
  have HSW3 := hid hw3
  have HB3 := hid (show Below w.heap.size w w3 by rw [← hw3]; exact setRow_below HB2.out (Nat.le_refl _) _)
  have HS3 := hid (show HoldsS 0 w.heap.size w3 (.agg #[.string ⟨#[97]⟩, .int .i64 1, .int .i64 1, .slice (some ⟨w1.heap.size + 1, 0, none⟩) 1 1, .slice none 0 0, .slice none 0 0, .slice none 0 0, .slice none 0 0, .slice none 0 0, .slice none 0 0]) one9 by rw [← hw3]; exact (HSV.out.row (Nat.zero_le _) (by omega) _).lower (by omega))
  have HW0 := hid hw0
  have HW2 := hid hw2
  clear hw0 hw1 hb1 hr0 hsz0 hmk hbw hr1 how hw2 hb2 hk2 hc2 hby hks hcs hw3
  go_enter Tryz.func112, Tryz.ntmps112
  go_wp2_with fail
  rw [HW0.out, hmk0]
  go_wp2_with (first | (refine wpList_store_row rfl 28 (.tmp 0) (.tmp 9) rfl (w.heap.size) #[.string ⟨#[97]⟩, .int .i64 1, .int .i64 1, .slice (some ⟨w1.heap.size + 1, 0, none⟩) 1 1, .slice none 0 0, .slice none 0 0, .slice none 0 0, .slice none 0 0, .slice none 0 0, .slice none 0 0] rfl rfl 28 #[.string ⟨#[]⟩, .int .i64 0, .int .i64 0, .slice none 0 0, .slice none 0 0, .slice none 0 0, .slice none 0 0, .slice none 0 0, .slice none 0 0, .slice none 0 0] (by rw [HW2.out]; exact HHZ3.out) HIZ.out rfl HON3.out ?_; rw [HW2.out, HSW3.out]))
  have y0 := HRS3.out.cell 0
  simp at y0
  have y1 := HRS3.out.cell 1
  simp at y1
  have y2 := HRS3.out.cell 2
  simp at y2
  have y3 := HRS3.out.cell 3
  simp at y3
  have y4 := HRS3.out.cell 4
  simp at y4
  have y5 := HRS3.out.cell 5
  simp at y5
  have y6 := HRS3.out.cell 6
  simp at y6
  have y7 := HRS3.out.cell 7
  simp at y7
  have y8 := HRS3.out.cell 8
  simp at y8
  have y9 := HRS3.out.cell 9
  simp at y9
  exact bodyPost_ret (v := .agg #[.string ⟨#[97]⟩, .int .i64 1, .int .i64 1, .slice (some ⟨w1.heap.size + 1, 0, none⟩) 1 1, .slice none 0 0, .slice none 0 0, .slice none 0 0, .slice none 0 0, .slice none 0 0, .slice none 0 0]) (by simp [results, Tryz.results112, go_sem, y0, y1, y2, y3, y4, y5, y6, y7, y8, y9]) rfl ⟨HB3.out, _, rfl, HS3.out⟩
def linkS : St := { one9 with conns := [⟨3, 0, 0, 0⟩], chans := [⟨3, false, 0, 0, 1, 1, 1⟩] }
theorem linkS_right : wrongS linkS = 0 := wrongS_moreCh (s := { one9 with conns := [⟨3, 0, 0, 0⟩] }) (wrongS_more one9_right (by decide) (fun c hc => by obtain rfl : c = ⟨3, 0, 0, 0⟩ := (by simpa using hc); decide)) (by decide) (fun c hc => by obtain rfl : c = ⟨3, false, 0, 0, 1, 1, 1⟩ := (by simpa using hc); decide)
theorem linkS_fits : linkS.fits := chans_fits (s := { one9 with conns := [⟨3, 0, 0, 0⟩] }) (conns_fits one9_fits (by decide)) (by decide)
theorem linkS_end : cendL linkS 0 [3] = 0 := by
  unfold cendL
  rw [if_neg (by simp [linkS_right])]
  decide
theorem linkS_send : sendN linkS 0 [120] 5 = 0 := by
  unfold sendN
  rw [if_neg (by simp [linkS_end])]
  decide
set_option maxRecDepth 100000 in
set_option maxHeartbeats 4000000 in
theorem linked_any (w : World) : Calls Tryz.prog 56 #[] w fun e w' => Below w.heap.size w w' ∧ ∃ v, e = .returned v ∧ StV w' w'.heap.size v linkS := by
  go_enter Tryz.func56, Tryz.ntmps56
  go_upto_region 1 with fail
  refine fbox1 ?_
  intro w0 F0 hs0
  go_wp2_with fail
  refine (one9_any w0).mono ?_
  rintro e w1 ⟨hb1, v, rfl, hv⟩
  have F1 := F0.go hb1
  obtain ⟨o1, c1, o2, c2, o3, c3, o4, c4, o5, c5, o6, c6, o7, c7, rfl, -⟩ := hv.now.open
  have HH := hid (show Held (fun b => w0.heap.size ≤ b ∧ b < w1.heap.size) w1 (fun w2 => StV w2 w2.heap.size (.agg #[.string one9.name, .int .i64 one9.height, .int .i64 one9.time, .slice o1 one9.clients.length c1, .slice o2 one9.conns.length c2, .slice o3 one9.chans.length c3, .slice o4 one9.sent.length c4, .slice o5 one9.got.length c5, .slice o6 one9.acks.length c6, .slice o7 one9.purses.length c7]) one9) from Held.wide hv (fun b hF => ⟨by omega, hF.2⟩) (fun b hF => hF.2))
  have hsz1 := hb1.size
  clear hb1 F0 hv
  go_upto_region 2 with (refine F1.storeNew rfl rfl rfl rfl structState rfl (by simp [Value.oneCell']) ?_; intro w2 F2 hb2)
  have HH2 := hid (HH.out.below hb2)
  have hsz2 : w1.heap.size < w2.heap.size := F2.r1.lt
  have k4 := F2.r1.k10.2.2.2.2.1
  have z4 := F2.r1.frozen 4
  have hne : w1.heap.size ≠ w2.heap.size := by omega
  clear hb2 HH F1
  go_upto_region 3 with fail
  have O3 := (Only.refl w1.heap.size w2).cell 4 (.slice (some ⟨w2.heap.size, 0, none⟩) 1 1)
  have A3 := F2.set1 1 4 (.slice (some ⟨w2.heap.size, 0, none⟩) 1 1) rfl
  have F3 := A3.addAt (g := w2.heap.size) (t := 89) (cs := [.int .i64 3, .int .i64 0, .int .i64 0, .int .i64 0]) O3.size.symm
  have HH3 := hid (show Held (fun b => w0.heap.size ≤ b ∧ b < w1.heap.size) ((w2.setCell ⟨w1.heap.size, 4, none⟩ (.slice (some ⟨w2.heap.size, 0, none⟩) 1 1)).alloc (.cells ([.int .i64 3, .int .i64 0, .int .i64 0, .int .i64 0] : List Value).toArray 89)) _ from (HH2.out.on O3.below (fun b hF => O3.same b (by omega))).below ((Below.refl _ _).alloc (Nat.le_refl _) (.cells ([.int .i64 3, .int .i64 0, .int .i64 0, .int .i64 0] : List Value).toArray 89)))
  have hsz3 : w2.heap.size + 1 ≤ ((w2.setCell ⟨w1.heap.size, 4, none⟩ (.slice (some ⟨w2.heap.size, 0, none⟩) 1 1)).alloc (.cells ([.int .i64 3, .int .i64 0, .int .i64 0, .int .i64 0] : List Value).toArray 89)).heap.size := by simp [World.setCell]
  obtain ⟨w3, hw3⟩ : ∃ w3, (w2.setCell ⟨w1.heap.size, 4, none⟩ (.slice (some ⟨w2.heap.size, 0, none⟩) 1 1)).alloc (.cells ([.int .i64 3, .int .i64 0, .int .i64 0, .int .i64 0] : List Value).toArray 89) = w3 := ⟨_, rfl⟩
  rw [hw3] at F3 HH3 hsz3
  refine at_world hw3 ?_
  clear hw3 A3 O3 HH2 F2 k4 z4 hne
  have k5 := F3.r1.k10.2.2.2.2.2.1
  have z5 := F3.r1.frozen 5
  have hne : w1.heap.size ≠ w3.heap.size := by omega
  have hlt : w1.heap.size < w3.heap.size := by omega
  go_upto_region 4 with fail
  have O4 := (Only.refl w1.heap.size w3).cell 5 (.slice (some ⟨w3.heap.size, 0, none⟩) 1 1)
  have A4 := F3.set1 1 5 (.slice (some ⟨w3.heap.size, 0, none⟩) 1 1) rfl
  have F4 := A4.addAt (g := w3.heap.size) (t := 53) (cs := [.int .i64 3, .bool false, .int .i64 0, .int .i64 0, .int .i64 1, .int .i64 1, .int .i64 1]) O4.size.symm
  have HH4 := hid (show Held (fun b => w0.heap.size ≤ b ∧ b < w1.heap.size) ((w3.setCell ⟨w1.heap.size, 5, none⟩ (.slice (some ⟨w3.heap.size, 0, none⟩) 1 1)).alloc (.cells ([.int .i64 3, .bool false, .int .i64 0, .int .i64 0, .int .i64 1, .int .i64 1, .int .i64 1] : List Value).toArray 53)) _ from (HH3.out.on O4.below (fun b hF => O4.same b (by omega))).below ((Below.refl _ _).alloc (Nat.le_refl _) (.cells ([.int .i64 3, .bool false, .int .i64 0, .int .i64 0, .int .i64 1, .int .i64 1, .int .i64 1] : List Value).toArray 53)))
  have hsz4 : w3.heap.size + 1 ≤ ((w3.setCell ⟨w1.heap.size, 5, none⟩ (.slice (some ⟨w3.heap.size, 0, none⟩) 1 1)).alloc (.cells ([.int .i64 3, .bool false, .int .i64 0, .int .i64 0, .int .i64 1, .int .i64 1, .int .i64 1] : List Value).toArray 53)).heap.size := by simp [World.setCell]
  obtain ⟨w4, hw4⟩ : ∃ w4, (w3.setCell ⟨w1.heap.size, 5, none⟩ (.slice (some ⟨w3.heap.size, 0, none⟩) 1 1)).alloc (.cells ([.int .i64 3, .bool false, .int .i64 0, .int .i64 0, .int .i64 1, .int .i64 1, .int .i64 1] : List Value).toArray 53) = w4 := ⟨_, rfl⟩
  rw [hw4] at F4 HH4 hsz4
  refine at_world hw4 ?_
  clear hw4 A4 O4 HH3 F3 k5 z5 hne hlt
  go_wp2_with (first | refine F4.load 1 rfl rfl rfl rfl structState ?_ | (refine F4.store 0 rfl rfl rfl rfl rfl structState rfl (by simp [Value.oneCell']) ?_; intro w5 F5 O5))
  have HH5 := hid (HH4.out.on O5.below (fun b hF => O5.same b (by omega)))
  refine ret_c Tryz.results56 rfl F5.r0 structState rfl ⟨F5.b, _, rfl, ?_⟩
  obtain ⟨v1, v2, v3, v4, v5, v6, v7, ev, hm⟩ := HH5.out.now
  simp only [Value.agg.injEq, Array.mk.injEq, List.cons.injEq, and_true, true_and] at ev
  obtain ⟨rfl, rfl, rfl, rfl, rfl, rfl, rfl⟩ := ev
  have g2 := F5.r2.lt
  have g3 := F5.r3.lt
  refine ⟨_, _, _, _, _, _, _, rfl, hm.clients, ⟨[cnCells ⟨3, 0, 0, 0⟩], rfl, (one_rec (k := 4) F5.r2).mono (by omega), fun i r x hr hx => ?_⟩, ⟨[chCells ⟨3, false, 0, 0, 1, 1, 1⟩], rfl, (one_rec (k := 7) F5.r3).mono (by omega), fun i r x hr hx => ?_⟩, hm.sent, hm.got, hm.acks, hm.purses⟩
  · have hi : i = 0 := by have := (List.getElem?_eq_some_iff.1 hr).1; simp at this; exact this
    subst hi
    obtain rfl : cnCells ⟨3, 0, 0, 0⟩ = r := by simpa using hr
    obtain rfl : (⟨3, 0, 0, 0⟩ : Cn) = x := by simpa [linkS] using hx
    rfl
  · have hi : i = 0 := by have := (List.getElem?_eq_some_iff.1 hr).1; simp at this; exact this
    subst hi
    obtain rfl : chCells ⟨3, false, 0, 0, 1, 1, 1⟩ = r := by simpa using hr
    obtain rfl : (⟨3, false, 0, 0, 1, 1, 1⟩ : Ch) = x := by simpa [linkS] using hx
    rfl
set_option maxRecDepth 100000 in
set_option maxHeartbeats 4000000 in
theorem alive11_any (w : World) (htab : tableAt w) : Calls Tryz.prog 19 #[] w fun e w' => e = .returned (.bool true) ∧ Below w.heap.size w w' := by
  have HT := hid htab
  clear htab
  go_enter Tryz.func19, Tryz.ntmps19
  go_wp2_with fail
  refine (linked_any w).mono ?_
  rintro e w1 ⟨hb1, v, rfl, hv⟩
  have HB1 := hid hb1
  obtain ⟨o1, c1, o2, c2, o3, c3, o4, c4, o5, c5, o6, c6, o7, c7, rfl, -⟩ := hv.open
  have HV := hid hv
  clear hb1 hv
  have hcv := conv_constB
  have hb2 : Below w1.heap.size w1 (w1.alloc (.cells #[.int .u8 120] 5 (1, 2))) := (Below.refl _ _).alloc (Nat.le_refl _) _
  have hc2 : (w1.alloc (.cells #[.int .u8 120] 5 (1, 2))).cell? ⟨w1.heap.size, 0, none⟩ = some (.int .u8 120) := by
    have := heap_alloc_new w1 (.cells #[.int .u8 120] 5 (1, 2))
    unfold World.cell?
    simp only [this]
    rfl
  have hl2 : w1.heap.size < (w1.alloc (.cells #[.int .u8 120] 5 (1, 2))).heap.size := by simp
  have HB2 := hid hb2
  have HC2 := hid hc2
  have HL2 := hid hl2
  clear hb2 hc2 hl2
  go_wp2_with fail
  have hb2 := HB2.out
  have hc2 := HC2.out
  have hl2 := HL2.out
  clear HB2 HC2 HL2 hcv
  generalize w1.alloc (.cells #[.int .u8 120] 5 (1, 2)) = w2 at *
  have hB2 := HB1.out.trans (hb2.mono HB1.out.size)
  refine (psendC linkS _ _ [120] w2.heap.size w2 0 5 ((HV.out.below hb2).mono hb2.size) (.inr (.inr ⟨w1.heap.size, 0, 1, rfl, by simp, fun i hi => ⟨hl2, ?_⟩⟩)) (Nat.le_refl _) linkS_fits (by simp) (HT.out.past hB2)).mono ?_
  · obtain rfl : i = 0 := by simpa using hi
    rw [show (0 + 0 : Nat) = 0 from rfl, hc2]
    rfl
  rintro e w3 ⟨hb3, v', pv, rfl, hs', hp'⟩
  rw [linkS_send]
  have e1 : sendS linkS 0 [120] 5 = sentS linkS ⟨0, 0, 1, [120], 5⟩ := if_pos linkS_send
  have e2 : sendP linkS 0 [120] 5 = ⟨0, 0, 1, [120], 5⟩ := if_pos linkS_send
  rw [e1] at hs'
  rw [e2] at hp'
  obtain ⟨a1, n1, a2, n2, a3, n3, a4, n4, a5, n5, a6, n6, a7, n7, rfl, hm⟩ := hs'.now.open
  obtain ⟨od, cd, rfl, -⟩ := hp'.now.open
  have HB3 := hid (hB2.trans (hb3.mono hB2.size))
  have hx : (sentS linkS ⟨0, 0, 1, [120], 5⟩).chans[0]? = some ⟨3, false, 0, 0, 2, 1, 1⟩ := rfl
  obtain ⟨b, g, hob, hbb, -, -, -, -, x4, -⟩ := hm.chans.chan rfl hx
  have hl : (sentS linkS ⟨0, 0, 1, [120], 5⟩).sent.length = 1 := rfl
  have hc : (sentS linkS ⟨0, 0, 1, [120], 5⟩).chans.length = 1 := rfl
  rw [hl, hc]
  subst hob
  have HX4 := hid x4
  have F3 := Fr.nil w3
  clear hs' hp' hm e1 e2 hx hl hc x4 hc2 hl2 hb2 hb3
  generalize (sentS linkS ⟨0, 0, 1, [120], 5⟩).name = q0 at *
  generalize (sentS linkS ⟨0, 0, 1, [120], 5⟩).height = q1 at *
  generalize (sentS linkS ⟨0, 0, 1, [120], 5⟩).time = q2 at *
  generalize (sentS linkS ⟨0, 0, 1, [120], 5⟩).clients.length = q3 at *
  generalize (sentS linkS ⟨0, 0, 1, [120], 5⟩).conns.length = q4 at *
  generalize (sentS linkS ⟨0, 0, 1, [120], 5⟩).got.length = q5 at *
  generalize (sentS linkS ⟨0, 0, 1, [120], 5⟩).acks.length = q6 at *
  generalize (sentS linkS ⟨0, 0, 1, [120], 5⟩).purses.length = q7 at *
  go_upto_region 2 with (first | (refine ((F3.addAt (g := w3.heap.size) (t := 28) (cs := [.string ⟨#[]⟩, .int .i64 0, .int .i64 0, .slice none 0 0, .slice none 0 0, .slice none 0 0, .slice none 0 0, .slice none 0 0, .slice none 0 0, .slice none 0 0]) rfl).addAt (g := w3.heap.size + 1) (t := 31) (cs := [.int .i64 0, .int .i64 0, .int .i64 0, .slice none 0 0, .int .i64 0]) (by simp)).store 0 rfl rfl rfl rfl rfl structState rfl (by simp [Value.oneCell']) ?_; intro w4 F4 O4) | (refine F4.store 1 rfl rfl rfl rfl rfl structPacket rfl (by simp [Value.oneCell']) ?_; intro w5 F5 O5))
  have k6 := F5.r0.k10.2.2.2.2.2.2.1
  have k5 := F5.r0.k10.2.2.2.2.2.1
  have m2 := F5.r1.k5.2.2.1
  have x4 := (F5.b.cell (p := ⟨b, g + 0 * 7 + 4, none⟩) hbb).trans HX4.out
  simp only [Nat.zero_mul, Nat.add_zero] at x4
  have HBF := hid (HB3.out.trans (F5.b.mono HB3.out.size))
  go_wp2
  go_ret
  exact ⟨rfl, HBF.out⟩
end Go.Proofs.YtclhcjiblfokaaaGreatDoor
namespace Go.Proofs.YtclhcjiblfokaaaGreatDoor
open Go.RowKit

theorem wrongS_parts {s : St} (h : wrongS s = 0) : marksN s.sent = 0 ∧ marksN s.got = 0 ∧ marksN s.acks = 0 ∧ (s.chans.length ≤ 8 ∧ s.sent.length ≤ 50 ∧ s.got.length ≤ 50 ∧ s.acks.length ≤ 50) := by
  obtain ⟨h1, h2, h3, h4⟩ := wrongS_name h
  have h5 := of_decide_eq_false (show decide _ = false from h3)
  have h' := (orN_iff _).1 h4
  simp only [List.mem_cons, List.not_mem_nil, or_false, forall_eq_or_imp, forall_eq] at h'
  exact ⟨h'.2.2.2.1, h'.2.2.2.2.1, h'.2.2.2.2.2.1, by omega⟩
theorem wrongS_all {s : St} {l : List Ch} {a b c : List Mk} (h : wrongS s = 0) (hl : l.length ≤ 8) (hc : ∀ c ∈ l, wrongCh c = 0) (ha : marksN a = 0 ∧ a.length ≤ 50) (hb : marksN b = 0 ∧ b.length ≤ 50) (hk : marksN c = 0 ∧ c.length ≤ 50) : wrongS { s with chans := l, sent := a, got := b, acks := c } = 0 := by
  obtain ⟨h1, h2, h3, h4⟩ := wrongS_name h
  have h5 := of_decide_eq_false (show decide _ = false from h3)
  unfold wrongS
  rw [if_neg (by simp [h1]), if_neg (by simp [h2.1, h2.2]), if_neg (by simp [manyB]; omega)]
  have h' := (orN_iff _).1 h4
  simp only [List.mem_cons, List.not_mem_nil, or_false, forall_eq_or_imp, forall_eq] at h'
  refine (orN_iff _).2 ?_
  simp only [List.mem_cons, List.not_mem_nil, or_false, forall_eq_or_imp, forall_eq]
  exact ⟨h'.1, h'.2.1, (firstW_iff _ _).2 hc, ha.1, hb.1, hk.1, h'.2.2.2.2.2.2⟩
theorem marks_fit {l : List Mk} (h : marksN l = 0) : ∀ m ∈ l, m.fits := fun m hm => by
  have := (wrongMk_ok ((marksN_ok h).1 m hm)).2.2
  unfold Mk.fits
  omega
theorem fits_all {s : St} {l : List Ch} {a b c : List Mk} (hf : s.fits) (hl : l.length ≤ 8) (ha : marksN a = 0 ∧ a.length ≤ 50) (hb : marksN b = 0 ∧ b.length ≤ 50) (hk : marksN c = 0 ∧ c.length ≤ 50) : ({ s with chans := l, sent := a, got := b, acks := c } : St).fits :=
  ⟨hf.1, hf.2.1, hf.2.2.1, (show l.length < 2305843009213693952 by omega), ⟨(show a.length < 2305843009213693952 by omega), marks_fit ha.1⟩, ⟨(show b.length < 2305843009213693952 by omega), marks_fit hb.1⟩, ⟨(show c.length < 2305843009213693952 by omega), marks_fit hk.1⟩, hf.2.2.2.2.2.2.2⟩
theorem wrongMk_of {ch seq : Int} {d : List (BitVec 8)} (h1 : 0 ≤ ch ∧ ch ≤ 1000000000000) (h2 : 1 ≤ seq ∧ seq ≤ 1000000000000) (h3 : d.length = 32) : wrongMk ⟨ch, seq, d⟩ = 0 := by
  unfold wrongMk
  rw [if_neg (by simp [fromB]; omega), if_neg (by simpa using h3)]
theorem set_right {s : St} {j : Nat} {c : Ch} (h : wrongS s = 0) (hc : wrongCh c = 0) : (s.chans.set j c).length ≤ 8 ∧ ∀ x ∈ s.chans.set j c, wrongCh x = 0 :=
  ⟨by rw [List.length_set]; exact (wrongS_parts h).2.2.2.1, fun x hx => by
    rcases List.mem_or_eq_of_mem_set hx with hx | rfl
    · exact (wrongS_right h).chans x hx
    · exact hc⟩
theorem chAt_set {s : St} {j : Nat} {c d : Ch} (hc : s.chans[j]? = some c) : (s.chans.set j d)[j]? = some d := List.getElem?_set_self (List.getElem?_eq_some_iff.1 hc).1
theorem rcvrN_ok' {s : St} {p : Pk} {n : Nat} (h : rcvrN s p n = 0) : wrongPk p = 0 ∧ cendL s p.dst [3] = 0 ∧ (s.got.length < 50 ∧ s.acks.length < 50) ∧ n ≤ 150 ∧ (chAt s p.dst).recv < 1000000000000 ∧ turnB s (chAt s p.dst) p = false ∧ (chAt s p.dst).ochan = p.src ∧ s.height < p.tmo := by
  unfold rcvrN at h
  split at h
  · rename_i h1; exact absurd h h1
  rename_i h1
  split at h
  · rename_i h2; exact absurd h h2
  rename_i h2
  split at h
  · cases h
  rename_i h3
  split at h
  · cases h
  rename_i h4
  split at h
  · cases h
  rename_i h5
  split at h
  · cases h
  rename_i h6
  exact ⟨by simpa using h1, by simpa using h2, by omega, by omega, by omega, by simpa using h5, by simpa using h3, by omega⟩
theorem rcvrN_turn {s : St} {p : Pk} {n : Nat} (h : rcvrN s p n = 0) : turnB s (chAt s p.dst) p = false := (rcvrN_ok' h).2.2.2.2.2.1
end Go.Proofs.YtclhcjiblfokaaaGreatDoor
namespace Go.Proofs.YtclhcjiblfokaaaGreatDoor
open Go.RowKit

/-- a record stored over another -/
theorem stored {wo : World} {g : Nat} {t : TypeId} {old : List Value} (h : Row wo g t old) (cs : List Value) (h1 : cs.toArray.all (·.oneCell') = true) : ∃ wn, wo.setRow g cs.toArray = wn ∧ Hid (Row wn g t cs) ∧ Hid (wo.heap[g]? = some (.cells old.toArray t (0, 0))) ∧ Hid (cs.toArray.all (·.oneCell') = true) ∧ Hid (wo.setRow g cs.toArray = wn) :=
  ⟨_, rfl, hid (Row.setRow h _), hid h, hid h1, hid rfl⟩
theorem StV.ten {w : World} {N : Nat} {v : Value} {t : St} (h : StV w N v t) : ∃ a0 a1 a2 a3 a4 a5 a6 a7 a8 a9, v = .agg #[a0, a1, a2, a3, a4, a5, a6, a7, a8, a9] ∧ (#[a0, a1, a2, a3, a4, a5, a6, a7, a8, a9] : Array Value).all (·.oneCell') = true := by
  obtain ⟨o1, c1, o2, c2, o3, c3, o4, c4, o5, c5, o6, c6, o7, c7, rfl, -⟩ := h.open
  exact ⟨_, _, _, _, _, _, _, _, _, _, rfl, by simp [Value.oneCell']⟩
end Go.Proofs.YtclhcjiblfokaaaGreatDoor
namespace Go.Proofs.YtclhcjiblfokaaaGreatDoor
open Go.RowKit

theorem askRecv_some (s : St) (p : Pk) (h : Sh) : ∃ z, askRecv s p h z := ShownN.some _ _ _ _
theorem recvN_zero {s : St} {p : Pk} {n : Nat} {z : Int} (h : recvN s p n z = 0) : rcvrN s p n = 0 := by
  unfold recvN at h
  split at h
  · rename_i h1; exact absurd h h1
  · rename_i h1; simpa using h1
end Go.Proofs.YtclhcjiblfokaaaGreatDoor
namespace Go.Proofs.YtclhcjiblfokaaaGreatDoor
open Go.RowKit

/-- a state by its ten cells, a channel's among them -/
theorem StV.chans10 {w : World} {N : Nat} {v : Value} {t : St} {j : Nat} {x : Ch} (h : StV w N v t) (hx : t.chans[j]? = some x) : ∃ a0 a1 a2 a3 a4 b f c a6 a7 a8 a9, v = .agg #[a0, a1, a2, a3, a4, .slice (some ⟨b, f, none⟩) t.chans.length c, a6, a7, a8, a9] ∧ (#[a0, a1, a2, a3, a4, .slice (some ⟨b, f, none⟩) t.chans.length c, a6, a7, a8, a9] : Array Value).all (·.oneCell') = true ∧ b < N ∧ w.cell? ⟨b, f + j * 7, none⟩ = some (.int .i64 x.state) ∧ w.cell? ⟨b, f + j * 7 + 1, none⟩ = some (.bool x.ordered) ∧ w.cell? ⟨b, f + j * 7 + 2, none⟩ = some (.int .i64 x.conn) ∧ w.cell? ⟨b, f + j * 7 + 3, none⟩ = some (.int .i64 x.ochan) ∧ w.cell? ⟨b, f + j * 7 + 4, none⟩ = some (.int .i64 x.send) ∧ w.cell? ⟨b, f + j * 7 + 5, none⟩ = some (.int .i64 x.recv) ∧ w.cell? ⟨b, f + j * 7 + 6, none⟩ = some (.int .i64 x.ack) := by
  obtain ⟨o1, c1, o2, c2, o3, c3, o4, c4, o5, c5, o6, c6, o7, c7, rfl, hm⟩ := h.open
  obtain ⟨b, f, rfl, hb, hc⟩ := hm.chans.chan rfl hx
  exact ⟨_, _, _, _, _, _, _, _, _, _, _, _, rfl, by simp [Value.oneCell'], hb, hc⟩
theorem StV.sent10 {w : World} {N : Nat} {v : Value} {t : St} (h : StV w N v t) : ∃ a0 a1 a2 a3 a4 a5 o c a7 a8 a9, v = .agg #[a0, a1, a2, a3, a4, a5, .slice o t.sent.length c, a7, a8, a9] ∧ (#[a0, a1, a2, a3, a4, a5, .slice o t.sent.length c, a7, a8, a9] : Array Value).all (·.oneCell') = true := by
  obtain ⟨o1, c1, o2, c2, o3, c3, o4, c4, o5, c5, o6, c6, o7, c7, rfl, hm⟩ := h.open
  exact ⟨_, _, _, _, _, _, _, _, _, _, _, rfl, by simp [Value.oneCell']⟩
theorem two_new {wa wb wc : World} {c1 c2 : List Value} {t1 t2 : TypeId} (O1 : Only wa.heap.size ((wa.alloc (.cells c1.toArray t1)).alloc (.cells c2.toArray t2)) wb) (O2 : Only (wa.heap.size + 1) wb wc) : Below wa.heap.size wa wc :=
  O2.down (O1.down (((Below.refl wa.heap.size wa).alloc (Nat.le_refl _) _).alloc (by simp) _) (Nat.le_refl _)) (by omega)
theorem outN_ok {s : St} {p : Pk} {last send : Int} (h : outN s p last send = 0) : wrongPk p = 0 ∧ s.sent.length < 50 ∧ send < 1000000000000 := by
  unfold outN at h
  split at h
  · rename_i h1; exact absurd h h1
  rename_i h1
  split at h
  · cases h
  split at h
  · cases h
  rename_i h3
  exact ⟨by simpa using h1, by omega, by omega⟩
theorem sendN_ok {s : St} {i : Int} {d : List (BitVec 8)} {tmo : Int} (h : sendN s i d tmo = 0) : cendL s i [3] = 0 ∧ outN s (sendPk s i d tmo) (lastH (folOf s i)) (chAt s i).send = 0 := by
  unfold sendN at h
  split at h
  · rename_i h1; exact absurd h h1
  · rename_i h1; exact ⟨by simpa using h1, h⟩
/-- what comes of sending -/
theorem sent_num {s : St} {i : Int} {d : List (BitVec 8)} {tmo : Int} (h : sendN s i d tmo = 0) (hf : s.fits) : ∃ (j : Nat) (c : Ch), i = (j : Int) ∧ s.chans[j]? = some c ∧ chAt s i = c ∧ (0 ≤ c.send ∧ c.send < 1000000000000) ∧ (sentS s (sendPk s i d tmo)).fits ∧ wrongS (sentS s (sendPk s i d tmo)) = 0 ∧ (sentS s (sendPk s i d tmo)).chans[j]? = some c.sent1 ∧ s.sent.length ≤ (sentS s (sendPk s i d tmo)).sent.length := by
  obtain ⟨hce, ho⟩ := sendN_ok h
  obtain ⟨hwp, hsl, hsn⟩ := outN_ok ho
  obtain ⟨j, k, m, c, cn, f, hij, hj, hca, -, -, -, -, -, hwc, -⟩ := cendL_fol hce
  obtain ⟨hw, -⟩ := cendL_ok hce
  have hpo := wrongPk_ok hwp
  rw [hca] at hsn
  have hco := wrongCh_ok hwc
  have hpt := wrongS_parts hw
  have hlg := withM_len s.sent ⟨i, c.send, digPk (sendPk s i d tmo)⟩ (marksN_ok hpt.1).2
  have e : sentS s (sendPk s i d tmo) = { s with chans := s.chans.set j c.sent1, sent := withM s.sent ⟨i, c.send, digPk (sendPk s i d tmo)⟩, got := s.got, acks := s.acks } := by
    have e1 : (sendPk s i d tmo).src = i := rfl
    have e2 : (sendPk s i d tmo).seq = c.send := by show (chAt s i).send = _; rw [hca]
    unfold sentS setCh
    rw [e1, e2, hca, hij]
    rfl
  have hcc : wrongCh c.sent1 = 0 := wrongCh_of hco.1 hco.2.1 hco.2.2.1 (by simp only [Ch.sent1]; omega)
  obtain ⟨g1, g2⟩ := set_right (j := j) hw hcc
  have hsq : (sendPk s i d tmo).seq = c.send := by show (chAt s i).send = _; rw [hca]
  have hS : marksN (withM s.sent ⟨i, c.send, digPk (sendPk s i d tmo)⟩) = 0 ∧ (withM s.sent ⟨i, c.send, digPk (sendPk s i d tmo)⟩).length ≤ 50 := ⟨withM_right hpt.1 (wrongMk_of hpo.1 (by have := hpo.2.2.1; rw [hsq] at this; exact this) (sha_length _)), by omega⟩
  refine ⟨j, c, hij, hj, hca, ⟨by omega, hsn⟩, ?_, ?_, ?_, ?_⟩
  · rw [e]; exact fits_all hf g1 hS ⟨hpt.2.1, hpt.2.2.2.2.2.1⟩ ⟨hpt.2.2.1, hpt.2.2.2.2.2.2⟩
  · rw [e]; exact wrongS_all hw g1 g2 hS ⟨hpt.2.1, hpt.2.2.2.2.2.1⟩ ⟨hpt.2.2.1, hpt.2.2.2.2.2.2⟩
  · rw [e]; exact chAt_set hj
  · rw [e]; exact hlg.1
/-- what comes of receiving -/
theorem recv_num {s : St} {p : Pk} {ack : List (BitVec 8)} (hr : rcvrN s p ack.length = 0) : ∃ (j : Nat) (c : Ch), p.dst = (j : Int) ∧ s.chans[j]? = some c ∧ (0 ≤ c.recv ∧ c.recv < 1000000000000) ∧ (c.ordered = true → p.seq = c.recv ∧ (gotS s p ack).chans[j]? = some c.recv1) ∧ (c.ordered = false → (gotS s p ack).chans[j]? = some c) ∧ (gotS s p ack).chans.length = s.chans.length := by
  obtain ⟨hwp, hce, hm, -, hrl, -, hoc, hht⟩ := rcvrN_ok' hr
  obtain ⟨j, k, m, c, d, f, hij, hj, hca, hck, hd, hdm, hff, hfo, hwc, hwf, -⟩ := cendL_fol hce
  have hco := wrongCh_ok hwc
  rw [hca] at hrl
  refine ⟨j, c, hij, hj, ⟨by omega, hrl⟩, fun ho => ⟨?_, ?_⟩, fun ho => ?_, ?_⟩
  · have := rcvrN_turn hr
    rw [hca] at this
    unfold turnB at this
    rw [if_pos ho] at this
    simpa using this
  · unfold gotS setCh
    rw [hca, if_pos ho, hij]
    exact chAt_set hj
  · unfold gotS
    rw [hca, if_neg (by simp [ho])]
    exact hj
  · unfold gotS setCh
    split
    · simp
    · rfl
set_option maxRecDepth 100000 in
set_option maxHeartbeats 4000000 in
theorem numR6a {y0 y2 y3 y4 y5 y6 y7 y9 y10 y11 y12 y13 y14 y15 y16 y17 y19 y20 y21 y23 y24 y25 y26 y27 y28 y29 y30 y31 y32 y33 y34 y35 y36 y37 y38 y39 y40 y41 y42 y43 y44 y45 y46 y77 y78 y79 y80 y81 y82 y83 y84 y85 y86 y87 y88 y89 y90 y91 y92 y93 y94 y95 y96 y97 y98 y99 y100 y101 y102 y103 y104 y105 y106 y107 y108 y109 y110 y111 y112 y113 y114 y115 y116 y117 y118 y119 y120 y121 z47 z48 z49 z50 z51 z52 z53 z54 z55 z56 z57 z58 z59 z60 z61 z62 z63 z64 z65 z66 z67 z68 z69 z70 z71 z72 z73 z74 z75 z76 : Value} {x0 x1 x2 x3 x4 x6 x7 x8 x9 a0 a1 a3 a4 : Value} {gs ga b f k n c : Nat} {q x : Int} {w : World} (hgs : Hid (Row w gs 28 [x0, x1, x2, x3, x4, .slice (some ⟨b, f, none⟩) n c, x6, x7, x8, x9])) (hga : Hid (Row w ga 31 [a0, a1, .int .i64 q, a3, a4])) (hlb : (k : Int) < (n : Int)) (hbb : b < w.heap.size) (hcb : Hid (w.cell? ⟨b, f + k * 7 + 4, none⟩ = some (.int .i64 q))) (hx : (x == 0) = false) (Q : Exit → Act → World → Prop)
    (hQ : Hid (∀ (σ : Nat → Value) (w' : World), Below w.heap.size w w' → σ 29 = .bool false → Q .normal ⟨#[y0, .int .i64 (k : Int), y2, y3, y4, y5, y6, y7, .pointer (some ⟨gs, 0, none⟩), y9, y10, y11, y12, y13, y14, y15, y16, y17, .pointer (some ⟨ga, 0, none⟩), y19, y20, y21, .int .i64 x, y23, y24, y25, y26, y27, y28, y29, y30, y31, y32, y33, y34, y35, y36, y37, y38, y39, y40, y41, y42, y43, y44, y45, y46, σ 0, σ 1, σ 2, σ 3, σ 4, σ 5, σ 6, σ 7, σ 8, σ 9, σ 10, σ 11, σ 12, σ 13, σ 14, σ 15, σ 16, σ 17, σ 18, σ 19, σ 20, σ 21, σ 22, σ 23, σ 24, σ 25, σ 26, σ 27, σ 28, σ 29, y77, y78, y79, y80, y81, y82, y83, y84, y85, y86, y87, y88, y89, y90, y91, y92, y93, y94, y95, y96, y97, y98, y99, y100, y101, y102, y103, y104, y105, y106, y107, y108, y109, y110, y111, y112, y113, y114, y115, y116, y117, y118, y119, y120, y121], []⟩ w')) :
    Code.wp Tryz.prog (.region 6 ((Tryz.f5.body.bind (regOf 6)).getD #[]) true) Q ⟨#[y0, .int .i64 (k : Int), y2, y3, y4, y5, y6, y7, .pointer (some ⟨gs, 0, none⟩), y9, y10, y11, y12, y13, y14, y15, y16, y17, .pointer (some ⟨ga, 0, none⟩), y19, y20, y21, .int .i64 x, y23, y24, y25, y26, y27, y28, y29, y30, y31, y32, y33, y34, y35, y36, y37, y38, y39, y40, y41, y42, y43, y44, y45, y46, z47, z48, z49, z50, z51, z52, z53, z54, z55, z56, z57, z58, z59, z60, z61, z62, z63, z64, z65, z66, z67, z68, z69, z70, z71, z72, z73, z74, z75, z76, y77, y78, y79, y80, y81, y82, y83, y84, y85, y86, y87, y88, y89, y90, y91, y92, y93, y94, y95, y96, y97, y98, y99, y100, y101, y102, y103, y104, y105, y106, y107, y108, y109, y110, y111, y112, y113, y114, y115, y116, y117, y118, y119, y120, y121], []⟩ w := by
  conv => arg 2; arg 2; whnf
  conv => arg 4; dsimp only
  refine region_grows (by kernel_rfl) (fun σ => #[y0, .int .i64 (k : Int), y2, y3, y4, y5, y6, y7, .pointer (some ⟨gs, 0, none⟩), y9, y10, y11, y12, y13, y14, y15, y16, y17, .pointer (some ⟨ga, 0, none⟩), y19, y20, y21, .int .i64 x, y23, y24, y25, y26, y27, y28, y29, y30, y31, y32, y33, y34, y35, y36, y37, y38, y39, y40, y41, y42, y43, y44, y45, y46, σ 0, σ 1, σ 2, σ 3, σ 4, σ 5, σ 6, σ 7, σ 8, σ 9, σ 10, σ 11, σ 12, σ 13, σ 14, σ 15, σ 16, σ 17, σ 18, σ 19, σ 20, σ 21, σ 22, σ 23, σ 24, σ 25, σ 26, σ 27, σ 28, σ 29, y77, y78, y79, y80, y81, y82, y83, y84, y85, y86, y87, y88, y89, y90, y91, y92, y93, y94, y95, y96, y97, y98, y99, y100, y101, y102, y103, y104, y105, y106, y107, y108, y109, y110, y111, y112, y113, y114, y115, y116, y117, y118, y119, y120, y121]) (fun i => ([z47, z48, z49, z50, z51, z52, z53, z54, z55, z56, z57, z58, z59, z60, z61, z62, z63, z64, z65, z66, z67, z68, z69, z70, z71, z72, z73, z74, z75, z76] : List Value).getD i undef) rfl (fun i X W => match i with
    | 0 => X = .pointer (some ⟨ga, 2, none⟩)
    | 1 => X = .int .i64 q
    | 2 => X = .pointer (some ⟨gs, 5, none⟩)
    | 3 => X = .slice (some ⟨b, f, none⟩) n c
    | 4 => X = .int .i64 (k : Int)
    | 5 => X = .pointer (some ⟨b, f + k * 7, none⟩)
    | 6 => X = .pointer (some ⟨b, f + k * 7 + 4, none⟩)
    | 7 => X = .int .i64 q
    | 8 => X = .bool false
    | 9 => X = .bool false
    | 10 => X = .int .i64 x
    | 11 => X = .bool false
    | 12 => X = .bool false
    | 13 => X = undef
    | 14 => X = undef
    | 15 => X = undef
    | 16 => X = undef
    | 17 => X = undef
    | 18 => X = undef
    | 19 => X = undef
    | 20 => X = undef
    | 21 => X = undef
    | 22 => X = undef
    | 23 => X = undef
    | 24 => X = undef
    | 25 => X = undef
    | 26 => X = undef
    | 27 => X = undef
    | 28 => X = .bool false
    | 29 => X = .bool false
    | _ => True) ?_ (by kernel_rfl) ?_ ?_
  · intro i X W W' HB H
    iterate 30 (obtain _ | i := i; first | exact H)
    exact H
  · refine ⟨?_, ?_, ?_, ?_, ?_, ?_, ?_, ?_, ?_, ?_, ?_, ?_, ?_, ?_, ?_, ?_, ?_, ?_, ?_, ?_, ?_, ?_, ?_, ?_, ?_, ?_, ?_, ?_, ?_, ?_, trivial⟩
    all_goals (intro σ W HJ hdep; simp [Region.binds] at hdep; have HJ := hid HJ; obtain ⟨gsk0, gsk1, gsk2, gsk3, gsk4, gsk5, gsk6, gsk7, gsk8, gsk9⟩ := (hgs.out.below HJ.out hgs.out.lt).k10; obtain ⟨gak0, gak1, gak2, gak3, gak4⟩ := (hga.out.below HJ.out hga.out.lt).k5; have bk0 := hcb.out; replace bk0 := (HJ.out.cell (by exact hbb)).trans bk0)
    · refine wpOp_plain rfl rfl ?_; go_simp; exact Left.mk0 _ (by first | rfl | simp [updF, *]) HJ.out rfl
    · refine wpOp_plain rfl rfl ?_; go_simp; exact Left.mk0 _ (by first | rfl | simp [updF, *]) HJ.out rfl
    · refine wpOp_plain rfl rfl ?_; go_simp; exact Left.mk0 _ (by first | rfl | simp [updF, *]) HJ.out rfl
    · refine wpOp_plain rfl rfl ?_; go_simp; exact Left.mk0 _ (by first | rfl | simp [updF, *]) HJ.out rfl
    · refine wpOp_plain rfl rfl ?_; go_simp; exact Left.mk0 _ (by first | rfl | simp [updF, *]) HJ.out rfl
    · refine wpOp_plain rfl rfl ?_; go_simp; exact Left.mk0 _ (by first | rfl | simp [updF, *]) HJ.out rfl
    · refine wpOp_plain rfl rfl ?_; go_simp; exact Left.mk0 _ (by first | rfl | simp [updF, *]) HJ.out rfl
    · refine wpOp_plain rfl rfl ?_; go_simp; exact Left.mk0 _ (by first | rfl | simp [updF, *]) HJ.out rfl
    · refine wpOp_plain rfl rfl ?_; go_simp; exact Left.mk0 _ (by first | rfl | simp [updF, *]) HJ.out rfl
    · refine wpOp_plain rfl rfl ?_; go_simp; exact Left.mk0 _ (by first | rfl | simp [updF, *]) HJ.out rfl
    · refine wpOp_want rfl (by simp [Region.wanted, yielded, *]) ?_; go_simp; exact Left.mk0 _ (by first | rfl | simp [updF, *]) HJ.out rfl
    · refine wpOp_want rfl (by simp [Region.wanted, yielded, *]) ?_; go_simp; exact Left.mk0 _ (by first | rfl | simp [updF, *]) HJ.out rfl
    · refine wpOp_want rfl (by simp [Region.wanted, yielded, *]) ?_; go_simp; exact Left.mk0 _ (by first | rfl | simp [updF, *]) HJ.out rfl
    · refine wpOp_skip rfl (by first | (simp [Region.wanted, yielded, *]; done) | simp [Region.wanted, yielded, undef, *]) ?_; exact Left.mk0 undef (by first | rfl | simp [updF, *]) HJ.out rfl
    · refine wpOp_skip rfl (by first | (simp [Region.wanted, yielded, *]; done) | simp [Region.wanted, yielded, undef, *]) ?_; exact Left.mk0 undef (by first | rfl | simp [updF, *]) HJ.out rfl
    · refine wpOp_skip rfl (by first | (simp [Region.wanted, yielded, *]; done) | simp [Region.wanted, yielded, undef, *]) ?_; exact Left.mk0 undef (by first | rfl | simp [updF, *]) HJ.out rfl
    · refine wpOp_skip rfl (by first | (simp [Region.wanted, yielded, *]; done) | simp [Region.wanted, yielded, undef, *]) ?_; exact Left.mk0 undef (by first | rfl | simp [updF, *]) HJ.out rfl
    · refine wpOp_skip rfl (by first | (simp [Region.wanted, yielded, *]; done) | simp [Region.wanted, yielded, undef, *]) ?_; exact Left.mk0 undef (by first | rfl | simp [updF, *]) HJ.out rfl
    · refine wpOp_skip rfl (by first | (simp [Region.wanted, yielded, *]; done) | simp [Region.wanted, yielded, undef, *]) ?_; exact Left.mk0 undef (by first | rfl | simp [updF, *]) HJ.out rfl
    · refine wpOp_skip rfl (by first | (simp [Region.wanted, yielded, *]; done) | simp [Region.wanted, yielded, undef, *]) ?_; exact Left.mk0 undef (by first | rfl | simp [updF, *]) HJ.out rfl
    · refine wpOp_skip rfl (by first | (simp [Region.wanted, yielded, *]; done) | simp [Region.wanted, yielded, undef, *]) ?_; exact Left.mk0 undef (by first | rfl | simp [updF, *]) HJ.out rfl
    · refine wpOp_skip rfl (by first | (simp [Region.wanted, yielded, *]; done) | simp [Region.wanted, yielded, undef, *]) ?_; exact Left.mk0 undef (by first | rfl | simp [updF, *]) HJ.out rfl
    · refine wpOp_skip rfl (by first | (simp [Region.wanted, yielded, *]; done) | simp [Region.wanted, yielded, undef, *]) ?_; exact Left.mk0 undef (by first | rfl | simp [updF, *]) HJ.out rfl
    · refine wpOp_skip rfl (by first | (simp [Region.wanted, yielded, *]; done) | simp [Region.wanted, yielded, undef, *]) ?_; exact Left.mk0 undef (by first | rfl | simp [updF, *]) HJ.out rfl
    · refine wpOp_skip rfl (by first | (simp [Region.wanted, yielded, *]; done) | simp [Region.wanted, yielded, undef, *]) ?_; exact Left.mk0 undef (by first | rfl | simp [updF, *]) HJ.out rfl
    · refine wpOp_skip rfl (by first | (simp [Region.wanted, yielded, *]; done) | simp [Region.wanted, yielded, undef, *]) ?_; exact Left.mk0 undef (by first | rfl | simp [updF, *]) HJ.out rfl
    · refine wpOp_skip rfl (by first | (simp [Region.wanted, yielded, *]; done) | simp [Region.wanted, yielded, undef, *]) ?_; exact Left.mk0 undef (by first | rfl | simp [updF, *]) HJ.out rfl
    · refine wpOp_skip rfl (by first | (simp [Region.wanted, yielded, *]; done) | simp [Region.wanted, yielded, undef, *]) ?_; exact Left.mk0 undef (by first | rfl | simp [updF, *]) HJ.out rfl
    · refine wpOp_want rfl (by simp [Region.wanted, yielded, *]) ?_; go_simp; exact Left.mk0 _ (by first | rfl | simp [updF, *]) HJ.out rfl
    · refine wpOp_plain rfl rfl ?_; go_simp; exact Left.mk0 _ (by first | rfl | simp [updF, *]) HJ.out rfl
  · intro σ w' hb hg
    exact hQ.out σ w' hb (hg 29 (by decide))
set_option maxRecDepth 100000 in
set_option maxHeartbeats 4000000 in
theorem numR6b {y0 y2 y3 y4 y5 y6 y7 y9 y10 y11 y12 y13 y14 y15 y16 y19 y23 y24 y25 y26 y27 y28 y29 y30 y31 y32 y33 y34 y35 y36 y37 y38 y39 y40 y41 y42 y43 y44 y45 y46 y77 y78 y79 y80 y81 y82 y83 y84 y85 y86 y87 y88 y89 y90 y91 y92 y93 y94 y95 y96 y97 y98 y99 y100 y101 y102 y103 y104 y105 y106 y107 y108 y109 y110 y111 y112 y113 y114 y115 y116 y117 y118 y119 y120 y121 z47 z48 z49 z50 z51 z52 z53 z54 z55 z56 z57 z58 z59 z60 z61 z62 z63 z64 z65 z66 z67 z68 z69 z70 z71 z72 z73 z74 z75 z76 : Value} {x0 x1 x2 x3 x4 x6 x7 x8 x9 a0 a1 a3 a4 t0 t1 t2 t3 t4 t5 t7 t8 t9 u0 u1 u2 u3 u4 u5 u7 u8 u9 b0 b1 b3 b4 : Value} {gs ga gt gu gb b f k n c n6 c6 n7 c7 : Nat} {o6 o7 : Option Addr} {q : Int} {w : World} (hgs : Hid (Row w gs 28 [x0, x1, x2, x3, x4, .slice (some ⟨b, f, none⟩) n c, x6, x7, x8, x9])) (hga : Hid (Row w ga 31 [a0, a1, .int .i64 q, a3, a4])) (hgt : Hid (Row w gt 28 [t0, t1, t2, t3, t4, t5, .slice o6 n6 c6, t7, t8, t9])) (hgu : Hid (Row w gu 28 [u0, u1, u2, u3, u4, u5, .slice o7 n7 c7, u7, u8, u9])) (hgb : Hid (Row w gb 31 [b0, b1, .int .i64 (q + 1), b3, b4])) (hlb : (k : Int) < (n : Int)) (hbb : b < w.heap.size) (hcb : Hid (w.cell? ⟨b, f + k * 7 + 4, none⟩ = some (.int .i64 q))) (hwr : IntKind.i64.wrap (q + 1) = q + 1) (hlen : ¬ (n7 : Int) < (n6 : Int)) (Q : Exit → Act → World → Prop)
    (hQ : Hid (∀ (σ : Nat → Value) (w' : World), Below w.heap.size w w' → σ 29 = .bool false → Q .normal ⟨#[y0, .int .i64 (k : Int), y2, y3, y4, y5, y6, y7, .pointer (some ⟨gs, 0, none⟩), y9, y10, y11, y12, y13, y14, y15, y16, .pointer (some ⟨gt, 0, none⟩), .pointer (some ⟨ga, 0, none⟩), y19, .pointer (some ⟨gu, 0, none⟩), .pointer (some ⟨gb, 0, none⟩), .int .i64 0, y23, y24, y25, y26, y27, y28, y29, y30, y31, y32, y33, y34, y35, y36, y37, y38, y39, y40, y41, y42, y43, y44, y45, y46, σ 0, σ 1, σ 2, σ 3, σ 4, σ 5, σ 6, σ 7, σ 8, σ 9, σ 10, σ 11, σ 12, σ 13, σ 14, σ 15, σ 16, σ 17, σ 18, σ 19, σ 20, σ 21, σ 22, σ 23, σ 24, σ 25, σ 26, σ 27, σ 28, σ 29, y77, y78, y79, y80, y81, y82, y83, y84, y85, y86, y87, y88, y89, y90, y91, y92, y93, y94, y95, y96, y97, y98, y99, y100, y101, y102, y103, y104, y105, y106, y107, y108, y109, y110, y111, y112, y113, y114, y115, y116, y117, y118, y119, y120, y121], []⟩ w')) :
    Code.wp Tryz.prog (.region 6 ((Tryz.f5.body.bind (regOf 6)).getD #[]) true) Q ⟨#[y0, .int .i64 (k : Int), y2, y3, y4, y5, y6, y7, .pointer (some ⟨gs, 0, none⟩), y9, y10, y11, y12, y13, y14, y15, y16, .pointer (some ⟨gt, 0, none⟩), .pointer (some ⟨ga, 0, none⟩), y19, .pointer (some ⟨gu, 0, none⟩), .pointer (some ⟨gb, 0, none⟩), .int .i64 0, y23, y24, y25, y26, y27, y28, y29, y30, y31, y32, y33, y34, y35, y36, y37, y38, y39, y40, y41, y42, y43, y44, y45, y46, z47, z48, z49, z50, z51, z52, z53, z54, z55, z56, z57, z58, z59, z60, z61, z62, z63, z64, z65, z66, z67, z68, z69, z70, z71, z72, z73, z74, z75, z76, y77, y78, y79, y80, y81, y82, y83, y84, y85, y86, y87, y88, y89, y90, y91, y92, y93, y94, y95, y96, y97, y98, y99, y100, y101, y102, y103, y104, y105, y106, y107, y108, y109, y110, y111, y112, y113, y114, y115, y116, y117, y118, y119, y120, y121], []⟩ w := by
  conv => arg 2; arg 2; whnf
  conv => arg 4; dsimp only
  refine region_grows (by kernel_rfl) (fun σ => #[y0, .int .i64 (k : Int), y2, y3, y4, y5, y6, y7, .pointer (some ⟨gs, 0, none⟩), y9, y10, y11, y12, y13, y14, y15, y16, .pointer (some ⟨gt, 0, none⟩), .pointer (some ⟨ga, 0, none⟩), y19, .pointer (some ⟨gu, 0, none⟩), .pointer (some ⟨gb, 0, none⟩), .int .i64 0, y23, y24, y25, y26, y27, y28, y29, y30, y31, y32, y33, y34, y35, y36, y37, y38, y39, y40, y41, y42, y43, y44, y45, y46, σ 0, σ 1, σ 2, σ 3, σ 4, σ 5, σ 6, σ 7, σ 8, σ 9, σ 10, σ 11, σ 12, σ 13, σ 14, σ 15, σ 16, σ 17, σ 18, σ 19, σ 20, σ 21, σ 22, σ 23, σ 24, σ 25, σ 26, σ 27, σ 28, σ 29, y77, y78, y79, y80, y81, y82, y83, y84, y85, y86, y87, y88, y89, y90, y91, y92, y93, y94, y95, y96, y97, y98, y99, y100, y101, y102, y103, y104, y105, y106, y107, y108, y109, y110, y111, y112, y113, y114, y115, y116, y117, y118, y119, y120, y121]) (fun i => ([z47, z48, z49, z50, z51, z52, z53, z54, z55, z56, z57, z58, z59, z60, z61, z62, z63, z64, z65, z66, z67, z68, z69, z70, z71, z72, z73, z74, z75, z76] : List Value).getD i undef) rfl (fun i X W => match i with
    | 0 => X = .pointer (some ⟨ga, 2, none⟩)
    | 1 => X = .int .i64 q
    | 2 => X = .pointer (some ⟨gs, 5, none⟩)
    | 3 => X = .slice (some ⟨b, f, none⟩) n c
    | 4 => X = .int .i64 (k : Int)
    | 5 => X = .pointer (some ⟨b, f + k * 7, none⟩)
    | 6 => X = .pointer (some ⟨b, f + k * 7 + 4, none⟩)
    | 7 => X = .int .i64 q
    | 8 => X = .bool false
    | 9 => X = .bool false
    | 10 => X = .int .i64 0
    | 11 => X = .bool true
    | 12 => X = .bool true
    | 13 => X = .pointer (some ⟨gb, 2, none⟩)
    | 14 => X = .int .i64 (q + 1)
    | 15 => X = .pointer (some ⟨ga, 2, none⟩)
    | 16 => X = .int .i64 q
    | 17 => X = .int .i64 (q + 1)
    | 18 => X = .bool false
    | 19 => X = .bool false
    | 20 => X = .pointer (some ⟨gu, 6, none⟩)
    | 21 => X = .slice o7 n7 c7
    | 22 => X = .int .i64 (n7 : Int)
    | 23 => X = .pointer (some ⟨gt, 6, none⟩)
    | 24 => X = .slice o6 n6 c6
    | 25 => X = .int .i64 (n6 : Int)
    | 26 => X = .bool false
    | 27 => X = .bool false
    | 28 => X = .bool false
    | 29 => X = .bool false
    | _ => True) ?_ (by kernel_rfl) ?_ ?_
  · intro i X W W' HB H
    iterate 30 (obtain _ | i := i; first | exact H)
    exact H
  · refine ⟨?_, ?_, ?_, ?_, ?_, ?_, ?_, ?_, ?_, ?_, ?_, ?_, ?_, ?_, ?_, ?_, ?_, ?_, ?_, ?_, ?_, ?_, ?_, ?_, ?_, ?_, ?_, ?_, ?_, ?_, trivial⟩
    all_goals (intro σ W HJ hdep; simp [Region.binds] at hdep; have HJ := hid HJ; obtain ⟨gsk0, gsk1, gsk2, gsk3, gsk4, gsk5, gsk6, gsk7, gsk8, gsk9⟩ := (hgs.out.below HJ.out hgs.out.lt).k10; obtain ⟨gak0, gak1, gak2, gak3, gak4⟩ := (hga.out.below HJ.out hga.out.lt).k5; obtain ⟨gtk0, gtk1, gtk2, gtk3, gtk4, gtk5, gtk6, gtk7, gtk8, gtk9⟩ := (hgt.out.below HJ.out hgt.out.lt).k10; obtain ⟨guk0, guk1, guk2, guk3, guk4, guk5, guk6, guk7, guk8, guk9⟩ := (hgu.out.below HJ.out hgu.out.lt).k10; obtain ⟨gbk0, gbk1, gbk2, gbk3, gbk4⟩ := (hgb.out.below HJ.out hgb.out.lt).k5; have bk0 := hcb.out; replace bk0 := (HJ.out.cell (by exact hbb)).trans bk0)
    · refine wpOp_plain rfl rfl ?_; go_simp; exact Left.mk0 _ (by first | rfl | simp [updF, *]) HJ.out rfl
    · refine wpOp_plain rfl rfl ?_; go_simp; exact Left.mk0 _ (by first | rfl | simp [updF, *]) HJ.out rfl
    · refine wpOp_plain rfl rfl ?_; go_simp; exact Left.mk0 _ (by first | rfl | simp [updF, *]) HJ.out rfl
    · refine wpOp_plain rfl rfl ?_; go_simp; exact Left.mk0 _ (by first | rfl | simp [updF, *]) HJ.out rfl
    · refine wpOp_plain rfl rfl ?_; go_simp; exact Left.mk0 _ (by first | rfl | simp [updF, *]) HJ.out rfl
    · refine wpOp_plain rfl rfl ?_; go_simp; exact Left.mk0 _ (by first | rfl | simp [updF, *]) HJ.out rfl
    · refine wpOp_plain rfl rfl ?_; go_simp; exact Left.mk0 _ (by first | rfl | simp [updF, *]) HJ.out rfl
    · refine wpOp_plain rfl rfl ?_; go_simp; exact Left.mk0 _ (by first | rfl | simp [updF, *]) HJ.out rfl
    · refine wpOp_plain rfl rfl ?_; go_simp; exact Left.mk0 _ (by first | rfl | simp [updF, *]) HJ.out rfl
    · refine wpOp_plain rfl rfl ?_; go_simp; exact Left.mk0 _ (by first | rfl | simp [updF, *]) HJ.out rfl
    · refine wpOp_want rfl (by simp [Region.wanted, yielded, *]) ?_; go_simp; exact Left.mk0 _ (by first | rfl | simp [updF, *]) HJ.out rfl
    · refine wpOp_want rfl (by simp [Region.wanted, yielded, *]) ?_; go_simp; exact Left.mk0 _ (by first | rfl | simp [updF, *]) HJ.out rfl
    · refine wpOp_want rfl (by simp [Region.wanted, yielded, *]) ?_; go_simp; exact Left.mk0 _ (by first | rfl | simp [updF, *]) HJ.out rfl
    · refine wpOp_want rfl (by simp [Region.wanted, yielded, *]) ?_; go_simp; exact Left.mk0 _ (by first | rfl | simp [updF, *]) HJ.out rfl
    · refine wpOp_want rfl (by simp [Region.wanted, yielded, *]) ?_; go_simp; exact Left.mk0 _ (by first | rfl | simp [updF, *]) HJ.out rfl
    · refine wpOp_want rfl (by simp [Region.wanted, yielded, *]) ?_; go_simp; exact Left.mk0 _ (by first | rfl | simp [updF, *]) HJ.out rfl
    · refine wpOp_want rfl (by simp [Region.wanted, yielded, *]) ?_; go_simp; exact Left.mk0 _ (by first | rfl | simp [updF, *]) HJ.out rfl
    · refine wpOp_want rfl (by simp [Region.wanted, yielded, *]) ?_; go_simp; exact Left.mk0 _ (by first | rfl | simp [updF, *]) HJ.out rfl
    · refine wpOp_want rfl (by simp [Region.wanted, yielded, *]) ?_; go_simp; exact Left.mk0 _ (by first | rfl | simp [updF, *]) HJ.out rfl
    · refine wpOp_want rfl (by simp [Region.wanted, yielded, *]) ?_; go_simp; exact Left.mk0 _ (by first | rfl | simp [updF, *]) HJ.out rfl
    · refine wpOp_want rfl (by simp [Region.wanted, yielded, *]) ?_; go_simp; exact Left.mk0 _ (by first | rfl | simp [updF, *]) HJ.out rfl
    · refine wpOp_want rfl (by simp [Region.wanted, yielded, *]) ?_; go_simp; exact Left.mk0 _ (by first | rfl | simp [updF, *]) HJ.out rfl
    · refine wpOp_want rfl (by simp [Region.wanted, yielded, *]) ?_; go_simp; exact Left.mk0 _ (by first | rfl | simp [updF, *]) HJ.out rfl
    · refine wpOp_want rfl (by simp [Region.wanted, yielded, *]) ?_; go_simp; exact Left.mk0 _ (by first | rfl | simp [updF, *]) HJ.out rfl
    · refine wpOp_want rfl (by simp [Region.wanted, yielded, *]) ?_; go_simp; exact Left.mk0 _ (by first | rfl | simp [updF, *]) HJ.out rfl
    · refine wpOp_want rfl (by simp [Region.wanted, yielded, *]) ?_; go_simp; exact Left.mk0 _ (by first | rfl | simp [updF, *]) HJ.out rfl
    · refine wpOp_want rfl (by simp [Region.wanted, yielded, *]) ?_; go_simp; exact Left.mk0 _ (by first | rfl | simp [updF, *]) HJ.out rfl
    · refine wpOp_want rfl (by simp [Region.wanted, yielded, *]) ?_; go_simp; exact Left.mk0 _ (by first | rfl | simp [updF, *]) HJ.out rfl
    · refine wpOp_want rfl (by simp [Region.wanted, yielded, *]) ?_; go_simp; exact Left.mk0 _ (by first | rfl | simp [updF, *]) HJ.out rfl
    · refine wpOp_plain rfl rfl ?_; go_simp; exact Left.mk0 _ (by first | rfl | simp [updF, *]) HJ.out rfl
  · intro σ w' hb hg
    exact hQ.out σ w' hb (hg 29 (by decide))
set_option maxRecDepth 100000 in
set_option maxHeartbeats 4000000 in
theorem numR13 {y0 y1 y2 y3 y4 y5 y6 y7 y8 y9 y10 y11 y12 y14 y15 y17 y18 y19 y20 y21 y22 y25 y26 y27 y28 y29 y30 y31 y32 y33 y34 y35 y36 y37 y38 y39 y40 y41 y42 y43 y44 y45 y46 y47 y48 y49 y50 y51 y52 y53 y54 y55 y56 y57 y58 y59 y60 y61 y62 y63 y64 y65 y66 y67 y68 y69 y70 y71 y72 y73 y74 y75 y76 y77 y78 y79 y80 y81 y82 y83 y84 y85 y86 y87 y88 y89 y90 y91 y92 y93 y94 y95 y104 y105 y106 y107 y108 y109 y110 y111 y112 y113 y114 y115 y116 y117 y118 y119 y120 y121 z16 z96 z97 z98 z99 z100 z101 z102 z103 : Value} {x0 x1 x2 x3 x4 x6 x7 x8 x9 p0 p2 p3 p4 : Value} {gr gp gc b f k n c : Nat} {e1 : Bool} {e0 e2 e3 e4 e5 e6 : Int} {w : World} (hgr : Hid (Row w gr 28 [x0, x1, x2, x3, x4, .slice (some ⟨b, f, none⟩) n c, x6, x7, x8, x9])) (hgp : Hid (Row w gp 31 [p0, .int .i64 (k : Int), p2, p3, p4])) (hgc : Hid (Row w gc 53 [.int .i64 e0, .bool e1, .int .i64 e2, .int .i64 e3, .int .i64 e4, .int .i64 e5, .int .i64 e6])) (hlb : (k : Int) < (n : Int)) (hbb : b < w.heap.size) (hcb : Hid (w.cell? ⟨b, f + k * 7, none⟩ = some (.int .i64 e0) ∧ w.cell? ⟨b, f + k * 7 + 1, none⟩ = some (.bool e1) ∧ w.cell? ⟨b, f + k * 7 + 2, none⟩ = some (.int .i64 e2) ∧ w.cell? ⟨b, f + k * 7 + 3, none⟩ = some (.int .i64 e3) ∧ w.cell? ⟨b, f + k * 7 + 4, none⟩ = some (.int .i64 e4) ∧ w.cell? ⟨b, f + k * 7 + 5, none⟩ = some (.int .i64 e5) ∧ w.cell? ⟨b, f + k * 7 + 6, none⟩ = some (.int .i64 e6)))  (Q : Exit → Act → World → Prop)
    (hQ : Hid (∀ (σ : Nat → Value) (w' : World), Below w.heap.size w w' → σ 8 = .bool true → Q .normal ⟨#[y0, y1, y2, y3, y4, y5, y6, y7, y8, y9, y10, y11, y12, .pointer (some ⟨gp, 0, none⟩), y14, y15, σ 8, y17, y18, y19, y20, y21, y22, .pointer (some ⟨gr, 0, none⟩), .pointer (some ⟨gc, 0, none⟩), y25, y26, y27, y28, y29, y30, y31, y32, y33, y34, y35, y36, y37, y38, y39, y40, y41, y42, y43, y44, y45, y46, y47, y48, y49, y50, y51, y52, y53, y54, y55, y56, y57, y58, y59, y60, y61, y62, y63, y64, y65, y66, y67, y68, y69, y70, y71, y72, y73, y74, y75, y76, y77, y78, y79, y80, y81, y82, y83, y84, y85, y86, y87, y88, y89, y90, y91, y92, y93, y94, y95, σ 0, σ 1, σ 2, σ 3, σ 4, σ 5, σ 6, σ 7, y104, y105, y106, y107, y108, y109, y110, y111, y112, y113, y114, y115, y116, y117, y118, y119, y120, y121], []⟩ w')) :
    Code.wp Tryz.prog (.region 13 ((Tryz.f5.body.bind (regOf 13)).getD #[]) true) Q ⟨#[y0, y1, y2, y3, y4, y5, y6, y7, y8, y9, y10, y11, y12, .pointer (some ⟨gp, 0, none⟩), y14, y15, z16, y17, y18, y19, y20, y21, y22, .pointer (some ⟨gr, 0, none⟩), .pointer (some ⟨gc, 0, none⟩), y25, y26, y27, y28, y29, y30, y31, y32, y33, y34, y35, y36, y37, y38, y39, y40, y41, y42, y43, y44, y45, y46, y47, y48, y49, y50, y51, y52, y53, y54, y55, y56, y57, y58, y59, y60, y61, y62, y63, y64, y65, y66, y67, y68, y69, y70, y71, y72, y73, y74, y75, y76, y77, y78, y79, y80, y81, y82, y83, y84, y85, y86, y87, y88, y89, y90, y91, y92, y93, y94, y95, z96, z97, z98, z99, z100, z101, z102, z103, y104, y105, y106, y107, y108, y109, y110, y111, y112, y113, y114, y115, y116, y117, y118, y119, y120, y121], []⟩ w := by
  conv => arg 2; arg 2; whnf
  conv => arg 4; dsimp only
  refine region_grows (by kernel_rfl) (fun σ => #[y0, y1, y2, y3, y4, y5, y6, y7, y8, y9, y10, y11, y12, .pointer (some ⟨gp, 0, none⟩), y14, y15, σ 8, y17, y18, y19, y20, y21, y22, .pointer (some ⟨gr, 0, none⟩), .pointer (some ⟨gc, 0, none⟩), y25, y26, y27, y28, y29, y30, y31, y32, y33, y34, y35, y36, y37, y38, y39, y40, y41, y42, y43, y44, y45, y46, y47, y48, y49, y50, y51, y52, y53, y54, y55, y56, y57, y58, y59, y60, y61, y62, y63, y64, y65, y66, y67, y68, y69, y70, y71, y72, y73, y74, y75, y76, y77, y78, y79, y80, y81, y82, y83, y84, y85, y86, y87, y88, y89, y90, y91, y92, y93, y94, y95, σ 0, σ 1, σ 2, σ 3, σ 4, σ 5, σ 6, σ 7, y104, y105, y106, y107, y108, y109, y110, y111, y112, y113, y114, y115, y116, y117, y118, y119, y120, y121]) (fun i => ([z96, z97, z98, z99, z100, z101, z102, z103, z16] : List Value).getD i undef) rfl (fun i X W => match i with
    | 0 => X = .pointer (some ⟨gr, 5, none⟩)
    | 1 => X = .slice (some ⟨b, f, none⟩) n c
    | 2 => X = .pointer (some ⟨gp, 1, none⟩)
    | 3 => X = .int .i64 (k : Int)
    | 4 => X = .pointer (some ⟨b, f + k * 7, none⟩)
    | 5 => X = .agg #[.int .i64 e0, .bool e1, .int .i64 e2, .int .i64 e3, .int .i64 e4, .int .i64 e5, .int .i64 e6]
    | 6 => X = .agg #[.int .i64 e0, .bool e1, .int .i64 e2, .int .i64 e3, .int .i64 e4, .int .i64 e5, .int .i64 e6]
    | 7 => X = .bool true
    | 8 => X = .bool true
    | _ => True) ?_ (by kernel_rfl) ?_ ?_
  · intro i X W W' HB H
    iterate 9 (obtain _ | i := i; first | exact H)
    exact H
  · refine ⟨?_, ?_, ?_, ?_, ?_, ?_, ?_, ?_, ?_, trivial⟩
    all_goals (intro σ W HJ hdep; simp [Region.binds] at hdep; have HJ := hid HJ; obtain ⟨grk0, grk1, grk2, grk3, grk4, grk5, grk6, grk7, grk8, grk9⟩ := (hgr.out.below HJ.out hgr.out.lt).k10; obtain ⟨gpk0, gpk1, gpk2, gpk3, gpk4⟩ := (hgp.out.below HJ.out hgp.out.lt).k5; obtain ⟨gck0, gck1, gck2, gck3, gck4, gck5, gck6⟩ := (hgc.out.below HJ.out hgc.out.lt).k7; obtain ⟨bk0, bk1, bk2, bk3, bk4, bk5, bk6⟩ := hcb.out; replace bk0 := (HJ.out.cell (by exact hbb)).trans bk0; replace bk1 := (HJ.out.cell (by exact hbb)).trans bk1; replace bk2 := (HJ.out.cell (by exact hbb)).trans bk2; replace bk3 := (HJ.out.cell (by exact hbb)).trans bk3; replace bk4 := (HJ.out.cell (by exact hbb)).trans bk4; replace bk5 := (HJ.out.cell (by exact hbb)).trans bk5; replace bk6 := (HJ.out.cell (by exact hbb)).trans bk6)
    · refine wpOp_plain rfl rfl ?_; go_simp; exact Left.mk0 _ (by first | rfl | simp [updF, *]) HJ.out rfl
    · refine wpOp_plain rfl rfl ?_; go_simp; exact Left.mk0 _ (by first | rfl | simp [updF, *]) HJ.out rfl
    · refine wpOp_plain rfl rfl ?_; go_simp; exact Left.mk0 _ (by first | rfl | simp [updF, *]) HJ.out rfl
    · refine wpOp_plain rfl rfl ?_; go_simp; exact Left.mk0 _ (by first | rfl | simp [updF, *]) HJ.out rfl
    · refine wpOp_plain rfl rfl ?_; go_simp; exact Left.mk0 _ (by first | rfl | simp [updF, *]) HJ.out rfl
    · refine wpOp_plain rfl rfl ?_; go_simp; exact Left.mk0 _ (by first | rfl | simp [updF, *]) HJ.out rfl
    · refine wpOp_plain rfl rfl ?_; go_simp; exact Left.mk0 _ (by first | rfl | simp [updF, *]) HJ.out rfl
    · refine wpOp_plain rfl rfl ?_; go_simp; exact Left.mk0 _ (by first | rfl | simp [updF, *]) HJ.out rfl
    · refine wpOp_plain rfl rfl ?_; go_simp; exact Left.mk0 _ (by first | rfl | simp [updF, *]) HJ.out rfl
  · intro σ w' hb hg
    exact hQ.out σ w' hb (hg 8 (by decide))
set_option maxRecDepth 100000 in
set_option maxHeartbeats 4000000 in
theorem numR14 {y0 y1 y2 y3 y4 y5 y6 y7 y8 y9 y10 y11 y12 y14 y15 y17 y18 y19 y20 y21 y22 y25 y26 y27 y28 y29 y30 y31 y32 y33 y34 y35 y36 y37 y38 y39 y40 y41 y42 y43 y44 y45 y46 y47 y48 y49 y50 y51 y52 y53 y54 y55 y56 y57 y58 y59 y60 y61 y62 y63 y64 y65 y66 y67 y68 y69 y70 y71 y72 y73 y74 y75 y76 y77 y78 y79 y80 y81 y82 y83 y84 y85 y86 y87 y88 y89 y90 y91 y92 y93 y94 y95 y96 y97 y98 y99 y100 y101 y102 y103 z16 z104 z105 z106 z107 z108 z109 z110 z111 z112 z113 z114 z115 z116 z117 z118 z119 z120 z121 : Value} {x0 x1 x2 x3 x4 x6 x7 x8 x9 p0 p3 p4 : Value} {gr gp gc b f k n c : Nat} {q : Int} {e1 : Bool} {e0 e2 e3 e4 e6 : Int} {w : World} (hgr : Hid (Row w gr 28 [x0, x1, x2, x3, x4, .slice (some ⟨b, f, none⟩) n c, x6, x7, x8, x9])) (hgp : Hid (Row w gp 31 [p0, .int .i64 (k : Int), .int .i64 q, p3, p4])) (hgc : Hid (Row w gc 53 [.int .i64 e0, .bool e1, .int .i64 e2, .int .i64 e3, .int .i64 e4, .int .i64 q, .int .i64 e6])) (hlb : (k : Int) < (n : Int)) (hbb : b < w.heap.size) (hcb : Hid (w.cell? ⟨b, f + k * 7 + 5, none⟩ = some (.int .i64 (q + 1)))) (hwr : IntKind.i64.wrap (q + 1) = q + 1) (Q : Exit → Act → World → Prop)
    (hQ : Hid (∀ (σ : Nat → Value) (w' : World), Below w.heap.size w w' → σ 18 = .bool true → Q .normal ⟨#[y0, y1, y2, y3, y4, y5, y6, y7, y8, y9, y10, y11, y12, .pointer (some ⟨gp, 0, none⟩), y14, y15, σ 18, y17, y18, y19, y20, y21, y22, .pointer (some ⟨gr, 0, none⟩), .pointer (some ⟨gc, 0, none⟩), y25, y26, y27, y28, y29, y30, y31, y32, y33, y34, y35, y36, y37, y38, y39, y40, y41, y42, y43, y44, y45, y46, y47, y48, y49, y50, y51, y52, y53, y54, y55, y56, y57, y58, y59, y60, y61, y62, y63, y64, y65, y66, y67, y68, y69, y70, y71, y72, y73, y74, y75, y76, y77, y78, y79, y80, y81, y82, y83, y84, y85, y86, y87, y88, y89, y90, y91, y92, y93, y94, y95, y96, y97, y98, y99, y100, y101, y102, y103, σ 0, σ 1, σ 2, σ 3, σ 4, σ 5, σ 6, σ 7, σ 8, σ 9, σ 10, σ 11, σ 12, σ 13, σ 14, σ 15, σ 16, σ 17], []⟩ w')) :
    Code.wp Tryz.prog (.region 14 ((Tryz.f5.body.bind (regOf 14)).getD #[]) true) Q ⟨#[y0, y1, y2, y3, y4, y5, y6, y7, y8, y9, y10, y11, y12, .pointer (some ⟨gp, 0, none⟩), y14, y15, z16, y17, y18, y19, y20, y21, y22, .pointer (some ⟨gr, 0, none⟩), .pointer (some ⟨gc, 0, none⟩), y25, y26, y27, y28, y29, y30, y31, y32, y33, y34, y35, y36, y37, y38, y39, y40, y41, y42, y43, y44, y45, y46, y47, y48, y49, y50, y51, y52, y53, y54, y55, y56, y57, y58, y59, y60, y61, y62, y63, y64, y65, y66, y67, y68, y69, y70, y71, y72, y73, y74, y75, y76, y77, y78, y79, y80, y81, y82, y83, y84, y85, y86, y87, y88, y89, y90, y91, y92, y93, y94, y95, y96, y97, y98, y99, y100, y101, y102, y103, z104, z105, z106, z107, z108, z109, z110, z111, z112, z113, z114, z115, z116, z117, z118, z119, z120, z121], []⟩ w := by
  conv => arg 2; arg 2; whnf
  conv => arg 4; dsimp only
  refine region_grows (by kernel_rfl) (fun σ => #[y0, y1, y2, y3, y4, y5, y6, y7, y8, y9, y10, y11, y12, .pointer (some ⟨gp, 0, none⟩), y14, y15, σ 18, y17, y18, y19, y20, y21, y22, .pointer (some ⟨gr, 0, none⟩), .pointer (some ⟨gc, 0, none⟩), y25, y26, y27, y28, y29, y30, y31, y32, y33, y34, y35, y36, y37, y38, y39, y40, y41, y42, y43, y44, y45, y46, y47, y48, y49, y50, y51, y52, y53, y54, y55, y56, y57, y58, y59, y60, y61, y62, y63, y64, y65, y66, y67, y68, y69, y70, y71, y72, y73, y74, y75, y76, y77, y78, y79, y80, y81, y82, y83, y84, y85, y86, y87, y88, y89, y90, y91, y92, y93, y94, y95, y96, y97, y98, y99, y100, y101, y102, y103, σ 0, σ 1, σ 2, σ 3, σ 4, σ 5, σ 6, σ 7, σ 8, σ 9, σ 10, σ 11, σ 12, σ 13, σ 14, σ 15, σ 16, σ 17]) (fun i => ([z104, z105, z106, z107, z108, z109, z110, z111, z112, z113, z114, z115, z116, z117, z118, z119, z120, z121, z16] : List Value).getD i undef) rfl (fun i X W => match i with
    | 0 => X = .pointer (some ⟨gp, 2, none⟩)
    | 1 => X = .int .i64 q
    | 2 => X = .pointer (some ⟨gc, 5, none⟩)
    | 3 => X = .int .i64 q
    | 4 => X = .bool true
    | 5 => X = .bool true
    | 6 => X = .pointer (some ⟨gr, 5, none⟩)
    | 7 => X = .slice (some ⟨b, f, none⟩) n c
    | 8 => X = .pointer (some ⟨gp, 1, none⟩)
    | 9 => X = .int .i64 (k : Int)
    | 10 => X = .pointer (some ⟨b, f + k * 7, none⟩)
    | 11 => X = .pointer (some ⟨b, f + k * 7 + 5, none⟩)
    | 12 => X = .int .i64 (q + 1)
    | 13 => X = .pointer (some ⟨gc, 5, none⟩)
    | 14 => X = .int .i64 q
    | 15 => X = .int .i64 (q + 1)
    | 16 => X = .bool true
    | 17 => X = .bool true
    | 18 => X = .bool true
    | _ => True) ?_ (by kernel_rfl) ?_ ?_
  · intro i X W W' HB H
    iterate 19 (obtain _ | i := i; first | exact H)
    exact H
  · refine ⟨?_, ?_, ?_, ?_, ?_, ?_, ?_, ?_, ?_, ?_, ?_, ?_, ?_, ?_, ?_, ?_, ?_, ?_, ?_, trivial⟩
    all_goals (intro σ W HJ hdep; simp [Region.binds] at hdep; have HJ := hid HJ; obtain ⟨grk0, grk1, grk2, grk3, grk4, grk5, grk6, grk7, grk8, grk9⟩ := (hgr.out.below HJ.out hgr.out.lt).k10; obtain ⟨gpk0, gpk1, gpk2, gpk3, gpk4⟩ := (hgp.out.below HJ.out hgp.out.lt).k5; obtain ⟨gck0, gck1, gck2, gck3, gck4, gck5, gck6⟩ := (hgc.out.below HJ.out hgc.out.lt).k7; have bk0 := hcb.out; replace bk0 := (HJ.out.cell (by exact hbb)).trans bk0)
    · refine wpOp_plain rfl rfl ?_; go_simp; exact Left.mk0 _ (by first | rfl | simp [updF, *]) HJ.out rfl
    · refine wpOp_plain rfl rfl ?_; go_simp; exact Left.mk0 _ (by first | rfl | simp [updF, *]) HJ.out rfl
    · refine wpOp_plain rfl rfl ?_; go_simp; exact Left.mk0 _ (by first | rfl | simp [updF, *]) HJ.out rfl
    · refine wpOp_plain rfl rfl ?_; go_simp; exact Left.mk0 _ (by first | rfl | simp [updF, *]) HJ.out rfl
    · refine wpOp_plain rfl rfl ?_; go_simp; exact Left.mk0 _ (by first | rfl | simp [updF, *]) HJ.out rfl
    · refine wpOp_plain rfl rfl ?_; go_simp; exact Left.mk0 _ (by first | rfl | simp [updF, *]) HJ.out rfl
    · refine wpOp_want rfl (by simp [Region.wanted, yielded, *]) ?_; go_simp; exact Left.mk0 _ (by first | rfl | simp [updF, *]) HJ.out rfl
    · refine wpOp_want rfl (by simp [Region.wanted, yielded, *]) ?_; go_simp; exact Left.mk0 _ (by first | rfl | simp [updF, *]) HJ.out rfl
    · refine wpOp_want rfl (by simp [Region.wanted, yielded, *]) ?_; go_simp; exact Left.mk0 _ (by first | rfl | simp [updF, *]) HJ.out rfl
    · refine wpOp_want rfl (by simp [Region.wanted, yielded, *]) ?_; go_simp; exact Left.mk0 _ (by first | rfl | simp [updF, *]) HJ.out rfl
    · refine wpOp_want rfl (by simp [Region.wanted, yielded, *]) ?_; go_simp; exact Left.mk0 _ (by first | rfl | simp [updF, *]) HJ.out rfl
    · refine wpOp_want rfl (by simp [Region.wanted, yielded, *]) ?_; go_simp; exact Left.mk0 _ (by first | rfl | simp [updF, *]) HJ.out rfl
    · refine wpOp_want rfl (by simp [Region.wanted, yielded, *]) ?_; go_simp; exact Left.mk0 _ (by first | rfl | simp [updF, *]) HJ.out rfl
    · refine wpOp_want rfl (by simp [Region.wanted, yielded, *]) ?_; go_simp; exact Left.mk0 _ (by first | rfl | simp [updF, *]) HJ.out rfl
    · refine wpOp_want rfl (by simp [Region.wanted, yielded, *]) ?_; go_simp; exact Left.mk0 _ (by first | rfl | simp [updF, *]) HJ.out rfl
    · refine wpOp_want rfl (by simp [Region.wanted, yielded, *]) ?_; go_simp; exact Left.mk0 _ (by first | rfl | simp [updF, *]) HJ.out rfl
    · refine wpOp_want rfl (by simp [Region.wanted, yielded, *]) ?_; go_simp; exact Left.mk0 _ (by first | rfl | simp [updF, *]) HJ.out rfl
    · refine wpOp_plain rfl rfl ?_; go_simp; exact Left.mk0 _ (by first | rfl | simp [updF, *]) HJ.out rfl
    · refine wpOp_plain rfl rfl ?_; go_simp; exact Left.mk0 _ (by first | rfl | simp [updF, *]) HJ.out rfl
  · intro σ w' hb hg
    exact hQ.out σ w' hb (hg 18 (by decide))
end Go.Proofs.YtclhcjiblfokaaaGreatDoor
