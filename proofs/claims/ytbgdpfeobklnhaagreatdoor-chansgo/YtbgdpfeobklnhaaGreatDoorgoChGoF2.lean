/-
  ChansGo: its closures, the others.
-/
import Derived.Test.YtbgdpfeobklnhaaGreatDoorgoFrKit
import Derived.Test.YtbgdpfeobklnhaaGreatDoorgoSt9RKit
import Derived.Test.YtbgdpfeobklnhaaGreatDoorgoChAdd
namespace Go.Proofs.YtbgdpfeobklnhaaGreatDoor
open Go.RowKit

set_option maxRecDepth 100000 in
set_option maxHeartbeats 4000000 in
theorem clo3_any {x0 x1 x2 x3 x4 x5 x6 x7 x8 x9 a q u0 u1 u2 u3 u4 u5 u6 u7 u8 u9 u10 u11 u12 u13 u14 u15 u16 u17 : Value} {gs ga gq gh N : Nat} {n : Int} {t : St} (w : World) (hN : N ≤ w.heap.size) (hgs : Row w gs 28 [x0, x1, x2, x3, x4, x5, x6, x7, x8, x9]) (hga : Row w ga 3 [a]) (hgq : Row w gq 3 [q]) (hgh : Row w gh 36 [u0, u1, u2, u3, u4, u5, u6, u7, u8, u9, u10, u11, u12, u13, u14, u15, u16, u17]) (hc : ∀ W, Below w.heap.size w W → Calls Tryz.prog 9 #[.agg #[x0, x1, x2, x3, x4, x5, x6, x7, x8, x9], a, q, .agg #[u0, u1, u2, u3, u4, u5, u6, u7, u8, u9, u10, u11, u12, u13, u14, u15, u16, u17]] W fun e w' => Below W.heap.size W w' ∧ ∃ v', e = .returned (.tuple #[v', .int .i64 n]) ∧ HoldsS N W.heap.size w' v' t) :
    Calls Tryz.prog 16 #[.pointer (some ⟨gs, 0, none⟩), .pointer (some ⟨ga, 0, none⟩), .pointer (some ⟨gq, 0, none⟩), .pointer (some ⟨gh, 0, none⟩)] w fun e w' => Below w.heap.size w w' ∧ ∃ v', e = .returned (.tuple #[v', .int .i64 n]) ∧ HoldsS N w.heap.size w' v' t := by
  have Hgs := hid hgs
  have Hga := hid hga
  have Hgq := hid hgq
  have Hgh := hid hgh
  have HC := hid hc
  clear hc hgs hga hgq hgh
  go_enter Tryz.func16, Tryz.ntmps16
  go_upto_region 1 with fail
  refine fbox1 ?_
  intro w0 F hs
  clear hs
  obtain ⟨gsc0, gsc1, gsc2, gsc3, gsc4, gsc5, gsc6, gsc7, gsc8, gsc9⟩ := (Hgs.out.below F.b Hgs.out.lt).k10
  have gac := ((Hga.out.below F.b Hga.out.lt).cell 0)
  simp at gac
  have gqc := ((Hgq.out.below F.b Hgq.out.lt).cell 0)
  simp at gqc
  obtain ⟨ghc0, ghc1, ghc2, ghc3, ghc4, ghc5, ghc6, ghc7, ghc8, ghc9, ghc10, ghc11, ghc12, ghc13, ghc14, ghc15, ghc16, ghc17⟩ := (Hgh.out.below F.b Hgh.out.lt).k18
  go_wp2_with fail
  refine (HC.out _ F.b).mono ?_
  rintro e w1 ⟨hb1, v', rfl, hva⟩
  have F1 := F.go hb1
  clear hb1 gsc0 gsc1 gsc2 gsc3 gsc4 gsc5 gsc6 gsc7 gsc8 gsc9 gac gqc ghc0 ghc1 ghc2 ghc3 ghc4 ghc5 ghc6 ghc7 ghc8 ghc9 ghc10 ghc11 ghc12 ghc13 ghc14 ghc15 ghc16 ghc17
  obtain ⟨a0, a1, a2, a3, a4, a5, a6, a7, a8, a9, rfl, hon⟩ := hva.now.ten
  have HVA := hid hva
  have HON := hid hon
  clear hva hon
  go_wp2_with (refine F1.store 0 rfl rfl rfl rfl rfl structState rfl HON.out ?_; intro w4 F4 O4)
  refine ret_ct Tryz.results16 rfl F4.r0 structState rfl ⟨F4.b, _, rfl, ?_⟩
  exact (HVA.out.only O4 hN F.r0.lt).lower F.b.size
set_option maxRecDepth 100000 in
set_option maxHeartbeats 4000000 in
theorem clo4_any {x0 x1 x2 x3 x4 x5 x6 x7 x8 x9 a u0 u1 u2 u3 u4 u5 u6 u7 u8 u9 u10 u11 u12 u13 u14 u15 u16 u17 : Value} {gs ga gh N : Nat} {n : Int} {t : St} (w : World) (hN : N ≤ w.heap.size) (hgs : Row w gs 28 [x0, x1, x2, x3, x4, x5, x6, x7, x8, x9]) (hga : Row w ga 3 [a]) (hgh : Row w gh 36 [u0, u1, u2, u3, u4, u5, u6, u7, u8, u9, u10, u11, u12, u13, u14, u15, u16, u17]) (hc : ∀ W, Below w.heap.size w W → Calls Tryz.prog 10 #[.agg #[x0, x1, x2, x3, x4, x5, x6, x7, x8, x9], a, .agg #[u0, u1, u2, u3, u4, u5, u6, u7, u8, u9, u10, u11, u12, u13, u14, u15, u16, u17]] W fun e w' => Below W.heap.size W w' ∧ ∃ v', e = .returned (.tuple #[v', .int .i64 n]) ∧ HoldsS N W.heap.size w' v' t) :
    Calls Tryz.prog 17 #[.pointer (some ⟨gs, 0, none⟩), .pointer (some ⟨ga, 0, none⟩), .pointer (some ⟨gh, 0, none⟩)] w fun e w' => Below w.heap.size w w' ∧ ∃ v', e = .returned (.tuple #[v', .int .i64 n]) ∧ HoldsS N w.heap.size w' v' t := by
  have Hgs := hid hgs
  have Hga := hid hga
  have Hgh := hid hgh
  have HC := hid hc
  clear hc hgs hga hgh
  go_enter Tryz.func17, Tryz.ntmps17
  go_upto_region 1 with fail
  refine fbox1 ?_
  intro w0 F hs
  clear hs
  obtain ⟨gsc0, gsc1, gsc2, gsc3, gsc4, gsc5, gsc6, gsc7, gsc8, gsc9⟩ := (Hgs.out.below F.b Hgs.out.lt).k10
  have gac := ((Hga.out.below F.b Hga.out.lt).cell 0)
  simp at gac
  obtain ⟨ghc0, ghc1, ghc2, ghc3, ghc4, ghc5, ghc6, ghc7, ghc8, ghc9, ghc10, ghc11, ghc12, ghc13, ghc14, ghc15, ghc16, ghc17⟩ := (Hgh.out.below F.b Hgh.out.lt).k18
  go_wp2_with fail
  refine (HC.out _ F.b).mono ?_
  rintro e w1 ⟨hb1, v', rfl, hva⟩
  have F1 := F.go hb1
  clear hb1 gsc0 gsc1 gsc2 gsc3 gsc4 gsc5 gsc6 gsc7 gsc8 gsc9 gac ghc0 ghc1 ghc2 ghc3 ghc4 ghc5 ghc6 ghc7 ghc8 ghc9 ghc10 ghc11 ghc12 ghc13 ghc14 ghc15 ghc16 ghc17
  obtain ⟨a0, a1, a2, a3, a4, a5, a6, a7, a8, a9, rfl, hon⟩ := hva.now.ten
  have HVA := hid hva
  have HON := hid hon
  clear hva hon
  go_wp2_with (refine F1.store 0 rfl rfl rfl rfl rfl structState rfl HON.out ?_; intro w4 F4 O4)
  refine ret_ct Tryz.results17 rfl F4.r0 structState rfl ⟨F4.b, _, rfl, ?_⟩
  exact (HVA.out.only O4 hN F.r0.lt).lower F.b.size
set_option maxRecDepth 100000 in
set_option maxHeartbeats 4000000 in
theorem clo5_any {x0 x1 x2 x3 x4 x5 x6 x7 x8 x9 a : Value} {gs ga N : Nat} {n : Int} {t : St} (w : World) (hN : N ≤ w.heap.size) (hgs : Row w gs 28 [x0, x1, x2, x3, x4, x5, x6, x7, x8, x9]) (hga : Row w ga 3 [a]) (hc : ∀ W, Below w.heap.size w W → Calls Tryz.prog 11 #[.agg #[x0, x1, x2, x3, x4, x5, x6, x7, x8, x9], a] W fun e w' => Below W.heap.size W w' ∧ ∃ v', e = .returned (.tuple #[v', .int .i64 n]) ∧ HoldsS N W.heap.size w' v' t) :
    Calls Tryz.prog 18 #[.pointer (some ⟨gs, 0, none⟩), .pointer (some ⟨ga, 0, none⟩)] w fun e w' => Below w.heap.size w w' ∧ ∃ v', e = .returned (.tuple #[v', .int .i64 n]) ∧ HoldsS N w.heap.size w' v' t := by
  have Hgs := hid hgs
  have Hga := hid hga
  have HC := hid hc
  clear hc hgs hga
  go_enter Tryz.func18, Tryz.ntmps18
  go_upto_region 1 with fail
  refine fbox1 ?_
  intro w0 F hs
  clear hs
  obtain ⟨gsc0, gsc1, gsc2, gsc3, gsc4, gsc5, gsc6, gsc7, gsc8, gsc9⟩ := (Hgs.out.below F.b Hgs.out.lt).k10
  have gac := ((Hga.out.below F.b Hga.out.lt).cell 0)
  simp at gac
  go_wp2_with fail
  refine (HC.out _ F.b).mono ?_
  rintro e w1 ⟨hb1, v', rfl, hva⟩
  have F1 := F.go hb1
  clear hb1 gsc0 gsc1 gsc2 gsc3 gsc4 gsc5 gsc6 gsc7 gsc8 gsc9 gac
  obtain ⟨a0, a1, a2, a3, a4, a5, a6, a7, a8, a9, rfl, hon⟩ := hva.now.ten
  have HVA := hid hva
  have HON := hid hon
  clear hva hon
  go_wp2_with (refine F1.store 0 rfl rfl rfl rfl rfl structState rfl HON.out ?_; intro w4 F4 O4)
  refine ret_ct Tryz.results18 rfl F4.r0 structState rfl ⟨F4.b, _, rfl, ?_⟩
  exact (HVA.out.only O4 hN F.r0.lt).lower F.b.size
set_option maxRecDepth 100000 in
set_option maxHeartbeats 4000000 in
theorem clo6_any {x0 x1 x2 x3 x4 x5 x6 x7 x8 x9 a u0 u1 u2 u3 u4 u5 u6 u7 u8 u9 u10 u11 u12 u13 u14 u15 u16 u17 : Value} {gs ga gh N : Nat} {n : Int} {t : St} (w : World) (hN : N ≤ w.heap.size) (hgs : Row w gs 28 [x0, x1, x2, x3, x4, x5, x6, x7, x8, x9]) (hga : Row w ga 3 [a]) (hgh : Row w gh 36 [u0, u1, u2, u3, u4, u5, u6, u7, u8, u9, u10, u11, u12, u13, u14, u15, u16, u17]) (hc : ∀ W, Below w.heap.size w W → Calls Tryz.prog 12 #[.agg #[x0, x1, x2, x3, x4, x5, x6, x7, x8, x9], a, .agg #[u0, u1, u2, u3, u4, u5, u6, u7, u8, u9, u10, u11, u12, u13, u14, u15, u16, u17]] W fun e w' => Below W.heap.size W w' ∧ ∃ v', e = .returned (.tuple #[v', .int .i64 n]) ∧ HoldsS N W.heap.size w' v' t) :
    Calls Tryz.prog 19 #[.pointer (some ⟨gs, 0, none⟩), .pointer (some ⟨ga, 0, none⟩), .pointer (some ⟨gh, 0, none⟩)] w fun e w' => Below w.heap.size w w' ∧ ∃ v', e = .returned (.tuple #[v', .int .i64 n]) ∧ HoldsS N w.heap.size w' v' t := by
  have Hgs := hid hgs
  have Hga := hid hga
  have Hgh := hid hgh
  have HC := hid hc
  clear hc hgs hga hgh
  go_enter Tryz.func19, Tryz.ntmps19
  go_upto_region 1 with fail
  refine fbox1 ?_
  intro w0 F hs
  clear hs
  obtain ⟨gsc0, gsc1, gsc2, gsc3, gsc4, gsc5, gsc6, gsc7, gsc8, gsc9⟩ := (Hgs.out.below F.b Hgs.out.lt).k10
  have gac := ((Hga.out.below F.b Hga.out.lt).cell 0)
  simp at gac
  obtain ⟨ghc0, ghc1, ghc2, ghc3, ghc4, ghc5, ghc6, ghc7, ghc8, ghc9, ghc10, ghc11, ghc12, ghc13, ghc14, ghc15, ghc16, ghc17⟩ := (Hgh.out.below F.b Hgh.out.lt).k18
  go_wp2_with fail
  refine (HC.out _ F.b).mono ?_
  rintro e w1 ⟨hb1, v', rfl, hva⟩
  have F1 := F.go hb1
  clear hb1 gsc0 gsc1 gsc2 gsc3 gsc4 gsc5 gsc6 gsc7 gsc8 gsc9 gac ghc0 ghc1 ghc2 ghc3 ghc4 ghc5 ghc6 ghc7 ghc8 ghc9 ghc10 ghc11 ghc12 ghc13 ghc14 ghc15 ghc16 ghc17
  obtain ⟨a0, a1, a2, a3, a4, a5, a6, a7, a8, a9, rfl, hon⟩ := hva.now.ten
  have HVA := hid hva
  have HON := hid hon
  clear hva hon
  go_wp2_with (refine F1.store 0 rfl rfl rfl rfl rfl structState rfl HON.out ?_; intro w4 F4 O4)
  refine ret_ct Tryz.results19 rfl F4.r0 structState rfl ⟨F4.b, _, rfl, ?_⟩
  exact (HVA.out.only O4 hN F.r0.lt).lower F.b.size
end Go.Proofs.YtbgdpfeobklnhaaGreatDoor
