/-
  ConnOnce: regions that put one more behind the states that follow.
-/
import Derived.Test.YtooemgkjkngpcaaGreatDooronceCoRest
import Derived.Test.YtooemgkjkngpcaaGreatDooronceCoAfter
namespace Go.Proofs.YtooemgkjkngpcaaGreatDoor
open Go.RowKit

set_option maxRecDepth 1000000 in
set_option maxHeartbeats 8000000 in
theorem onceM8 {sl0 sl1 sl2 sl3 sl4 sl5 sl6 sl7 sl8 sl9 sl10 sl11 sl12 sl15 sl16 sl17 sl18 sl19 sl20 sl21 sl22 sl23 sl24 sl25 sl26 sl27 sl28 sl29 sl30 sl31 sl32 sl33 sl34 sl35 sl36 sl37 sl38 sl39 sl40 sl41 sl42 sl43 sl44 sl45 sl46 sl47 sl48 sl49 sl50 sl51 sl52 sl53 sl54 sl55 sl56 sl57 sl58 sl59 sl60 sl61 sl62 sl63 sl64 sl65 sl66 sl67 sl68 sl69 sl70 sl71 sl72 sl73 sl74 sl75 sl76 sl77 sl78 sl79 sl80 sl81 sl82 sl83 sl84 sl85 sl86 sl87 sl88 sl89 sl90 sl91 sl92 sl93 sl94 sl95 sl96 sl97 sl98 sl99 sl100 sl101 sl102 sl103 sl104 sl105 sl106 sl107 sl108 sl109 sl110 sl111 sl112 sl113 sl114 sl115 sl116 sl117 sl118 sl119 sl120 sl121 sl122 sl123 sl124 sl125 sl126 sl127 sl128 sl129 sl130 sl131 sl132 sl133 sl134 sl135 sl136 sl137 sl138 sl139 : Value} {gp base : Nat} {w1 : World} (t : St) (ao0 ao1 ao2 ao3 ao4 ao5 ao6 : Option Addr) (ac0 ac1 ac2 ac3 ac4 ac5 ac6 : Nat) (v : Value) (l : List St) (F : Nat → Prop) (HR : Hid (Row w1 gp 28 [.string t.name, .int .i64 t.height, .int .i64 t.time, .slice ao0 t.clients.length ac0, .slice ao1 t.conns.length ac1, .slice ao2 t.chans.length ac2, .slice ao3 t.sent.length ac3, .slice ao4 t.got.length ac4, .slice ao5 t.acks.length ac5, .slice ao6 t.purses.length ac6])) (HAF : Hid (After w1 base v l)) (HF : Hid (Held F w1 (fun w2 => StV w2 w2.heap.size (.agg #[.string t.name, .int .i64 t.height, .int .i64 t.time, .slice ao0 t.clients.length ac0, .slice ao1 t.conns.length ac1, .slice ao2 t.chans.length ac2, .slice ao3 t.sent.length ac3, .slice ao4 t.got.length ac4, .slice ao5 t.acks.length ac5, .slice ao6 t.purses.length ac6]) t))) (HFV : Hid (∀ b, F b → v.ownBlock ≠ some b)) (hl : l.length ≤ 1000) (hbase : base ≤ w1.heap.size) (Q : Exit → Act → World → Prop)
    (hNext : Hid (∀ (u47 u48 u49 u50 : Value) (v' : Value) (w' : World), After w' base v' (l ++ [t]) → Below base w1 w' → Q .normal ⟨#[sl0, sl1, sl2, sl3, sl4, sl5, sl6, sl7, sl8, sl9, sl10, sl11, sl12, v', .pointer (some ⟨gp, 0, none⟩), sl15, sl16, sl17, sl18, sl19, sl20, sl21, sl22, sl23, sl24, sl25, sl26, sl27, sl28, sl29, sl30, sl31, sl32, sl33, sl34, sl35, sl36, sl37, sl38, sl39, sl40, sl41, sl42, sl43, sl44, sl45, sl46, u47, u48, u49, u50, sl51, sl52, sl53, sl54, sl55, sl56, sl57, sl58, sl59, sl60, sl61, sl62, sl63, sl64, sl65, sl66, sl67, sl68, sl69, sl70, sl71, sl72, sl73, sl74, sl75, sl76, sl77, sl78, sl79, sl80, sl81, sl82, sl83, sl84, sl85, sl86, sl87, sl88, sl89, sl90, sl91, sl92, sl93, sl94, sl95, sl96, sl97, sl98, sl99, sl100, sl101, sl102, sl103, sl104, sl105, sl106, sl107, sl108, sl109, sl110, sl111, sl112, sl113, sl114, sl115, sl116, sl117, sl118, sl119, sl120, sl121, sl122, sl123, sl124, sl125, sl126, sl127, sl128, sl129, sl130, sl131, sl132, sl133, sl134, sl135, sl136, sl137, sl138, sl139], []⟩ w')) :
    Code.wp Tryz.prog (.region 8 ((Tryz.f6.body.bind (regOf 8)).getD #[]) false) Q ⟨#[sl0, sl1, sl2, sl3, sl4, sl5, sl6, sl7, sl8, sl9, sl10, sl11, sl12, v, .pointer (some ⟨gp, 0, none⟩), sl15, sl16, sl17, sl18, sl19, sl20, sl21, sl22, sl23, sl24, sl25, sl26, sl27, sl28, sl29, sl30, sl31, sl32, sl33, sl34, sl35, sl36, sl37, sl38, sl39, sl40, sl41, sl42, sl43, sl44, sl45, sl46, sl47, sl48, sl49, sl50, sl51, sl52, sl53, sl54, sl55, sl56, sl57, sl58, sl59, sl60, sl61, sl62, sl63, sl64, sl65, sl66, sl67, sl68, sl69, sl70, sl71, sl72, sl73, sl74, sl75, sl76, sl77, sl78, sl79, sl80, sl81, sl82, sl83, sl84, sl85, sl86, sl87, sl88, sl89, sl90, sl91, sl92, sl93, sl94, sl95, sl96, sl97, sl98, sl99, sl100, sl101, sl102, sl103, sl104, sl105, sl106, sl107, sl108, sl109, sl110, sl111, sl112, sl113, sl114, sl115, sl116, sl117, sl118, sl119, sl120, sl121, sl122, sl123, sl124, sl125, sl126, sl127, sl128, sl129, sl130, sl131, sl132, sl133, sl134, sl135, sl136, sl137, sl138, sl139], []⟩ w1 := by
  conv => arg 2; arg 2; whnf
  conv => arg 4; dsimp only
  have k0 : w1.cell? ⟨gp, 0, none⟩ = some (.string t.name) := HR.out.cell 0
  have k1 : w1.cell? ⟨gp, 1, none⟩ = some (.int .i64 t.height) := HR.out.cell 1
  have k2 : w1.cell? ⟨gp, 2, none⟩ = some (.int .i64 t.time) := HR.out.cell 2
  have k3 : w1.cell? ⟨gp, 3, none⟩ = some (.slice ao0 t.clients.length ac0) := HR.out.cell 3
  have k4 : w1.cell? ⟨gp, 4, none⟩ = some (.slice ao1 t.conns.length ac1) := HR.out.cell 4
  have k5 : w1.cell? ⟨gp, 5, none⟩ = some (.slice ao2 t.chans.length ac2) := HR.out.cell 5
  have k6 : w1.cell? ⟨gp, 6, none⟩ = some (.slice ao3 t.sent.length ac3) := HR.out.cell 6
  have k7 : w1.cell? ⟨gp, 7, none⟩ = some (.slice ao4 t.got.length ac4) := HR.out.cell 7
  have k8 : w1.cell? ⟨gp, 8, none⟩ = some (.slice ao5 t.acks.length ac5) := HR.out.cell 8
  have k9 : w1.cell? ⟨gp, 9, none⟩ = some (.slice ao6 t.purses.length ac6) := HR.out.cell 9
  obtain ⟨w2, hw2⟩ : ∃ w2, w1.alloc (.cells #[.string t.name, .int .i64 t.height, .int .i64 t.time, .slice ao0 t.clients.length ac0, .slice ao1 t.conns.length ac1, .slice ao2 t.chans.length ac2, .slice ao3 t.sent.length ac3, .slice ao4 t.got.length ac4, .slice ao5 t.acks.length ac5, .slice ao6 t.purses.length ac6] 28) = w2 := ⟨_, rfl⟩
  have hb2 : Below w1.heap.size w1 w2 := by rw [← hw2]; exact (Below.refl _ _).alloc (Nat.le_refl _) _
  have HR2 := hid (show Row w2 w1.heap.size 28 [.string t.name, .int .i64 t.height, .int .i64 t.time, .slice ao0 t.clients.length ac0, .slice ao1 t.conns.length ac1, .slice ao2 t.chans.length ac2, .slice ao3 t.sent.length ac3, .slice ao4 t.got.length ac4, .slice ao5 t.acks.length ac5, .slice ao6 t.purses.length ac6] by rw [← hw2]; exact Row.new _ _ _)
  have HAF2 := hid (HAF.out.below hb2)
  have HF2 := hid (HF.out.below hb2)
  have HB2 := hid (hb2.mono hbase)
  have hsz2 : w1.heap.size ≤ w2.heap.size := hb2.size
  have HOK := hid (show okSo [.string t.name, .int .i64 t.height, .int .i64 t.time, .slice ao0 t.clients.length ac0, .slice ao1 t.conns.length ac1, .slice ao2 t.chans.length ac2, .slice ao3 t.sent.length ac3, .slice ao4 t.got.length ac4, .slice ao5 t.acks.length ac5, .slice ao6 t.purses.length ac6] from ⟨rfl, fun x hx => by simp at hx; rcases hx with rfl | rfl | rfl | rfl | rfl | rfl | rfl | rfl | rfl | rfl <;> rfl⟩)
  have HW2 := hid hw2
  clear hb2 hw2
  go_wp2_with (at_builtin; refine Hid.out ?_)
  refine hid ?_
  rw [HW2.out]
  refine wpList_more rfl (.tmp 47) (.tmp 49) rfl base v l rfl HAF2.out w1.heap.size [.string t.name, .int .i64 t.height, .int .i64 t.time, .slice ao0 t.clients.length ac0, .slice ao1 t.conns.length ac1, .slice ao2 t.chans.length ac2, .slice ao3 t.sent.length ac3, .slice ao4 t.got.length ac4, .slice ao5 t.acks.length ac5, .slice ao6 t.purses.length ac6] t rfl HR2.out HOK.out F HF2.out HFV.out hl (by omega) ?_
  intro v' w3 ha3 hb3 hg3
  have HA3 := hid ha3
  have HB3 := hid (HB2.out.trans hb3)
  clear ha3 hb3 hg3
  go_wp2
  apply hNext.out
  · exact HA3.out
  · exact HB3.out

set_option maxRecDepth 1000000 in
set_option maxHeartbeats 8000000 in
theorem onceM13 {sl0 sl1 sl2 sl3 sl4 sl5 sl6 sl7 sl8 sl9 sl10 sl11 sl12 sl14 sl15 sl16 sl18 sl19 sl20 sl21 sl22 sl23 sl24 sl25 sl26 sl27 sl28 sl29 sl30 sl31 sl32 sl33 sl34 sl35 sl36 sl37 sl38 sl39 sl40 sl41 sl42 sl43 sl44 sl45 sl46 sl47 sl48 sl49 sl50 sl51 sl52 sl53 sl54 sl55 sl56 sl57 sl58 sl59 sl60 sl61 sl62 sl63 sl64 sl65 sl66 sl67 sl68 sl69 sl70 sl71 sl72 sl73 sl74 sl75 sl76 sl77 sl78 sl79 sl80 sl81 sl82 sl83 sl84 sl85 sl86 sl87 sl88 sl89 sl90 sl91 sl92 sl93 sl94 sl95 sl96 sl97 sl98 sl99 sl100 sl101 sl102 sl103 sl104 sl105 sl106 sl107 sl108 sl109 sl110 sl111 sl112 sl113 sl114 sl115 sl116 sl117 sl118 sl119 sl120 sl121 sl122 sl123 sl124 sl125 sl126 sl127 sl128 sl129 sl130 sl131 sl132 sl133 sl134 sl135 sl136 sl137 sl138 sl139 : Value} {gp base : Nat} {w1 : World} (t : St) (ao0 ao1 ao2 ao3 ao4 ao5 ao6 : Option Addr) (ac0 ac1 ac2 ac3 ac4 ac5 ac6 : Nat) (v : Value) (l : List St) (F : Nat → Prop) (HR : Hid (Row w1 gp 28 [.string t.name, .int .i64 t.height, .int .i64 t.time, .slice ao0 t.clients.length ac0, .slice ao1 t.conns.length ac1, .slice ao2 t.chans.length ac2, .slice ao3 t.sent.length ac3, .slice ao4 t.got.length ac4, .slice ao5 t.acks.length ac5, .slice ao6 t.purses.length ac6])) (HAF : Hid (After w1 base v l)) (HF : Hid (Held F w1 (fun w2 => StV w2 w2.heap.size (.agg #[.string t.name, .int .i64 t.height, .int .i64 t.time, .slice ao0 t.clients.length ac0, .slice ao1 t.conns.length ac1, .slice ao2 t.chans.length ac2, .slice ao3 t.sent.length ac3, .slice ao4 t.got.length ac4, .slice ao5 t.acks.length ac5, .slice ao6 t.purses.length ac6]) t))) (HFV : Hid (∀ b, F b → v.ownBlock ≠ some b)) (hl : l.length ≤ 1000) (hbase : base ≤ w1.heap.size) (Q : Exit → Act → World → Prop)
    (hNext : Hid (∀ (u66 u67 u68 u69 : Value) (v' : Value) (w' : World), After w' base v' (l ++ [t]) → Below base w1 w' → Q .normal ⟨#[sl0, sl1, sl2, sl3, sl4, sl5, sl6, sl7, sl8, sl9, sl10, sl11, sl12, v', sl14, sl15, sl16, .pointer (some ⟨gp, 0, none⟩), sl18, sl19, sl20, sl21, sl22, sl23, sl24, sl25, sl26, sl27, sl28, sl29, sl30, sl31, sl32, sl33, sl34, sl35, sl36, sl37, sl38, sl39, sl40, sl41, sl42, sl43, sl44, sl45, sl46, sl47, sl48, sl49, sl50, sl51, sl52, sl53, sl54, sl55, sl56, sl57, sl58, sl59, sl60, sl61, sl62, sl63, sl64, sl65, u66, u67, u68, u69, sl70, sl71, sl72, sl73, sl74, sl75, sl76, sl77, sl78, sl79, sl80, sl81, sl82, sl83, sl84, sl85, sl86, sl87, sl88, sl89, sl90, sl91, sl92, sl93, sl94, sl95, sl96, sl97, sl98, sl99, sl100, sl101, sl102, sl103, sl104, sl105, sl106, sl107, sl108, sl109, sl110, sl111, sl112, sl113, sl114, sl115, sl116, sl117, sl118, sl119, sl120, sl121, sl122, sl123, sl124, sl125, sl126, sl127, sl128, sl129, sl130, sl131, sl132, sl133, sl134, sl135, sl136, sl137, sl138, sl139], []⟩ w')) :
    Code.wp Tryz.prog (.region 13 ((Tryz.f6.body.bind (regOf 13)).getD #[]) false) Q ⟨#[sl0, sl1, sl2, sl3, sl4, sl5, sl6, sl7, sl8, sl9, sl10, sl11, sl12, v, sl14, sl15, sl16, .pointer (some ⟨gp, 0, none⟩), sl18, sl19, sl20, sl21, sl22, sl23, sl24, sl25, sl26, sl27, sl28, sl29, sl30, sl31, sl32, sl33, sl34, sl35, sl36, sl37, sl38, sl39, sl40, sl41, sl42, sl43, sl44, sl45, sl46, sl47, sl48, sl49, sl50, sl51, sl52, sl53, sl54, sl55, sl56, sl57, sl58, sl59, sl60, sl61, sl62, sl63, sl64, sl65, sl66, sl67, sl68, sl69, sl70, sl71, sl72, sl73, sl74, sl75, sl76, sl77, sl78, sl79, sl80, sl81, sl82, sl83, sl84, sl85, sl86, sl87, sl88, sl89, sl90, sl91, sl92, sl93, sl94, sl95, sl96, sl97, sl98, sl99, sl100, sl101, sl102, sl103, sl104, sl105, sl106, sl107, sl108, sl109, sl110, sl111, sl112, sl113, sl114, sl115, sl116, sl117, sl118, sl119, sl120, sl121, sl122, sl123, sl124, sl125, sl126, sl127, sl128, sl129, sl130, sl131, sl132, sl133, sl134, sl135, sl136, sl137, sl138, sl139], []⟩ w1 := by
  conv => arg 2; arg 2; whnf
  conv => arg 4; dsimp only
  have k0 : w1.cell? ⟨gp, 0, none⟩ = some (.string t.name) := HR.out.cell 0
  have k1 : w1.cell? ⟨gp, 1, none⟩ = some (.int .i64 t.height) := HR.out.cell 1
  have k2 : w1.cell? ⟨gp, 2, none⟩ = some (.int .i64 t.time) := HR.out.cell 2
  have k3 : w1.cell? ⟨gp, 3, none⟩ = some (.slice ao0 t.clients.length ac0) := HR.out.cell 3
  have k4 : w1.cell? ⟨gp, 4, none⟩ = some (.slice ao1 t.conns.length ac1) := HR.out.cell 4
  have k5 : w1.cell? ⟨gp, 5, none⟩ = some (.slice ao2 t.chans.length ac2) := HR.out.cell 5
  have k6 : w1.cell? ⟨gp, 6, none⟩ = some (.slice ao3 t.sent.length ac3) := HR.out.cell 6
  have k7 : w1.cell? ⟨gp, 7, none⟩ = some (.slice ao4 t.got.length ac4) := HR.out.cell 7
  have k8 : w1.cell? ⟨gp, 8, none⟩ = some (.slice ao5 t.acks.length ac5) := HR.out.cell 8
  have k9 : w1.cell? ⟨gp, 9, none⟩ = some (.slice ao6 t.purses.length ac6) := HR.out.cell 9
  obtain ⟨w2, hw2⟩ : ∃ w2, w1.alloc (.cells #[.string t.name, .int .i64 t.height, .int .i64 t.time, .slice ao0 t.clients.length ac0, .slice ao1 t.conns.length ac1, .slice ao2 t.chans.length ac2, .slice ao3 t.sent.length ac3, .slice ao4 t.got.length ac4, .slice ao5 t.acks.length ac5, .slice ao6 t.purses.length ac6] 28) = w2 := ⟨_, rfl⟩
  have hb2 : Below w1.heap.size w1 w2 := by rw [← hw2]; exact (Below.refl _ _).alloc (Nat.le_refl _) _
  have HR2 := hid (show Row w2 w1.heap.size 28 [.string t.name, .int .i64 t.height, .int .i64 t.time, .slice ao0 t.clients.length ac0, .slice ao1 t.conns.length ac1, .slice ao2 t.chans.length ac2, .slice ao3 t.sent.length ac3, .slice ao4 t.got.length ac4, .slice ao5 t.acks.length ac5, .slice ao6 t.purses.length ac6] by rw [← hw2]; exact Row.new _ _ _)
  have HAF2 := hid (HAF.out.below hb2)
  have HF2 := hid (HF.out.below hb2)
  have HB2 := hid (hb2.mono hbase)
  have hsz2 : w1.heap.size ≤ w2.heap.size := hb2.size
  have HOK := hid (show okSo [.string t.name, .int .i64 t.height, .int .i64 t.time, .slice ao0 t.clients.length ac0, .slice ao1 t.conns.length ac1, .slice ao2 t.chans.length ac2, .slice ao3 t.sent.length ac3, .slice ao4 t.got.length ac4, .slice ao5 t.acks.length ac5, .slice ao6 t.purses.length ac6] from ⟨rfl, fun x hx => by simp at hx; rcases hx with rfl | rfl | rfl | rfl | rfl | rfl | rfl | rfl | rfl | rfl <;> rfl⟩)
  have HW2 := hid hw2
  clear hb2 hw2
  go_wp2_with (at_builtin; refine Hid.out ?_)
  refine hid ?_
  rw [HW2.out]
  refine wpList_more rfl (.tmp 66) (.tmp 68) rfl base v l rfl HAF2.out w1.heap.size [.string t.name, .int .i64 t.height, .int .i64 t.time, .slice ao0 t.clients.length ac0, .slice ao1 t.conns.length ac1, .slice ao2 t.chans.length ac2, .slice ao3 t.sent.length ac3, .slice ao4 t.got.length ac4, .slice ao5 t.acks.length ac5, .slice ao6 t.purses.length ac6] t rfl HR2.out HOK.out F HF2.out HFV.out hl (by omega) ?_
  intro v' w3 ha3 hb3 hg3
  have HA3 := hid ha3
  have HB3 := hid (HB2.out.trans hb3)
  clear ha3 hb3 hg3
  go_wp2
  apply hNext.out
  · exact HA3.out
  · exact HB3.out

set_option maxRecDepth 1000000 in
set_option maxHeartbeats 8000000 in
theorem onceM16 {sl0 sl1 sl2 sl3 sl4 sl5 sl6 sl7 sl8 sl9 sl10 sl11 sl12 sl14 sl15 sl16 sl17 sl18 sl19 sl21 sl22 sl23 sl24 sl25 sl26 sl27 sl28 sl29 sl30 sl31 sl32 sl33 sl34 sl35 sl36 sl37 sl38 sl39 sl40 sl41 sl42 sl43 sl44 sl45 sl46 sl47 sl48 sl49 sl50 sl51 sl52 sl53 sl54 sl55 sl56 sl57 sl58 sl59 sl60 sl61 sl62 sl63 sl64 sl65 sl66 sl67 sl68 sl69 sl70 sl71 sl72 sl73 sl74 sl75 sl76 sl77 sl78 sl79 sl80 sl81 sl82 sl83 sl84 sl85 sl86 sl87 sl88 sl89 sl90 sl91 sl92 sl93 sl94 sl95 sl96 sl97 sl98 sl99 sl100 sl101 sl102 sl103 sl104 sl105 sl106 sl107 sl108 sl109 sl110 sl111 sl112 sl113 sl114 sl115 sl116 sl117 sl118 sl119 sl120 sl121 sl122 sl123 sl124 sl125 sl126 sl127 sl128 sl129 sl130 sl131 sl132 sl133 sl134 sl135 sl136 sl137 sl138 sl139 : Value} {gp base : Nat} {w1 : World} (t : St) (ao0 ao1 ao2 ao3 ao4 ao5 ao6 : Option Addr) (ac0 ac1 ac2 ac3 ac4 ac5 ac6 : Nat) (v : Value) (l : List St) (F : Nat → Prop) (HR : Hid (Row w1 gp 28 [.string t.name, .int .i64 t.height, .int .i64 t.time, .slice ao0 t.clients.length ac0, .slice ao1 t.conns.length ac1, .slice ao2 t.chans.length ac2, .slice ao3 t.sent.length ac3, .slice ao4 t.got.length ac4, .slice ao5 t.acks.length ac5, .slice ao6 t.purses.length ac6])) (HAF : Hid (After w1 base v l)) (HF : Hid (Held F w1 (fun w2 => StV w2 w2.heap.size (.agg #[.string t.name, .int .i64 t.height, .int .i64 t.time, .slice ao0 t.clients.length ac0, .slice ao1 t.conns.length ac1, .slice ao2 t.chans.length ac2, .slice ao3 t.sent.length ac3, .slice ao4 t.got.length ac4, .slice ao5 t.acks.length ac5, .slice ao6 t.purses.length ac6]) t))) (HFV : Hid (∀ b, F b → v.ownBlock ≠ some b)) (hl : l.length ≤ 1000) (hbase : base ≤ w1.heap.size) (Q : Exit → Act → World → Prop)
    (hNext : Hid (∀ (u80 u81 u82 u83 : Value) (v' : Value) (w' : World), After w' base v' (l ++ [t]) → Below base w1 w' → Q .normal ⟨#[sl0, sl1, sl2, sl3, sl4, sl5, sl6, sl7, sl8, sl9, sl10, sl11, sl12, v', sl14, sl15, sl16, sl17, sl18, sl19, .pointer (some ⟨gp, 0, none⟩), sl21, sl22, sl23, sl24, sl25, sl26, sl27, sl28, sl29, sl30, sl31, sl32, sl33, sl34, sl35, sl36, sl37, sl38, sl39, sl40, sl41, sl42, sl43, sl44, sl45, sl46, sl47, sl48, sl49, sl50, sl51, sl52, sl53, sl54, sl55, sl56, sl57, sl58, sl59, sl60, sl61, sl62, sl63, sl64, sl65, sl66, sl67, sl68, sl69, sl70, sl71, sl72, sl73, sl74, sl75, sl76, sl77, sl78, sl79, u80, u81, u82, u83, sl84, sl85, sl86, sl87, sl88, sl89, sl90, sl91, sl92, sl93, sl94, sl95, sl96, sl97, sl98, sl99, sl100, sl101, sl102, sl103, sl104, sl105, sl106, sl107, sl108, sl109, sl110, sl111, sl112, sl113, sl114, sl115, sl116, sl117, sl118, sl119, sl120, sl121, sl122, sl123, sl124, sl125, sl126, sl127, sl128, sl129, sl130, sl131, sl132, sl133, sl134, sl135, sl136, sl137, sl138, sl139], []⟩ w')) :
    Code.wp Tryz.prog (.region 16 ((Tryz.f6.body.bind (regOf 16)).getD #[]) false) Q ⟨#[sl0, sl1, sl2, sl3, sl4, sl5, sl6, sl7, sl8, sl9, sl10, sl11, sl12, v, sl14, sl15, sl16, sl17, sl18, sl19, .pointer (some ⟨gp, 0, none⟩), sl21, sl22, sl23, sl24, sl25, sl26, sl27, sl28, sl29, sl30, sl31, sl32, sl33, sl34, sl35, sl36, sl37, sl38, sl39, sl40, sl41, sl42, sl43, sl44, sl45, sl46, sl47, sl48, sl49, sl50, sl51, sl52, sl53, sl54, sl55, sl56, sl57, sl58, sl59, sl60, sl61, sl62, sl63, sl64, sl65, sl66, sl67, sl68, sl69, sl70, sl71, sl72, sl73, sl74, sl75, sl76, sl77, sl78, sl79, sl80, sl81, sl82, sl83, sl84, sl85, sl86, sl87, sl88, sl89, sl90, sl91, sl92, sl93, sl94, sl95, sl96, sl97, sl98, sl99, sl100, sl101, sl102, sl103, sl104, sl105, sl106, sl107, sl108, sl109, sl110, sl111, sl112, sl113, sl114, sl115, sl116, sl117, sl118, sl119, sl120, sl121, sl122, sl123, sl124, sl125, sl126, sl127, sl128, sl129, sl130, sl131, sl132, sl133, sl134, sl135, sl136, sl137, sl138, sl139], []⟩ w1 := by
  conv => arg 2; arg 2; whnf
  conv => arg 4; dsimp only
  have k0 : w1.cell? ⟨gp, 0, none⟩ = some (.string t.name) := HR.out.cell 0
  have k1 : w1.cell? ⟨gp, 1, none⟩ = some (.int .i64 t.height) := HR.out.cell 1
  have k2 : w1.cell? ⟨gp, 2, none⟩ = some (.int .i64 t.time) := HR.out.cell 2
  have k3 : w1.cell? ⟨gp, 3, none⟩ = some (.slice ao0 t.clients.length ac0) := HR.out.cell 3
  have k4 : w1.cell? ⟨gp, 4, none⟩ = some (.slice ao1 t.conns.length ac1) := HR.out.cell 4
  have k5 : w1.cell? ⟨gp, 5, none⟩ = some (.slice ao2 t.chans.length ac2) := HR.out.cell 5
  have k6 : w1.cell? ⟨gp, 6, none⟩ = some (.slice ao3 t.sent.length ac3) := HR.out.cell 6
  have k7 : w1.cell? ⟨gp, 7, none⟩ = some (.slice ao4 t.got.length ac4) := HR.out.cell 7
  have k8 : w1.cell? ⟨gp, 8, none⟩ = some (.slice ao5 t.acks.length ac5) := HR.out.cell 8
  have k9 : w1.cell? ⟨gp, 9, none⟩ = some (.slice ao6 t.purses.length ac6) := HR.out.cell 9
  obtain ⟨w2, hw2⟩ : ∃ w2, w1.alloc (.cells #[.string t.name, .int .i64 t.height, .int .i64 t.time, .slice ao0 t.clients.length ac0, .slice ao1 t.conns.length ac1, .slice ao2 t.chans.length ac2, .slice ao3 t.sent.length ac3, .slice ao4 t.got.length ac4, .slice ao5 t.acks.length ac5, .slice ao6 t.purses.length ac6] 28) = w2 := ⟨_, rfl⟩
  have hb2 : Below w1.heap.size w1 w2 := by rw [← hw2]; exact (Below.refl _ _).alloc (Nat.le_refl _) _
  have HR2 := hid (show Row w2 w1.heap.size 28 [.string t.name, .int .i64 t.height, .int .i64 t.time, .slice ao0 t.clients.length ac0, .slice ao1 t.conns.length ac1, .slice ao2 t.chans.length ac2, .slice ao3 t.sent.length ac3, .slice ao4 t.got.length ac4, .slice ao5 t.acks.length ac5, .slice ao6 t.purses.length ac6] by rw [← hw2]; exact Row.new _ _ _)
  have HAF2 := hid (HAF.out.below hb2)
  have HF2 := hid (HF.out.below hb2)
  have HB2 := hid (hb2.mono hbase)
  have hsz2 : w1.heap.size ≤ w2.heap.size := hb2.size
  have HOK := hid (show okSo [.string t.name, .int .i64 t.height, .int .i64 t.time, .slice ao0 t.clients.length ac0, .slice ao1 t.conns.length ac1, .slice ao2 t.chans.length ac2, .slice ao3 t.sent.length ac3, .slice ao4 t.got.length ac4, .slice ao5 t.acks.length ac5, .slice ao6 t.purses.length ac6] from ⟨rfl, fun x hx => by simp at hx; rcases hx with rfl | rfl | rfl | rfl | rfl | rfl | rfl | rfl | rfl | rfl <;> rfl⟩)
  have HW2 := hid hw2
  clear hb2 hw2
  go_wp2_with (at_builtin; refine Hid.out ?_)
  refine hid ?_
  rw [HW2.out]
  refine wpList_more rfl (.tmp 80) (.tmp 82) rfl base v l rfl HAF2.out w1.heap.size [.string t.name, .int .i64 t.height, .int .i64 t.time, .slice ao0 t.clients.length ac0, .slice ao1 t.conns.length ac1, .slice ao2 t.chans.length ac2, .slice ao3 t.sent.length ac3, .slice ao4 t.got.length ac4, .slice ao5 t.acks.length ac5, .slice ao6 t.purses.length ac6] t rfl HR2.out HOK.out F HF2.out HFV.out hl (by omega) ?_
  intro v' w3 ha3 hb3 hg3
  have HA3 := hid ha3
  have HB3 := hid (HB2.out.trans hb3)
  clear ha3 hb3 hg3
  go_wp2
  apply hNext.out
  · exact HA3.out
  · exact HB3.out

set_option maxRecDepth 1000000 in
set_option maxHeartbeats 8000000 in
theorem onceM19 {sl0 sl1 sl2 sl3 sl4 sl5 sl6 sl7 sl8 sl9 sl10 sl11 sl12 sl14 sl15 sl16 sl17 sl18 sl19 sl20 sl21 sl23 sl24 sl25 sl26 sl27 sl28 sl29 sl30 sl31 sl32 sl33 sl34 sl35 sl36 sl37 sl38 sl39 sl40 sl41 sl42 sl43 sl44 sl45 sl46 sl47 sl48 sl49 sl50 sl51 sl52 sl53 sl54 sl55 sl56 sl57 sl58 sl59 sl60 sl61 sl62 sl63 sl64 sl65 sl66 sl67 sl68 sl69 sl70 sl71 sl72 sl73 sl74 sl75 sl76 sl77 sl78 sl79 sl80 sl81 sl82 sl83 sl84 sl85 sl86 sl87 sl88 sl89 sl90 sl91 sl92 sl93 sl94 sl95 sl96 sl97 sl98 sl99 sl100 sl101 sl102 sl103 sl104 sl105 sl106 sl107 sl108 sl109 sl110 sl111 sl112 sl113 sl114 sl115 sl116 sl117 sl118 sl119 sl120 sl121 sl122 sl123 sl124 sl125 sl126 sl127 sl128 sl129 sl130 sl131 sl132 sl133 sl134 sl135 sl136 sl137 sl138 sl139 : Value} {gp base : Nat} {w1 : World} (t : St) (ao0 ao1 ao2 ao3 ao4 ao5 ao6 : Option Addr) (ac0 ac1 ac2 ac3 ac4 ac5 ac6 : Nat) (v : Value) (l : List St) (F : Nat → Prop) (HR : Hid (Row w1 gp 28 [.string t.name, .int .i64 t.height, .int .i64 t.time, .slice ao0 t.clients.length ac0, .slice ao1 t.conns.length ac1, .slice ao2 t.chans.length ac2, .slice ao3 t.sent.length ac3, .slice ao4 t.got.length ac4, .slice ao5 t.acks.length ac5, .slice ao6 t.purses.length ac6])) (HAF : Hid (After w1 base v l)) (HF : Hid (Held F w1 (fun w2 => StV w2 w2.heap.size (.agg #[.string t.name, .int .i64 t.height, .int .i64 t.time, .slice ao0 t.clients.length ac0, .slice ao1 t.conns.length ac1, .slice ao2 t.chans.length ac2, .slice ao3 t.sent.length ac3, .slice ao4 t.got.length ac4, .slice ao5 t.acks.length ac5, .slice ao6 t.purses.length ac6]) t))) (HFV : Hid (∀ b, F b → v.ownBlock ≠ some b)) (hl : l.length ≤ 1000) (hbase : base ≤ w1.heap.size) (Q : Exit → Act → World → Prop)
    (hNext : Hid (∀ (u93 u94 u95 u96 : Value) (v' : Value) (w' : World), After w' base v' (l ++ [t]) → Below base w1 w' → Q .normal ⟨#[sl0, sl1, sl2, sl3, sl4, sl5, sl6, sl7, sl8, sl9, sl10, sl11, sl12, v', sl14, sl15, sl16, sl17, sl18, sl19, sl20, sl21, .pointer (some ⟨gp, 0, none⟩), sl23, sl24, sl25, sl26, sl27, sl28, sl29, sl30, sl31, sl32, sl33, sl34, sl35, sl36, sl37, sl38, sl39, sl40, sl41, sl42, sl43, sl44, sl45, sl46, sl47, sl48, sl49, sl50, sl51, sl52, sl53, sl54, sl55, sl56, sl57, sl58, sl59, sl60, sl61, sl62, sl63, sl64, sl65, sl66, sl67, sl68, sl69, sl70, sl71, sl72, sl73, sl74, sl75, sl76, sl77, sl78, sl79, sl80, sl81, sl82, sl83, sl84, sl85, sl86, sl87, sl88, sl89, sl90, sl91, sl92, u93, u94, u95, u96, sl97, sl98, sl99, sl100, sl101, sl102, sl103, sl104, sl105, sl106, sl107, sl108, sl109, sl110, sl111, sl112, sl113, sl114, sl115, sl116, sl117, sl118, sl119, sl120, sl121, sl122, sl123, sl124, sl125, sl126, sl127, sl128, sl129, sl130, sl131, sl132, sl133, sl134, sl135, sl136, sl137, sl138, sl139], []⟩ w')) :
    Code.wp Tryz.prog (.region 19 ((Tryz.f6.body.bind (regOf 19)).getD #[]) false) Q ⟨#[sl0, sl1, sl2, sl3, sl4, sl5, sl6, sl7, sl8, sl9, sl10, sl11, sl12, v, sl14, sl15, sl16, sl17, sl18, sl19, sl20, sl21, .pointer (some ⟨gp, 0, none⟩), sl23, sl24, sl25, sl26, sl27, sl28, sl29, sl30, sl31, sl32, sl33, sl34, sl35, sl36, sl37, sl38, sl39, sl40, sl41, sl42, sl43, sl44, sl45, sl46, sl47, sl48, sl49, sl50, sl51, sl52, sl53, sl54, sl55, sl56, sl57, sl58, sl59, sl60, sl61, sl62, sl63, sl64, sl65, sl66, sl67, sl68, sl69, sl70, sl71, sl72, sl73, sl74, sl75, sl76, sl77, sl78, sl79, sl80, sl81, sl82, sl83, sl84, sl85, sl86, sl87, sl88, sl89, sl90, sl91, sl92, sl93, sl94, sl95, sl96, sl97, sl98, sl99, sl100, sl101, sl102, sl103, sl104, sl105, sl106, sl107, sl108, sl109, sl110, sl111, sl112, sl113, sl114, sl115, sl116, sl117, sl118, sl119, sl120, sl121, sl122, sl123, sl124, sl125, sl126, sl127, sl128, sl129, sl130, sl131, sl132, sl133, sl134, sl135, sl136, sl137, sl138, sl139], []⟩ w1 := by
  conv => arg 2; arg 2; whnf
  conv => arg 4; dsimp only
  have k0 : w1.cell? ⟨gp, 0, none⟩ = some (.string t.name) := HR.out.cell 0
  have k1 : w1.cell? ⟨gp, 1, none⟩ = some (.int .i64 t.height) := HR.out.cell 1
  have k2 : w1.cell? ⟨gp, 2, none⟩ = some (.int .i64 t.time) := HR.out.cell 2
  have k3 : w1.cell? ⟨gp, 3, none⟩ = some (.slice ao0 t.clients.length ac0) := HR.out.cell 3
  have k4 : w1.cell? ⟨gp, 4, none⟩ = some (.slice ao1 t.conns.length ac1) := HR.out.cell 4
  have k5 : w1.cell? ⟨gp, 5, none⟩ = some (.slice ao2 t.chans.length ac2) := HR.out.cell 5
  have k6 : w1.cell? ⟨gp, 6, none⟩ = some (.slice ao3 t.sent.length ac3) := HR.out.cell 6
  have k7 : w1.cell? ⟨gp, 7, none⟩ = some (.slice ao4 t.got.length ac4) := HR.out.cell 7
  have k8 : w1.cell? ⟨gp, 8, none⟩ = some (.slice ao5 t.acks.length ac5) := HR.out.cell 8
  have k9 : w1.cell? ⟨gp, 9, none⟩ = some (.slice ao6 t.purses.length ac6) := HR.out.cell 9
  obtain ⟨w2, hw2⟩ : ∃ w2, w1.alloc (.cells #[.string t.name, .int .i64 t.height, .int .i64 t.time, .slice ao0 t.clients.length ac0, .slice ao1 t.conns.length ac1, .slice ao2 t.chans.length ac2, .slice ao3 t.sent.length ac3, .slice ao4 t.got.length ac4, .slice ao5 t.acks.length ac5, .slice ao6 t.purses.length ac6] 28) = w2 := ⟨_, rfl⟩
  have hb2 : Below w1.heap.size w1 w2 := by rw [← hw2]; exact (Below.refl _ _).alloc (Nat.le_refl _) _
  have HR2 := hid (show Row w2 w1.heap.size 28 [.string t.name, .int .i64 t.height, .int .i64 t.time, .slice ao0 t.clients.length ac0, .slice ao1 t.conns.length ac1, .slice ao2 t.chans.length ac2, .slice ao3 t.sent.length ac3, .slice ao4 t.got.length ac4, .slice ao5 t.acks.length ac5, .slice ao6 t.purses.length ac6] by rw [← hw2]; exact Row.new _ _ _)
  have HAF2 := hid (HAF.out.below hb2)
  have HF2 := hid (HF.out.below hb2)
  have HB2 := hid (hb2.mono hbase)
  have hsz2 : w1.heap.size ≤ w2.heap.size := hb2.size
  have HOK := hid (show okSo [.string t.name, .int .i64 t.height, .int .i64 t.time, .slice ao0 t.clients.length ac0, .slice ao1 t.conns.length ac1, .slice ao2 t.chans.length ac2, .slice ao3 t.sent.length ac3, .slice ao4 t.got.length ac4, .slice ao5 t.acks.length ac5, .slice ao6 t.purses.length ac6] from ⟨rfl, fun x hx => by simp at hx; rcases hx with rfl | rfl | rfl | rfl | rfl | rfl | rfl | rfl | rfl | rfl <;> rfl⟩)
  have HW2 := hid hw2
  clear hb2 hw2
  go_wp2_with (at_builtin; refine Hid.out ?_)
  refine hid ?_
  rw [HW2.out]
  refine wpList_more rfl (.tmp 93) (.tmp 95) rfl base v l rfl HAF2.out w1.heap.size [.string t.name, .int .i64 t.height, .int .i64 t.time, .slice ao0 t.clients.length ac0, .slice ao1 t.conns.length ac1, .slice ao2 t.chans.length ac2, .slice ao3 t.sent.length ac3, .slice ao4 t.got.length ac4, .slice ao5 t.acks.length ac5, .slice ao6 t.purses.length ac6] t rfl HR2.out HOK.out F HF2.out HFV.out hl (by omega) ?_
  intro v' w3 ha3 hb3 hg3
  have HA3 := hid ha3
  have HB3 := hid (HB2.out.trans hb3)
  clear ha3 hb3 hg3
  go_wp2
  apply hNext.out
  · exact HA3.out
  · exact HB3.out
end Go.Proofs.YtooemgkjkngpcaaGreatDoor
