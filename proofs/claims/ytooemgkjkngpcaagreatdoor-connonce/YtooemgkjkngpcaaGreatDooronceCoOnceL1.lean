/-
  ConnOnce: regions that call a step.
-/
import Derived.Test.YtooemgkjkngpcaaGreatDooronceCoRest
import Derived.Test.YtooemgkjkngpcaaGreatDooronceCoMath
namespace Go.Proofs.YtooemgkjkngpcaaGreatDoor
open Go.RowKit

set_option maxRecDepth 1000000 in
set_option maxHeartbeats 8000000 in
theorem onceL4 {sl0 sl5 sl7 sl8 sl9 sl10 sl12 sl13 sl14 sl15 sl16 sl17 sl18 sl19 sl20 sl21 sl22 sl23 sl24 sl25 sl26 sl27 sl28 sl29 sl30 sl31 sl32 sl33 sl34 sl35 sl36 sl37 sl38 sl39 sl40 sl41 sl42 sl43 sl44 sl45 sl46 sl47 sl48 sl49 sl50 sl51 sl52 sl53 sl54 sl55 sl56 sl57 sl58 sl59 sl60 sl61 sl62 sl63 sl64 sl65 sl66 sl67 sl68 sl69 sl70 sl71 sl72 sl73 sl74 sl75 sl76 sl77 sl78 sl79 sl80 sl81 sl82 sl83 sl84 sl85 sl86 sl87 sl88 sl89 sl90 sl91 sl92 sl93 sl94 sl95 sl96 sl97 sl98 sl99 sl100 sl101 sl102 sl103 sl104 sl105 sl106 sl107 sl108 sl109 sl110 sl111 sl112 sl113 sl114 sl115 sl116 sl117 sl118 sl119 sl120 sl121 sl122 sl123 sl124 sl125 sl126 sl127 sl128 sl129 sl130 sl131 sl132 sl133 sl134 sl135 sl136 sl137 sl138 sl139 : Value} {gs gh N : Nat} {w1 : World} (t : St) (n m i c o q : Int) (ss0 ss1 ss2 ss3 ss4 ss5 ss6 ss7 ss8 ss9 hs0 hs1 hs2 hs3 hs4 hs5 hs6 hs7 hs8 hs9 hs10 hs11 hs12 hs13 hs14 hs15 hs16 hs17 : Value) (HA : Hid (Row w1 gs 28 [ss0, ss1, ss2, ss3, ss4, ss5, ss6, ss7, ss8, ss9])) (HH : Hid (Row w1 gh 46 [hs0, hs1, hs2, hs3, hs4, hs5, hs6, hs7, hs8, hs9, hs10, hs11, hs12, hs13, hs14, hs15, hs16, hs17])) (hC : Hid (Calls Tryz.prog 18 #[.agg #[ss0, ss1, ss2, ss3, ss4, ss5, ss6, ss7, ss8, ss9], .int .i64 c, .int .i64 o, .int .i64 q, .agg #[hs0, hs1, hs2, hs3, hs4, hs5, hs6, hs7, hs8, hs9, hs10, hs11, hs12, hs13, hs14, hs15, hs16, hs17]] w1 fun e w' => Below w1.heap.size w1 w' ∧ ∃ v', e = .returned (.tuple #[v', .int .i64 m, .int .i64 n]) ∧ HoldsS N w1.heap.size w' v' t)) (Q : Exit → Act → World → Prop)
    (hNext : Hid (∀ (u30 u31 u32 u33 u34 u35 u36 u37 u38 u39 : Value) (gp : Nat) (pp0 pp1 pp2 pp3 pp4 pp5 pp6 pp7 pp8 pp9 : Value) (w' : World), Below w1.heap.size w1 w' → w1.heap.size ≤ gp → Row w' gp 28 [pp0, pp1, pp2, pp3, pp4, pp5, pp6, pp7, pp8, pp9] → (#[pp0, pp1, pp2, pp3, pp4, pp5, pp6, pp7, pp8, pp9] : Array Value).all (·.oneCell') = true → Held (fun b => (b < N ∨ w1.heap.size ≤ b) ∧ b < gp) w' (fun w2 => StV w2 w2.heap.size (.agg #[pp0, pp1, pp2, pp3, pp4, pp5, pp6, pp7, pp8, pp9]) t) → Q .normal ⟨#[sl0, .int .i64 i, .int .i64 c, .int .i64 o, .int .i64 q, sl5, .pointer (some ⟨gs, 0, none⟩), sl7, sl8, sl9, sl10, .pointer (some ⟨gh, 0, none⟩), sl12, sl13, .pointer (some ⟨gp, 0, none⟩), .int .i64 m, .int .i64 n, sl17, sl18, sl19, sl20, sl21, sl22, sl23, sl24, sl25, sl26, sl27, sl28, sl29, u30, u31, u32, u33, u34, u35, u36, u37, u38, u39, sl40, sl41, sl42, sl43, sl44, sl45, sl46, sl47, sl48, sl49, sl50, sl51, sl52, sl53, sl54, sl55, sl56, sl57, sl58, sl59, sl60, sl61, sl62, sl63, sl64, sl65, sl66, sl67, sl68, sl69, sl70, sl71, sl72, sl73, sl74, sl75, sl76, sl77, sl78, sl79, sl80, sl81, sl82, sl83, sl84, sl85, sl86, sl87, sl88, sl89, sl90, sl91, sl92, sl93, sl94, sl95, sl96, sl97, sl98, sl99, sl100, sl101, sl102, sl103, sl104, sl105, sl106, sl107, sl108, sl109, sl110, sl111, sl112, sl113, sl114, sl115, sl116, sl117, sl118, sl119, sl120, sl121, sl122, sl123, sl124, sl125, sl126, sl127, sl128, sl129, sl130, sl131, sl132, sl133, sl134, sl135, sl136, sl137, sl138, sl139], []⟩ w')) :
    Code.wp Tryz.prog (.region 4 ((Tryz.f6.body.bind (regOf 4)).getD #[]) false) Q ⟨#[sl0, .int .i64 i, .int .i64 c, .int .i64 o, .int .i64 q, sl5, .pointer (some ⟨gs, 0, none⟩), sl7, sl8, sl9, sl10, .pointer (some ⟨gh, 0, none⟩), sl12, sl13, sl14, sl15, sl16, sl17, sl18, sl19, sl20, sl21, sl22, sl23, sl24, sl25, sl26, sl27, sl28, sl29, sl30, sl31, sl32, sl33, sl34, sl35, sl36, sl37, sl38, sl39, sl40, sl41, sl42, sl43, sl44, sl45, sl46, sl47, sl48, sl49, sl50, sl51, sl52, sl53, sl54, sl55, sl56, sl57, sl58, sl59, sl60, sl61, sl62, sl63, sl64, sl65, sl66, sl67, sl68, sl69, sl70, sl71, sl72, sl73, sl74, sl75, sl76, sl77, sl78, sl79, sl80, sl81, sl82, sl83, sl84, sl85, sl86, sl87, sl88, sl89, sl90, sl91, sl92, sl93, sl94, sl95, sl96, sl97, sl98, sl99, sl100, sl101, sl102, sl103, sl104, sl105, sl106, sl107, sl108, sl109, sl110, sl111, sl112, sl113, sl114, sl115, sl116, sl117, sl118, sl119, sl120, sl121, sl122, sl123, sl124, sl125, sl126, sl127, sl128, sl129, sl130, sl131, sl132, sl133, sl134, sl135, sl136, sl137, sl138, sl139], []⟩ w1 := by
  conv => arg 2; arg 2; whnf
  conv => arg 4; dsimp only
  have HIZ := hid (show (Tryz.prog.info? 28).map (·.size) = some 10 by kernel_rfl)
  have k0 : w1.cell? ⟨gs, 0, none⟩ = some (ss0) := HA.out.cell 0
  have k1 : w1.cell? ⟨gs, 1, none⟩ = some (ss1) := HA.out.cell 1
  have k2 : w1.cell? ⟨gs, 2, none⟩ = some (ss2) := HA.out.cell 2
  have k3 : w1.cell? ⟨gs, 3, none⟩ = some (ss3) := HA.out.cell 3
  have k4 : w1.cell? ⟨gs, 4, none⟩ = some (ss4) := HA.out.cell 4
  have k5 : w1.cell? ⟨gs, 5, none⟩ = some (ss5) := HA.out.cell 5
  have k6 : w1.cell? ⟨gs, 6, none⟩ = some (ss6) := HA.out.cell 6
  have k7 : w1.cell? ⟨gs, 7, none⟩ = some (ss7) := HA.out.cell 7
  have k8 : w1.cell? ⟨gs, 8, none⟩ = some (ss8) := HA.out.cell 8
  have k9 : w1.cell? ⟨gs, 9, none⟩ = some (ss9) := HA.out.cell 9
  have h0 : w1.cell? ⟨gh, 0, none⟩ = some (hs0) := HH.out.cell 0
  have h1 : w1.cell? ⟨gh, 1, none⟩ = some (hs1) := HH.out.cell 1
  have h2 : w1.cell? ⟨gh, 2, none⟩ = some (hs2) := HH.out.cell 2
  have h3 : w1.cell? ⟨gh, 3, none⟩ = some (hs3) := HH.out.cell 3
  have h4 : w1.cell? ⟨gh, 4, none⟩ = some (hs4) := HH.out.cell 4
  have h5 : w1.cell? ⟨gh, 5, none⟩ = some (hs5) := HH.out.cell 5
  have h6 : w1.cell? ⟨gh, 6, none⟩ = some (hs6) := HH.out.cell 6
  have h7 : w1.cell? ⟨gh, 7, none⟩ = some (hs7) := HH.out.cell 7
  have h8 : w1.cell? ⟨gh, 8, none⟩ = some (hs8) := HH.out.cell 8
  have h9 : w1.cell? ⟨gh, 9, none⟩ = some (hs9) := HH.out.cell 9
  have h10 : w1.cell? ⟨gh, 10, none⟩ = some (hs10) := HH.out.cell 10
  have h11 : w1.cell? ⟨gh, 11, none⟩ = some (hs11) := HH.out.cell 11
  have h12 : w1.cell? ⟨gh, 12, none⟩ = some (hs12) := HH.out.cell 12
  have h13 : w1.cell? ⟨gh, 13, none⟩ = some (hs13) := HH.out.cell 13
  have h14 : w1.cell? ⟨gh, 14, none⟩ = some (hs14) := HH.out.cell 14
  have h15 : w1.cell? ⟨gh, 15, none⟩ = some (hs15) := HH.out.cell 15
  have h16 : w1.cell? ⟨gh, 16, none⟩ = some (hs16) := HH.out.cell 16
  have h17 : w1.cell? ⟨gh, 17, none⟩ = some (hs17) := HH.out.cell 17
  go_wp2_with fail
  refine hC.out.mono ?_
  rintro e w2 ⟨hb2, v2, rfl, hva⟩
  obtain ⟨ao0, ac0, ao1, ac1, ao2, ac2, ao3, ac3, ao4, ac4, ao5, ac5, ao6, ac6, rfl, -⟩ := hva.now.open
  have hsz2 : w1.heap.size ≤ w2.heap.size := hb2.size
  obtain ⟨w3, hw3⟩ : ∃ w3, w2.alloc (.cells #[.string ⟨#[]⟩, .int .i64 0, .int .i64 0, .slice none 0 0, .slice none 0 0, .slice none 0 0, .slice none 0 0, .slice none 0 0, .slice none 0 0, .slice none 0 0] 28) = w3 := ⟨_, rfl⟩
  have hb3 : Below w2.heap.size w2 w3 := by rw [← hw3]; exact (Below.refl _ _).alloc (Nat.le_refl _) _
  have HR3 := hid (show Row w3 w2.heap.size 28 [.string ⟨#[]⟩, .int .i64 0, .int .i64 0, .slice none 0 0, .slice none 0 0, .slice none 0 0, .slice none 0 0, .slice none 0 0, .slice none 0 0, .slice none 0 0] by rw [← hw3]; exact Row.new _ _ _)
  have hsz3 : w2.heap.size < w3.heap.size := HR3.out.lt
  obtain ⟨w4, hw4⟩ : ∃ w4, w3.setRow (w2.heap.size) #[.string t.name, .int .i64 t.height, .int .i64 t.time, .slice ao0 t.clients.length ac0, .slice ao1 t.conns.length ac1, .slice ao2 t.chans.length ac2, .slice ao3 t.sent.length ac3, .slice ao4 t.got.length ac4, .slice ao5 t.acks.length ac5, .slice ao6 t.purses.length ac6] = w4 := ⟨_, rfl⟩
  have HRS4 := hid (show Row w4 (w2.heap.size) 28 [.string t.name, .int .i64 t.height, .int .i64 t.time, .slice ao0 t.clients.length ac0, .slice ao1 t.conns.length ac1, .slice ao2 t.chans.length ac2, .slice ao3 t.sent.length ac3, .slice ao4 t.got.length ac4, .slice ao5 t.acks.length ac5, .slice ao6 t.purses.length ac6] by rw [← hw4]; exact Row.setRow HR3.out _)
  have HHZ4 := hid (show w3.heap[w2.heap.size]? = some (.cells #[.string ⟨#[]⟩, .int .i64 0, .int .i64 0, .slice none 0 0, .slice none 0 0, .slice none 0 0, .slice none 0 0, .slice none 0 0, .slice none 0 0, .slice none 0 0] 28 (0, 0)) from HR3.out)
  have HON4 := hid (show (#[.string t.name, .int .i64 t.height, .int .i64 t.time, .slice ao0 t.clients.length ac0, .slice ao1 t.conns.length ac1, .slice ao2 t.chans.length ac2, .slice ao3 t.sent.length ac3, .slice ao4 t.got.length ac4, .slice ao5 t.acks.length ac5, .slice ao6 t.purses.length ac6] : Array Value).all (·.oneCell') = true by simp [Value.oneCell'])
  have HSW4 := hid hw4
  have HB4 := hid (show Below w1.heap.size w1 w4 by rw [← hw4]; exact setRow_below (hb2.trans (hb3.mono hsz2)) hsz2 _)
  have HV4 := hid (show Held (fun b => (b < N ∨ w1.heap.size ≤ b) ∧ b < w2.heap.size) w4 (fun w2 => StV w2 w2.heap.size (.agg #[.string t.name, .int .i64 t.height, .int .i64 t.time, .slice ao0 t.clients.length ac0, .slice ao1 t.conns.length ac1, .slice ao2 t.chans.length ac2, .slice ao3 t.sent.length ac3, .slice ao4 t.got.length ac4, .slice ao5 t.acks.length ac5, .slice ao6 t.purses.length ac6]) t) by
    rw [← hw4]
    refine Held.on (Held.below hva hb3) (setRow_below (Below.refl 0 _) (Nat.zero_le _) _) (fun b hb => setRow_other _ _ _ _ ?_)
    have := hb.2
    omega)
  have HW3 := hid hw3
  clear hb2 hb3 hva hw4 hw3
  clear k0 k1 k2 k3 k4 k5 k6 k7 k8 k9 h0 h1 h2 h3 h4 h5 h6 h7 h8 h9 h10 h11 h12 h13 h14 h15 h16 h17
  go_wp2_with (first | rw [HW3.out] | skip; refine wpList_store_row rfl 28 (.tmp 14) (.tmp 37) rfl (w2.heap.size) #[.string t.name, .int .i64 t.height, .int .i64 t.time, .slice ao0 t.clients.length ac0, .slice ao1 t.conns.length ac1, .slice ao2 t.chans.length ac2, .slice ao3 t.sent.length ac3, .slice ao4 t.got.length ac4, .slice ao5 t.acks.length ac5, .slice ao6 t.purses.length ac6] rfl rfl 28 #[.string ⟨#[]⟩, .int .i64 0, .int .i64 0, .slice none 0 0, .slice none 0 0, .slice none 0 0, .slice none 0 0, .slice none 0 0, .slice none 0 0, .slice none 0 0] HHZ4.out HIZ.out rfl HON4.out ?_; rw [HSW4.out])
  apply hNext.out
  · exact HB4.out
  · exact hsz2
  · exact HRS4.out
  · exact HON4.out
  · exact HV4.out

set_option maxRecDepth 1000000 in
set_option maxHeartbeats 8000000 in
theorem onceL9 {sl0 sl5 sl7 sl8 sl9 sl10 sl12 sl13 sl14 sl15 sl16 sl17 sl18 sl19 sl20 sl21 sl22 sl23 sl24 sl25 sl26 sl27 sl28 sl29 sl30 sl31 sl32 sl33 sl34 sl35 sl36 sl37 sl38 sl39 sl40 sl41 sl42 sl43 sl44 sl45 sl46 sl47 sl48 sl49 sl50 sl51 sl52 sl53 sl54 sl55 sl56 sl57 sl58 sl59 sl60 sl61 sl62 sl63 sl64 sl65 sl66 sl67 sl68 sl69 sl70 sl71 sl72 sl73 sl74 sl75 sl76 sl77 sl78 sl79 sl80 sl81 sl82 sl83 sl84 sl85 sl86 sl87 sl88 sl89 sl90 sl91 sl92 sl93 sl94 sl95 sl96 sl97 sl98 sl99 sl100 sl101 sl102 sl103 sl104 sl105 sl106 sl107 sl108 sl109 sl110 sl111 sl112 sl113 sl114 sl115 sl116 sl117 sl118 sl119 sl120 sl121 sl122 sl123 sl124 sl125 sl126 sl127 sl128 sl129 sl130 sl131 sl132 sl133 sl134 sl135 sl136 sl137 sl138 sl139 : Value} {gs gh N : Nat} {w1 : World} (t : St) (n m i c o q : Int) (ss0 ss1 ss2 ss3 ss4 ss5 ss6 ss7 ss8 ss9 : Value) (HA : Hid (Row w1 gs 28 [ss0, ss1, ss2, ss3, ss4, ss5, ss6, ss7, ss8, ss9])) (hC : Hid (Calls Tryz.prog 15 #[.agg #[ss0, ss1, ss2, ss3, ss4, ss5, ss6, ss7, ss8, ss9], .int .i64 c, .int .i64 o] w1 fun e w' => Below w1.heap.size w1 w' ∧ ∃ v', e = .returned (.tuple #[v', .int .i64 m, .int .i64 n]) ∧ HoldsS N w1.heap.size w' v' t)) (Q : Exit → Act → World → Prop)
    (hNext : Hid (∀ (u51 u52 u53 u54 u55 u56 u57 u58 : Value) (gp : Nat) (pp0 pp1 pp2 pp3 pp4 pp5 pp6 pp7 pp8 pp9 : Value) (w' : World), Below w1.heap.size w1 w' → w1.heap.size ≤ gp → Row w' gp 28 [pp0, pp1, pp2, pp3, pp4, pp5, pp6, pp7, pp8, pp9] → (#[pp0, pp1, pp2, pp3, pp4, pp5, pp6, pp7, pp8, pp9] : Array Value).all (·.oneCell') = true → Held (fun b => (b < N ∨ w1.heap.size ≤ b) ∧ b < gp) w' (fun w2 => StV w2 w2.heap.size (.agg #[pp0, pp1, pp2, pp3, pp4, pp5, pp6, pp7, pp8, pp9]) t) → Q .normal ⟨#[sl0, .int .i64 i, .int .i64 c, .int .i64 o, .int .i64 q, sl5, .pointer (some ⟨gs, 0, none⟩), sl7, sl8, sl9, sl10, .pointer (some ⟨gh, 0, none⟩), sl12, sl13, sl14, sl15, sl16, .pointer (some ⟨gp, 0, none⟩), .int .i64 m, .int .i64 n, sl20, sl21, sl22, sl23, sl24, sl25, sl26, sl27, sl28, sl29, sl30, sl31, sl32, sl33, sl34, sl35, sl36, sl37, sl38, sl39, sl40, sl41, sl42, sl43, sl44, sl45, sl46, sl47, sl48, sl49, sl50, u51, u52, u53, u54, u55, u56, u57, u58, sl59, sl60, sl61, sl62, sl63, sl64, sl65, sl66, sl67, sl68, sl69, sl70, sl71, sl72, sl73, sl74, sl75, sl76, sl77, sl78, sl79, sl80, sl81, sl82, sl83, sl84, sl85, sl86, sl87, sl88, sl89, sl90, sl91, sl92, sl93, sl94, sl95, sl96, sl97, sl98, sl99, sl100, sl101, sl102, sl103, sl104, sl105, sl106, sl107, sl108, sl109, sl110, sl111, sl112, sl113, sl114, sl115, sl116, sl117, sl118, sl119, sl120, sl121, sl122, sl123, sl124, sl125, sl126, sl127, sl128, sl129, sl130, sl131, sl132, sl133, sl134, sl135, sl136, sl137, sl138, sl139], []⟩ w')) :
    Code.wp Tryz.prog (.region 9 ((Tryz.f6.body.bind (regOf 9)).getD #[]) false) Q ⟨#[sl0, .int .i64 i, .int .i64 c, .int .i64 o, .int .i64 q, sl5, .pointer (some ⟨gs, 0, none⟩), sl7, sl8, sl9, sl10, .pointer (some ⟨gh, 0, none⟩), sl12, sl13, sl14, sl15, sl16, sl17, sl18, sl19, sl20, sl21, sl22, sl23, sl24, sl25, sl26, sl27, sl28, sl29, sl30, sl31, sl32, sl33, sl34, sl35, sl36, sl37, sl38, sl39, sl40, sl41, sl42, sl43, sl44, sl45, sl46, sl47, sl48, sl49, sl50, sl51, sl52, sl53, sl54, sl55, sl56, sl57, sl58, sl59, sl60, sl61, sl62, sl63, sl64, sl65, sl66, sl67, sl68, sl69, sl70, sl71, sl72, sl73, sl74, sl75, sl76, sl77, sl78, sl79, sl80, sl81, sl82, sl83, sl84, sl85, sl86, sl87, sl88, sl89, sl90, sl91, sl92, sl93, sl94, sl95, sl96, sl97, sl98, sl99, sl100, sl101, sl102, sl103, sl104, sl105, sl106, sl107, sl108, sl109, sl110, sl111, sl112, sl113, sl114, sl115, sl116, sl117, sl118, sl119, sl120, sl121, sl122, sl123, sl124, sl125, sl126, sl127, sl128, sl129, sl130, sl131, sl132, sl133, sl134, sl135, sl136, sl137, sl138, sl139], []⟩ w1 := by
  conv => arg 2; arg 2; whnf
  conv => arg 4; dsimp only
  have HIZ := hid (show (Tryz.prog.info? 28).map (·.size) = some 10 by kernel_rfl)
  have k0 : w1.cell? ⟨gs, 0, none⟩ = some (ss0) := HA.out.cell 0
  have k1 : w1.cell? ⟨gs, 1, none⟩ = some (ss1) := HA.out.cell 1
  have k2 : w1.cell? ⟨gs, 2, none⟩ = some (ss2) := HA.out.cell 2
  have k3 : w1.cell? ⟨gs, 3, none⟩ = some (ss3) := HA.out.cell 3
  have k4 : w1.cell? ⟨gs, 4, none⟩ = some (ss4) := HA.out.cell 4
  have k5 : w1.cell? ⟨gs, 5, none⟩ = some (ss5) := HA.out.cell 5
  have k6 : w1.cell? ⟨gs, 6, none⟩ = some (ss6) := HA.out.cell 6
  have k7 : w1.cell? ⟨gs, 7, none⟩ = some (ss7) := HA.out.cell 7
  have k8 : w1.cell? ⟨gs, 8, none⟩ = some (ss8) := HA.out.cell 8
  have k9 : w1.cell? ⟨gs, 9, none⟩ = some (ss9) := HA.out.cell 9
  go_wp2_with fail
  refine hC.out.mono ?_
  rintro e w2 ⟨hb2, v2, rfl, hva⟩
  obtain ⟨ao0, ac0, ao1, ac1, ao2, ac2, ao3, ac3, ao4, ac4, ao5, ac5, ao6, ac6, rfl, -⟩ := hva.now.open
  have hsz2 : w1.heap.size ≤ w2.heap.size := hb2.size
  obtain ⟨w3, hw3⟩ : ∃ w3, w2.alloc (.cells #[.string ⟨#[]⟩, .int .i64 0, .int .i64 0, .slice none 0 0, .slice none 0 0, .slice none 0 0, .slice none 0 0, .slice none 0 0, .slice none 0 0, .slice none 0 0] 28) = w3 := ⟨_, rfl⟩
  have hb3 : Below w2.heap.size w2 w3 := by rw [← hw3]; exact (Below.refl _ _).alloc (Nat.le_refl _) _
  have HR3 := hid (show Row w3 w2.heap.size 28 [.string ⟨#[]⟩, .int .i64 0, .int .i64 0, .slice none 0 0, .slice none 0 0, .slice none 0 0, .slice none 0 0, .slice none 0 0, .slice none 0 0, .slice none 0 0] by rw [← hw3]; exact Row.new _ _ _)
  have hsz3 : w2.heap.size < w3.heap.size := HR3.out.lt
  obtain ⟨w4, hw4⟩ : ∃ w4, w3.setRow (w2.heap.size) #[.string t.name, .int .i64 t.height, .int .i64 t.time, .slice ao0 t.clients.length ac0, .slice ao1 t.conns.length ac1, .slice ao2 t.chans.length ac2, .slice ao3 t.sent.length ac3, .slice ao4 t.got.length ac4, .slice ao5 t.acks.length ac5, .slice ao6 t.purses.length ac6] = w4 := ⟨_, rfl⟩
  have HRS4 := hid (show Row w4 (w2.heap.size) 28 [.string t.name, .int .i64 t.height, .int .i64 t.time, .slice ao0 t.clients.length ac0, .slice ao1 t.conns.length ac1, .slice ao2 t.chans.length ac2, .slice ao3 t.sent.length ac3, .slice ao4 t.got.length ac4, .slice ao5 t.acks.length ac5, .slice ao6 t.purses.length ac6] by rw [← hw4]; exact Row.setRow HR3.out _)
  have HHZ4 := hid (show w3.heap[w2.heap.size]? = some (.cells #[.string ⟨#[]⟩, .int .i64 0, .int .i64 0, .slice none 0 0, .slice none 0 0, .slice none 0 0, .slice none 0 0, .slice none 0 0, .slice none 0 0, .slice none 0 0] 28 (0, 0)) from HR3.out)
  have HON4 := hid (show (#[.string t.name, .int .i64 t.height, .int .i64 t.time, .slice ao0 t.clients.length ac0, .slice ao1 t.conns.length ac1, .slice ao2 t.chans.length ac2, .slice ao3 t.sent.length ac3, .slice ao4 t.got.length ac4, .slice ao5 t.acks.length ac5, .slice ao6 t.purses.length ac6] : Array Value).all (·.oneCell') = true by simp [Value.oneCell'])
  have HSW4 := hid hw4
  have HB4 := hid (show Below w1.heap.size w1 w4 by rw [← hw4]; exact setRow_below (hb2.trans (hb3.mono hsz2)) hsz2 _)
  have HV4 := hid (show Held (fun b => (b < N ∨ w1.heap.size ≤ b) ∧ b < w2.heap.size) w4 (fun w2 => StV w2 w2.heap.size (.agg #[.string t.name, .int .i64 t.height, .int .i64 t.time, .slice ao0 t.clients.length ac0, .slice ao1 t.conns.length ac1, .slice ao2 t.chans.length ac2, .slice ao3 t.sent.length ac3, .slice ao4 t.got.length ac4, .slice ao5 t.acks.length ac5, .slice ao6 t.purses.length ac6]) t) by
    rw [← hw4]
    refine Held.on (Held.below hva hb3) (setRow_below (Below.refl 0 _) (Nat.zero_le _) _) (fun b hb => setRow_other _ _ _ _ ?_)
    have := hb.2
    omega)
  have HW3 := hid hw3
  clear hb2 hb3 hva hw4 hw3
  clear k0 k1 k2 k3 k4 k5 k6 k7 k8 k9
  go_wp2_with (first | rw [HW3.out] | skip; refine wpList_store_row rfl 28 (.tmp 17) (.tmp 56) rfl (w2.heap.size) #[.string t.name, .int .i64 t.height, .int .i64 t.time, .slice ao0 t.clients.length ac0, .slice ao1 t.conns.length ac1, .slice ao2 t.chans.length ac2, .slice ao3 t.sent.length ac3, .slice ao4 t.got.length ac4, .slice ao5 t.acks.length ac5, .slice ao6 t.purses.length ac6] rfl rfl 28 #[.string ⟨#[]⟩, .int .i64 0, .int .i64 0, .slice none 0 0, .slice none 0 0, .slice none 0 0, .slice none 0 0, .slice none 0 0, .slice none 0 0, .slice none 0 0] HHZ4.out HIZ.out rfl HON4.out ?_; rw [HSW4.out])
  apply hNext.out
  · exact HB4.out
  · exact hsz2
  · exact HRS4.out
  · exact HON4.out
  · exact HV4.out
end Go.Proofs.YtooemgkjkngpcaaGreatDoor
