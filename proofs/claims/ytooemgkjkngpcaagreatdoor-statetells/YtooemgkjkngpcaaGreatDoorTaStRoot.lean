/-
  What Root answers of a state: package state's, and the document's.
-/
import Derived.Test.YtooemgkjkngpcaaGreatDoorTaBookTree
import Derived.Test.YtooemgkjkngpcaaGreatDoorTaBookWrong
import Derived.Test.YtooemgkjkngpcaaGreatDoorTaStBookC
import Derived.Test.YtooemgkjkngpcaaGreatDoorTaSt8RBook
namespace Go.Proofs.YtooemgkjkngpcaaGreatDoor
open Go.RowKit

set_option maxRecDepth 100000 in
set_option maxHeartbeats 2000000 in
theorem bookRoots_any (l : List Pr) (sv : Value) (N : Nat) (w : World) (hT : tableAt w) (hb : Pairs w N sv l) (hN : N ≤ w.heap.size) (hlen : l.length < 2305843009213693952) (hfit : ∀ p ∈ l, p.fits) :
    Calls Tryz.prog 53 #[sv] w fun e w' => Below w.heap.size w w' ∧
      (((wrongL l).1 ≠ 0 ∧ e = .returned (.tuple #[.slice none 0 0, faultV (wrongL l).1 (wrongL l).2])) ∨
       ((wrongL l).1 = 0 ∧ ∃ oa cap, e = .returned (.tuple #[.slice oa 32 cap, okV]) ∧ Bytes w' w'.heap.size (.slice oa 32 cap) (topD l.length (treeD l)))) := by
  obtain ⟨oa, ca, rfl, hca⟩ := hb.shape
  obtain ⟨w0, hw0⟩ : ∃ w0, w.alloc (.cells #[.int .i64 0, .int .i64 0] 96) = w0 := ⟨_, rfl⟩
  have hsz0 : w0.heap.size = w.heap.size + 1 := by rw [← hw0]; simp
  have hb0 : Below w.heap.size w w0 := by rw [← hw0]; exact (Below.refl _ _).alloc (Nat.le_refl _) _
  have hrow0 : Row w0 w.heap.size 96 [.int .i64 0, .int .i64 0] := by rw [← hw0]; exact Row.new _ _ _
  have HWR := hid (wrongC l _ N w0 (hb.below (hb0.mono hN)) (by omega) hlen hfit)
  have HB := hid hb
  have HB0 := hid hb0
  have HR0 := hid hrow0
  obtain ⟨c, hc⟩ : ∃ c, (wrongL l).1 = c := ⟨_, rfl⟩
  obtain ⟨i, hi⟩ : ∃ i, (wrongL l).2 = i := ⟨_, rfl⟩
  rw [hc, hi] at HWR ⊢
  have HCI := hid (show wrongL l = (c, i) by rw [← hc, ← hi])
  unfold faultV at HWR
  have HT := hid hT
  clear hb hb0 hrow0 hc hi hT
  generalize hn : l.length = n at *
  have HN := hid hn
  clear hn
  go_enter Tryz.func53, Tryz.ntmps53
  go_wp2_with fail
  refine HWR.out.mono ?_
  rintro e w1 ⟨hb1, rfl⟩
  have hsz1 := hb1.size
  obtain ⟨w2, hw2⟩ : ∃ w2, w1.alloc (.cells #[.int .i64 c, .int .i64 (i : Int)] 96) = w2 := ⟨_, rfl⟩
  have hsz2 : w2.heap.size = w1.heap.size + 1 := by rw [← hw2]; simp
  have hb12 : Below w1.heap.size w1 w2 := by rw [← hw2]; exact (Below.refl _ _).alloc (Nat.le_refl _) _
  have hb02 : Below w0.heap.size w0 w2 := hb1.trans (hb12.mono (by omega))
  have HB2 := hid hb02
  have HR2 := hid (HR0.out.below hb02 (by omega))
  have HRF := hid (show Row w2 w1.heap.size 96 [.int .i64 c, .int .i64 (i : Int)] by rw [← hw2]; exact Row.new _ _ _)
  have HW2 := hid hw2
  clear hb1 hb12 hb02 hw2 hw0 HWR
  by_cases hc0 : c = 0
  · subst hc0
    have HBK := hid (wrongL_short l n 0 i HN.out HCI.out rfl)
    obtain ⟨ps, hps, hsrc, hok⟩ := pairs_src HB.out
    have hpl : ps.length = n := by rw [← HN.out, ← hps]; simp
    have HTR := hid (tree_any ps.length ps _ N N w2 (Nat.le_refl _) (HT.out.past (HB0.out.trans (HB2.out.mono (by omega)))) (by omega) (by omega) (hsrc.below ((HB0.out.trans (HB2.out.mono (by omega))).mono hN)) (fun q hq => (hok q hq).below ((HB0.out.trans (HB2.out.mono (by omega))).mono hN)) (fun q hq => HBK.out.2 q.p (by rw [← hps]; exact List.mem_map_of_mem hq)) (by have := HBK.out.1; omega))
    rw [hps] at HTR
    clear hsrc hok hps hpl
    go_wp2_with fail
    rw [HW2.out]
    refine HTR.out.mono ?_
    rintro e w3 ⟨o3, n3, c3, rfl, hown3, hb3⟩
    have hsz3 := hb3.size
    have HTP := hid (bookBytes_any n (treeD l) (.slice o3 n3 c3) w3.heap.size w3 (Nat.le_refl _) hown3.bytes (by have := HBK.out.1; omega) (Nat.le_trans (treeD_len _) (by decide)))
    have HB3 := hid (HB2.out.trans (hb3.mono (by omega)))
    clear hown3 hb3 HTR
    go_wp2_with fail
    refine HTP.out.mono ?_
    rintro e w5 ⟨o5, n5, c5, rfl, hown5, hb5⟩
    have hsz5 := hb5.size
    have HB5 := hid (HB3.out.trans (hb5.mono (by omega)))
    have HSM := hid (sumC _ (.slice o5 n5 c5) w5.heap.size w5 (Nat.le_refl _) hown5.bytes (HT.out.past (HB0.out.trans (HB5.out.mono (by omega)))) (by have := treeD_len l; simp [fourB]; omega))
    clear hown5 hb5 HTP
    go_wp2_with fail
    refine HSM.out.mono ?_
    rintro e w4 ⟨o4, c4, rfl, hown4, hb4⟩
    have hsz4 := hb4.size
    have HB4 := hid (HB5.out.trans (hb4.mono (by omega)))
    have HR4 := hid (HR0.out.below HB4.out (by omega))
    have HO4 := hid hown4
    obtain ⟨k0, k1, z0, z1⟩ := HR4.out.two
    clear hown4 hb4 HSM
    go_wp2
    obtain ⟨g0, g1⟩ := HR4.out.set2 (.int .i64 0) (.int .i64 0)
    have hrp : OwnB ((w4.setCell ⟨w.heap.size, 0, none⟩ (.int .i64 0)).setCell ⟨w.heap.size, 1, none⟩ (.int .i64 0)) w5.heap.size (.slice o4 32 c4) (topD n (treeD l)) := HO4.out.keep fun g hg => by
      rw [heap_setCell_other _ _ _ _ (show g ≠ w.heap.size by omega), heap_setCell_other _ _ _ _ (show g ≠ w.heap.size by omega)]
    refine bodyPost_ret (v := .tuple #[.slice o4 32 c4, okV]) (by simp [results, Tryz.results53, go_sem, g0, g1, okV]) rfl ⟨?_, ⟨_, _, rfl, hrp.bytes⟩⟩
    exact below_set2 (HB0.out.trans (HB4.out.mono (by omega))) (Nat.le_refl _) _ _
  · have e1 : (c != 0) = true := by simpa using hc0
    go_wp2_with fail
    rw [HW2.out]
    obtain ⟨k0, k1, z0, z1⟩ := HR2.out.two
    obtain ⟨r0, r1, y0, y1⟩ := HRF.out.two
    go_region
    all_goals
      go_wp2
      obtain ⟨g0, g1⟩ := HR2.out.set2 (.int .i64 c) (.int .i64 (i : Int))
      have a0 : (w2.setCell ⟨w.heap.size, 0, none⟩ (.int .i64 c)).cell? ⟨w.heap.size, 0, none⟩ = some (.int .i64 c) := (HR2.out.set 0 (.int .i64 c)).cell 0
      refine bodyPost_ret (v := .tuple #[.slice none 0 0, faultV c i]) (by simp [results, Tryz.results53, go_sem, a0, g1, faultV]) rfl ⟨?_, .inl ⟨hc0, rfl⟩⟩
      exact (below_set2 (HB0.out.trans (HB2.out.mono (by omega))) (Nat.le_refl _) _ _).drew
/-- Root's answer -/
theorem rootC : RootC 53 := by
  intro l sv N w hT hb hN hlen hfit
  refine (bookRoots_any l sv N w hT hb hN hlen hfit).mono ?_
  rintro e w' ⟨h1, ⟨h2, rfl⟩ | ⟨h2, oa, cap, rfl, h3⟩⟩
  · refine ⟨h1, none, 0, 0, rfl, ?_⟩
    unfold rout
    rw [if_neg h2]
    exact .inl ⟨rfl, rfl⟩
  · refine ⟨h1, oa, 32, cap, by rw [wrongL_zero l h2]; rfl, ?_⟩
    unfold rout
    rw [if_pos h2]
    exact h3
end Go.Proofs.YtooemgkjkngpcaaGreatDoor
namespace Go.Proofs.YtooemgkjkngpcaaGreatDoor
open Go.RowKit

/-- a state's root, if it is right -/
def rootR (s : St) : List (BitVec 8) := if wrongS s = 0 then rout (bookS s) else []
theorem rootR_ok {s : St} (h : wrongS s = 0) : rootR s = rout (bookS s) := if_pos h
theorem rootR_no {s : St} (h : wrongS s ≠ 0) : rootR s = [] := if_neg h
theorem rootR_len {s : St} : (rootR s).length < 2305843009213693952 := by
  unfold rootR rout
  split
  · split
    · unfold topD; rw [sha_length]; decide
    · decide
  · decide
/-- what Root is to answer of a state -/
def StRootC (f : FuncId) : Prop := ∀ (s : St) (v : Value) (N : Nat) (w : World), StV w N v s → N ≤ w.heap.size → s.fits → powAt w → tableAt w →
  Calls Tryz.prog f #[v] w fun e w' => Below w.heap.size w w' ∧ ∃ o n c, e = .returned (.tuple #[.slice o n c, .int .i64 (wrongS s)]) ∧ Bytes w' w'.heap.size (.slice o n c) (rootR s)
set_option maxRecDepth 100000 in
set_option maxHeartbeats 4000000 in
theorem stRootC : StRootC 12 := by
  intro s v N w hv hN hfit hpow htab
  have HBK := hid (show ∀ wx, Below w.heap.size w wx → _ from fun wx hx => stBookC s v N wx (hv.below (hx.mono hN)) (Nat.le_trans hN hx.size) hfit (hpow.below hx))
  obtain ⟨o1, c1, o2, c2, o3, c3, o4, c4, o5, c5, o6, c6, o7, c7, rfl, -⟩ := hv.open
  obtain ⟨w0, hw0⟩ : ∃ w0, w.alloc (.cells #[.string s.name, .int .i64 s.height, .int .i64 s.time, .slice o1 s.clients.length c1, .slice o2 s.conns.length c2, .slice o3 s.chans.length c3, .slice o4 s.sent.length c4, .slice o5 s.got.length c5, .slice o6 s.acks.length c6, .slice o7 s.purses.length c7] 28) = w0 := ⟨_, rfl⟩
  have hb0 : Below w.heap.size w w0 := by rw [← hw0]; exact (Below.refl _ _).alloc (Nat.le_refl _) _
  have HB0 := hid hb0
  have HR0 := hid (show Row w0 w.heap.size 28 [.string s.name, .int .i64 s.height, .int .i64 s.time, .slice o1 s.clients.length c1, .slice o2 s.conns.length c2, .slice o3 s.chans.length c3, .slice o4 s.sent.length c4, .slice o5 s.got.length c5, .slice o6 s.acks.length c6, .slice o7 s.purses.length c7] by rw [← hw0]; exact Row.new _ _ _)
  have HTAB := hid (show ∀ wx, Below w.heap.size w wx → tableAt wx from fun wx hx => htab.below hx htab.lt)
  have k0 : w0.cell? ⟨w.heap.size, 0, none⟩ = some (.string s.name) := HR0.out.cell 0
  have k1 : w0.cell? ⟨w.heap.size, 1, none⟩ = some (.int .i64 s.height) := HR0.out.cell 1
  have k2 : w0.cell? ⟨w.heap.size, 2, none⟩ = some (.int .i64 s.time) := HR0.out.cell 2
  have k3 : w0.cell? ⟨w.heap.size, 3, none⟩ = some (.slice o1 s.clients.length c1) := HR0.out.cell 3
  have k4 : w0.cell? ⟨w.heap.size, 4, none⟩ = some (.slice o2 s.conns.length c2) := HR0.out.cell 4
  have k5 : w0.cell? ⟨w.heap.size, 5, none⟩ = some (.slice o3 s.chans.length c3) := HR0.out.cell 5
  have k6 : w0.cell? ⟨w.heap.size, 6, none⟩ = some (.slice o4 s.sent.length c4) := HR0.out.cell 6
  have k7 : w0.cell? ⟨w.heap.size, 7, none⟩ = some (.slice o5 s.got.length c5) := HR0.out.cell 7
  have k8 : w0.cell? ⟨w.heap.size, 8, none⟩ = some (.slice o6 s.acks.length c6) := HR0.out.cell 8
  have k9 : w0.cell? ⟨w.heap.size, 9, none⟩ = some (.slice o7 s.purses.length c7) := HR0.out.cell 9
  have HW0 := hid hw0
  clear hv hpow hfit hw0 hb0 htab
  go_enter Tryz.func12, Tryz.ntmps12
  go_upto_region 1 with fail
  rw [HW0.out]
  go_wp2_with fail
  refine (HBK.out _ HB0.out).mono ?_
  rintro e w1 ⟨hb1, ob, nb, cb, rfl, hpr⟩
  have HB1 := hid (HB0.out.trans (hb1.mono HB0.out.size))
  have HPR := hid hpr
  clear hb1 hpr k0 k1 k2 k3 k4 k5 k6 k7 k8 k9
  by_cases hz : wrongS s = 0
  · have HZ := hid hz
    have HS := hid (wrongS_right hz)
    have HRT := hid (rootC (bookS s) (.slice ob nb cb) w1.heap.size w1 (HTAB.out _ HB1.out) (by have := HPR.out; rw [bookR_ok hz] at this; exact this) (Nat.le_refl _) (by have := (playL_book _ _ (book_of HS.out).1).2.2; omega) (book_fit HS.out))
    rw [HZ.out]
    clear hz
    go_wp2_with fail
    refine HRT.out.mono ?_
    rintro e w2 ⟨hb2, ov, nv, cv, rfl, hby⟩
    have HB2 := hid (HB1.out.trans (hb2.mono HB1.out.size))
    rw [book_right HS.out]
    unfold faultV
    obtain ⟨w3, hw3⟩ : ∃ w3, w2.alloc (.cells #[.int .i64 0, .int .i64 0] 96) = w3 := ⟨_, rfl⟩
    have hb3 : Below w2.heap.size w2 w3 := by rw [← hw3]; exact (Below.refl _ _).alloc (Nat.le_refl _) _
    have HB3 := hid (HB2.out.trans (hb3.mono HB2.out.size))
    have HBY := hid (show Bytes w3 w3.heap.size (.slice ov nv cv) (rootR s) by rw [rootR_ok HZ.out]; exact (hby.below hb3).mono hb3.size)
    have q0 : w3.cell? ⟨w2.heap.size, 0, none⟩ = some (.int .i64 0) := (show Row w3 w2.heap.size 96 [.int .i64 0, .int .i64 0] by rw [← hw3]; exact Row.new _ _ _).cell 0
    have HW3 := hid hw3
    clear hb2 hb3 hby hw3
    go_upto_region 5 with fail
    rw [HW3.out]
    go_quiet (fail)
    go_wp2
    go_ret2
    exact ⟨HB3.out.trans (below_drewH _ _ _), ov, nv, cv, by rw [HZ.out]; first | done | rfl, HBY.out⟩
  · have e0 : (wrongS s != 0) = true := by simpa using hz
    have HBY := hid (show Bytes w1 w1.heap.size (.slice none 0 0) (rootR s) by rw [rootR_no hz]; exact .inl ⟨rfl, rfl⟩)
    clear hz
    generalize hzz : wrongS s = z at *
    have HZZ := hid hzz
    clear hzz
    go_wp2
    go_ret2
    exact ⟨HB1.out, none, 0, 0, by rw [HZZ.out]; first | done | rfl, HBY.out⟩
set_option maxRecDepth 100000 in
set_option maxHeartbeats 4000000 in
theorem refStRootC : StRootC 13 := by
  intro s v N w hv hN hfit hpow htab
  have HBK := hid (show ∀ wx, Below w.heap.size w wx → _ from fun wx hx => refBookC s v N wx (hv.below (hx.mono hN)) (Nat.le_trans hN hx.size) hfit (hpow.below hx))
  obtain ⟨o1, c1, o2, c2, o3, c3, o4, c4, o5, c5, o6, c6, o7, c7, rfl, -⟩ := hv.open
  obtain ⟨w0, hw0⟩ : ∃ w0, w.alloc (.cells #[.string s.name, .int .i64 s.height, .int .i64 s.time, .slice o1 s.clients.length c1, .slice o2 s.conns.length c2, .slice o3 s.chans.length c3, .slice o4 s.sent.length c4, .slice o5 s.got.length c5, .slice o6 s.acks.length c6, .slice o7 s.purses.length c7] 28) = w0 := ⟨_, rfl⟩
  have hb0 : Below w.heap.size w w0 := by rw [← hw0]; exact (Below.refl _ _).alloc (Nat.le_refl _) _
  have HB0 := hid hb0
  have HR0 := hid (show Row w0 w.heap.size 28 [.string s.name, .int .i64 s.height, .int .i64 s.time, .slice o1 s.clients.length c1, .slice o2 s.conns.length c2, .slice o3 s.chans.length c3, .slice o4 s.sent.length c4, .slice o5 s.got.length c5, .slice o6 s.acks.length c6, .slice o7 s.purses.length c7] by rw [← hw0]; exact Row.new _ _ _)
  have HTAB := hid (show ∀ wx, Below w.heap.size w wx → tableAt wx from fun wx hx => htab.below hx htab.lt)
  have k0 : w0.cell? ⟨w.heap.size, 0, none⟩ = some (.string s.name) := HR0.out.cell 0
  have k1 : w0.cell? ⟨w.heap.size, 1, none⟩ = some (.int .i64 s.height) := HR0.out.cell 1
  have k2 : w0.cell? ⟨w.heap.size, 2, none⟩ = some (.int .i64 s.time) := HR0.out.cell 2
  have k3 : w0.cell? ⟨w.heap.size, 3, none⟩ = some (.slice o1 s.clients.length c1) := HR0.out.cell 3
  have k4 : w0.cell? ⟨w.heap.size, 4, none⟩ = some (.slice o2 s.conns.length c2) := HR0.out.cell 4
  have k5 : w0.cell? ⟨w.heap.size, 5, none⟩ = some (.slice o3 s.chans.length c3) := HR0.out.cell 5
  have k6 : w0.cell? ⟨w.heap.size, 6, none⟩ = some (.slice o4 s.sent.length c4) := HR0.out.cell 6
  have k7 : w0.cell? ⟨w.heap.size, 7, none⟩ = some (.slice o5 s.got.length c5) := HR0.out.cell 7
  have k8 : w0.cell? ⟨w.heap.size, 8, none⟩ = some (.slice o6 s.acks.length c6) := HR0.out.cell 8
  have k9 : w0.cell? ⟨w.heap.size, 9, none⟩ = some (.slice o7 s.purses.length c7) := HR0.out.cell 9
  have HW0 := hid hw0
  clear hv hpow hfit hw0 hb0 htab
  go_enter Tryz.func13, Tryz.ntmps13
  go_upto_region 1 with fail
  rw [HW0.out]
  go_wp2_with fail
  refine (HBK.out _ HB0.out).mono ?_
  rintro e w1 ⟨hb1, ob, nb, cb, rfl, hpr⟩
  have HB1 := hid (HB0.out.trans (hb1.mono HB0.out.size))
  have HPR := hid hpr
  clear hb1 hpr k0 k1 k2 k3 k4 k5 k6 k7 k8 k9
  by_cases hz : wrongS s = 0
  · have HZ := hid hz
    have HS := hid (wrongS_right hz)
    have HRT := hid (refRootC (bookS s) (.slice ob nb cb) w1.heap.size w1 (HTAB.out _ HB1.out) (by have := HPR.out; rw [bookR_ok hz] at this; exact this) (Nat.le_refl _) (by have := (playL_book _ _ (book_of HS.out).1).2.2; omega) (book_fit HS.out))
    rw [HZ.out]
    clear hz
    go_wp2_with fail
    refine HRT.out.mono ?_
    rintro e w2 ⟨hb2, ov, nv, cv, rfl, hby⟩
    have HB2 := hid (HB1.out.trans (hb2.mono HB1.out.size))
    rw [book_right HS.out]
    unfold faultV
    obtain ⟨w3, hw3⟩ : ∃ w3, w2.alloc (.cells #[.int .i64 0, .int .i64 0] 96) = w3 := ⟨_, rfl⟩
    have hb3 : Below w2.heap.size w2 w3 := by rw [← hw3]; exact (Below.refl _ _).alloc (Nat.le_refl _) _
    have HB3 := hid (HB2.out.trans (hb3.mono HB2.out.size))
    have HBY := hid (show Bytes w3 w3.heap.size (.slice ov nv cv) (rootR s) by rw [rootR_ok HZ.out]; exact (hby.below hb3).mono hb3.size)
    have q0 : w3.cell? ⟨w2.heap.size, 0, none⟩ = some (.int .i64 0) := (show Row w3 w2.heap.size 96 [.int .i64 0, .int .i64 0] by rw [← hw3]; exact Row.new _ _ _).cell 0
    have HW3 := hid hw3
    clear hb2 hb3 hby hw3
    go_upto_region 5 with fail
    rw [HW3.out]
    go_wp2
    go_ret2
    exact ⟨HB3.out, ov, nv, cv, by rw [HZ.out]; first | done | rfl, HBY.out⟩
  · have e0 : (wrongS s != 0) = true := by simpa using hz
    have HBY := hid (show Bytes w1 w1.heap.size (.slice none 0 0) (rootR s) by rw [rootR_no hz]; exact .inl ⟨rfl, rfl⟩)
    clear hz
    generalize hzz : wrongS s = z at *
    have HZZ := hid hzz
    clear hzz
    go_wp2
    go_ret2
    exact ⟨HB1.out, none, 0, 0, by rw [HZZ.out]; first | done | rfl, HBY.out⟩
end Go.Proofs.YtooemgkjkngpcaaGreatDoor
