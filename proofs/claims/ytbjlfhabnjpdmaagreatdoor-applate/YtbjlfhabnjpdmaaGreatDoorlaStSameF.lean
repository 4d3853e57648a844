/-
  What the document's Same answers of two values that read as one state.
-/
import Derived.Test.YtbjlfhabnjpdmaaGreatDoorlaStMath
import Derived.Test.YtbjlfhabnjpdmaaGreatDoorlaStMem
import Derived.Test.YtbjlfhabnjpdmaaGreatDoorlaSameB
import Derived.Test.YtbjlfhabnjpdmaaGreatDoorlaClSame
import Derived.Test.YtbjlfhabnjpdmaaGreatDoorlaRegions
import Derived.Laws.StructEq
import Derived.BigQuiet
import Derived.Deep.RegionHeld3
import Derived.Deep.RegionWith
namespace Go.Proofs.YtbjlfhabnjpdmaaGreatDoor
open Go.RowKit

theorem fCn : Tryz.prog.underlying 81 = some (.struct (Tryz.prog.fieldsOf 81)) := by kernel_rfl
theorem gCn : Tryz.prog.stoodInHeld 81 = false := by kernel_rfl
set_option maxRecDepth 10000 in
theorem neqCn (x y : Cn) (w : World) : (binOp .neq 81 (.agg #[.int .i64 x.state, .int .i64 x.client, .int .i64 x.oclient, .int .i64 x.oconn]) (.agg #[.int .i64 y.state, .int .i64 y.client, .int .i64 y.oclient, .int .i64 y.oconn])).run Tryz.prog w = .ok (.bool (decide (x.state ≠ y.state ∨ x.client ≠ y.client ∨ x.oclient ≠ y.oclient ∨ x.oconn ≠ y.oconn))) w := by
  have u3 := Tryz.underlying3
  have a3 := Tryz.isAgg3
  have z3 := Tryz.sizeOf3
  have u4 := Tryz.underlying4
  have a4 := Tryz.isAgg4
  have z4 := Tryz.sizeOf4
  rw [run_neq_struct, run_equalIn_struct w 9999 _ _ _ fCn gCn]
  simp only [Program.fieldsOf, Tryz.underlying81]
  go_simp
  by_cases h0 : x.state = y.state <;> by_cases h1 : x.client = y.client <;> by_cases h2 : x.oclient = y.oclient <;> by_cases h3 : x.oconn = y.oconn <;> simp [h0, h1, h2, h3]
theorem fCh : Tryz.prog.underlying 83 = some (.struct (Tryz.prog.fieldsOf 83)) := by kernel_rfl
theorem gCh : Tryz.prog.stoodInHeld 83 = false := by kernel_rfl
set_option maxRecDepth 10000 in
theorem neqCh (x y : Ch) (w : World) : (binOp .neq 83 (.agg #[.int .i64 x.state, .bool x.ordered, .int .i64 x.conn, .int .i64 x.ochan, .int .i64 x.send, .int .i64 x.recv, .int .i64 x.ack]) (.agg #[.int .i64 y.state, .bool y.ordered, .int .i64 y.conn, .int .i64 y.ochan, .int .i64 y.send, .int .i64 y.recv, .int .i64 y.ack])).run Tryz.prog w = .ok (.bool (decide (x.state ≠ y.state ∨ x.ordered ≠ y.ordered ∨ x.conn ≠ y.conn ∨ x.ochan ≠ y.ochan ∨ x.send ≠ y.send ∨ x.recv ≠ y.recv ∨ x.ack ≠ y.ack))) w := by
  have u3 := Tryz.underlying3
  have a3 := Tryz.isAgg3
  have z3 := Tryz.sizeOf3
  have u4 := Tryz.underlying4
  have a4 := Tryz.isAgg4
  have z4 := Tryz.sizeOf4
  rw [run_neq_struct, run_equalIn_struct w 9999 _ _ _ fCh gCh]
  simp only [Program.fieldsOf, Tryz.underlying83]
  go_simp
  by_cases h0 : x.state = y.state <;> by_cases h1 : x.ordered = y.ordered <;> by_cases h2 : x.conn = y.conn <;> by_cases h3 : x.ochan = y.ochan <;> by_cases h4 : x.send = y.send <;> by_cases h5 : x.recv = y.recv <;> by_cases h6 : x.ack = y.ack <;> simp [h0, h1, h2, h3, h4, h5, h6]
theorem Cn.same {x y : Cn} : (x.state ≠ y.state ∨ x.client ≠ y.client ∨ x.oclient ≠ y.oclient ∨ x.oconn ≠ y.oconn) ↔ x ≠ y := by
  obtain ⟨a, b, c, d⟩ := x
  obtain ⟨a', b', c', d'⟩ := y
  simp only [ne_eq, Cn.mk.injEq]
  by_cases h0 : a = a' <;> by_cases h1 : b = b' <;> by_cases h2 : c = c' <;> by_cases h3 : d = d' <;> simp [h0, h1, h2, h3]
theorem Ch.same {x y : Ch} : (x.state ≠ y.state ∨ x.ordered ≠ y.ordered ∨ x.conn ≠ y.conn ∨ x.ochan ≠ y.ochan ∨ x.send ≠ y.send ∨ x.recv ≠ y.recv ∨ x.ack ≠ y.ack) ↔ x ≠ y := by
  obtain ⟨a, b, c, d, e, f, g⟩ := x
  obtain ⟨a', b', c', d', e', f', g'⟩ := y
  simp only [ne_eq, Ch.mk.injEq]
  by_cases h0 : a = a' <;> by_cases h1 : b = b' <;> by_cases h2 : c = c' <;> by_cases h3 : d = d' <;> by_cases h4 : e = e' <;> by_cases h5 : f = f' <;> by_cases h6 : g = g' <;> simp [h0, h1, h2, h3, h4, h5, h6]
theorem take_eq {α : Type} (l m : List α) (k : Nat) (x : α) (hx : l[k]? = some x) (hy : m[k]? = some x) (h : l.take k = m.take k) : l.take (k + 1) = m.take (k + 1) := by rw [List.take_add_one, List.take_add_one, hx, hy, h]
theorem get_ne {α : Type} (l m : List α) (k : Nat) (x y : α) (hx : l[k]? = some x) (hy : m[k]? = some y) (h : x ≠ y) : ¬ l = m := fun e => h (by rw [e, hy] at hx; simpa using hx.symm)
theorem drewN_belowSt (w : World) (N n : Nat) : Below N w (w.drewN n) := ⟨rfl, rfl, rfl, Nat.le_refl _, fun _ _ => rfl⟩
set_option maxRecDepth 100000 in
set_option maxHeartbeats 4000000 in
theorem sameMarks_any (l m : List Mk) (sa sb : Value) (Na Nb : Nat) (w : World) (ha : Many MkR 3 w Na sa l) (hb : Many MkR 3 w Nb sb m) (hlen : l.length < 2305843009213693952) (hfl : ∀ p ∈ l, p.fits) (hfm : ∀ p ∈ m, p.fits) :
    Calls Tryz.prog 23 #[sa, sb] w fun e w' => ∃ bb, e = .returned (.bool bb) ∧ (bb = true ↔ l = m) ∧ ∃ n, w' = w.drewN n := by
  obtain ⟨oa, ca, rfl, hca⟩ := ha.shape
  obtain ⟨ob, cb, rfl, hcb⟩ := hb.shape
  by_cases hne : l.length = m.length
  · have HA := hid ha
    have HB := hid hb
    have HFL := hid hfl
    have HFM := hid hfm
    clear ha hb hfl hfm
    rw [← hne] at HB hcb ⊢
    have HE := hid hne
    clear hne
    generalize hn : l.length = n at *
    have HN := hid hn
    clear hn
    have hnn : ((n : Int) != (n : Int)) = false := by simp
    go_enter Tryz.func23, Tryz.ntmps23
    go_wp2_with fail
    go_loopw [5, 13] (fun _ i wr => ∃ k q : Nat, k ≤ n ∧ i = .int .i64 k ∧ wr = w.drewN q ∧ Hid (l.take k = m.take k)) (fun _ i _ => n - (intOf i).toNat)
    case atStart => exact ⟨0, 0, by omega, rfl, rfl, hid rfl⟩
    case round =>
      obtain ⟨k, q, hk, rfl, rfl, HT⟩ := hrel
      by_cases hlt : k < n
      · obtain ⟨x, hx⟩ : ∃ p, l[k]? = some p := ⟨l[k]'(by rw [HN.out]; exact hlt), List.getElem?_eq_getElem _⟩
        obtain ⟨y, hy⟩ : ∃ p, m[k]? = some p := ⟨m[k]'(by rw [← HE.out]; exact hlt), List.getElem?_eq_getElem _⟩
        obtain ⟨b1, p1, rfl, cx⟩ := HA.out.spot (by omega)
        obtain ⟨b2, p2, rfl, cy⟩ := HB.out.spot (by omega)
        obtain ⟨_, rx, ⟨vx, rfl, hxd⟩, x0⟩ := cx k x hx
        obtain ⟨_, ry, ⟨vy, rfl, hyd⟩, y0⟩ := cy k y hy
        obtain ⟨o1, c1, rfl, _⟩ := hxd.shape
        obtain ⟨o2, c2, rfl, _⟩ := hyd.shape
        have q0 := x0 0 _ rfl
        have q1 := x0 1 _ rfl
        have q2 := x0 2 _ rfl
        have r0 := y0 0 _ rfl
        have r1 := y0 1 _ rfl
        have r2 := y0 2 _ rfl
        simp only [Nat.add_zero] at q0 r0
        have hlt' : (k : Int) < (n : Int) := by omega
        have HX := hid hx
        have HY := hid hy
        have hfx := HFL.out x (List.mem_of_getElem? hx)
        have hfy := HFM.out y (List.mem_of_getElem? hy)
        clear cx cy hx hy x0 y0
        have HSD := hid (fun wq : Nat => show Calls Tryz.prog 92 #[.slice o1 x.dig.length c1, .slice o2 y.dig.length c2] (w.drewN (q + wq)) (fun e w' => e = .returned (.bool (decide (x.dig = y.dig))) ∧ ∃ n, w' = w.drewN (q + n)) from
          (sameB_any x.dig y.dig _ _ Na Nb (w.drewN (q + wq)) (hxd.below (drewN_belowSt _ _ _)) (hyd.below (drewN_belowSt _ _ _)) (by unfold Mk.fits at hfx; omega) (by unfold Mk.fits at hfy; omega)).mono fun e w' ⟨h1, n', h2⟩ => ⟨h1, wq + n', by rw [h2, World.drewN_drewN, Nat.add_assoc]⟩)
        clear hxd hyd hfx hfy
        by_cases h1 : x.chan = y.chan
        · have e1 : (x.chan != y.chan) = false := by simpa using h1
          by_cases h2 : x.seq = y.seq
          · have e2 : (x.seq != y.seq) = false := by simpa using h2
            by_cases h3 : x.dig = y.dig
            · have HEQ := hid (take_eq l m k x HX.out (by rw [HY.out]; congr 1; obtain ⟨_, _, _⟩ := x; obtain ⟨_, _, _⟩ := y; simp_all) HT.out)
              rw [decide_eq_true h3] at HSD
              clear h1 h2 h3
              go_wp2_with fail
              go_quiet (first | (go_at_call_of 92 (Value.slice o1 x.dig.length c1); exact HSD.out _))
              go_wp2
              go_roundw
              case rel => exact ⟨k + 1, q + nq, by omega, by go_num, rfl, HEQ⟩
              case measure => simp [intOf]; omega
            · rw [decide_eq_false h3] at HSD
              have HNE := hid (get_ne l m k x y HX.out HY.out (fun e => h3 (by rw [e])))
              clear h1 h2 h3
              go_wp2_with fail
              go_quiet (first | (go_at_call_of 92 (Value.slice o1 x.dig.length c1); exact HSD.out _))
              go_wp2
              go_ret
              exact ⟨false, rfl, ⟨fun h => by simp at h, fun h => absurd h HNE.out⟩, q + nq, World.drewN_drewN _ _ _⟩
          · have e2 : (x.seq != y.seq) = true := by simpa using h2
            have HNE := hid (get_ne l m k x y HX.out HY.out (fun e => h2 (by rw [e])))
            clear h1 h2
            go_wp2_with fail
            go_quiet (first | (go_at_call_of 92 (Value.slice o1 x.dig.length c1); exact HSD.out _))
            go_wp2
            go_ret
            exact ⟨false, rfl, ⟨fun h => by simp at h, fun h => absurd h HNE.out⟩, q + nq, World.drewN_drewN _ _ _⟩
        · have e1 : (x.chan != y.chan) = true := by simpa using h1
          have HNE := hid (get_ne l m k x y HX.out HY.out (fun e => h1 (by rw [e])))
          clear h1
          go_wp2_with fail
          go_quiet (first | (go_at_call_of 92 (Value.slice o1 x.dig.length c1); exact HSD.out _))
          go_wp2
          go_ret
          exact ⟨false, rfl, ⟨fun h => by simp at h, fun h => absurd h HNE.out⟩, q + nq, World.drewN_drewN _ _ _⟩
      · have HEQ := hid (show l = m by
          have := HT.out
          rwa [List.take_of_length_le (by rw [HN.out]; omega), List.take_of_length_le (by rw [← HE.out]; omega)] at this)
        go_wp2
        go_ret
        exact ⟨true, rfl, ⟨fun _ => HEQ.out, fun _ => rfl⟩, q, rfl⟩
  · have hnn : ((l.length : Int) != (m.length : Int)) = true := by simp; omega
    have HNE := hid (show ¬ l = m from fun h => hne (by rw [h]))
    clear ha hb hfl hfm
    go_enter Tryz.func23, Tryz.ntmps23
    go_wp2
    go_ret
    exact ⟨false, rfl, ⟨fun h => by simp at h, fun h => absurd h HNE.out⟩, 0, rfl⟩
end Go.Proofs.YtbjlfhabnjpdmaaGreatDoor
namespace Go.Proofs.YtbjlfhabnjpdmaaGreatDoor
open Go.RowKit

theorem fPu : Tryz.prog.underlying 85 = some (.struct (Tryz.prog.fieldsOf 85)) := by kernel_rfl
theorem gPu : Tryz.prog.stoodInHeld 85 = false := by kernel_rfl
set_option maxRecDepth 10000 in
theorem neqPu (x : Pu) (w : World) : (binOp .neq 85 (.agg #[.string x.owner, .string x.denom, .int .u64 (x.amount : Int)]) (.agg #[.string x.owner, .string x.denom, .int .u64 (x.amount : Int)])).run Tryz.prog w = .ok (.bool false) w := by
  have u3 := Tryz.underlying9
  have a3 := Tryz.isAgg9
  have z3 := Tryz.sizeOf9
  have u4 := Tryz.underlying47
  have a4 := Tryz.isAgg47
  have z4 := Tryz.sizeOf47
  rw [run_neq_struct, run_equalIn_struct w 9999 _ _ _ fPu gPu]
  simp only [Program.fieldsOf, Tryz.underlying85]
  go_simp
theorem neqCn_same (x : Cn) (w : World) : (binOp .neq 81 (.agg #[.int .i64 x.state, .int .i64 x.client, .int .i64 x.oclient, .int .i64 x.oconn]) (.agg #[.int .i64 x.state, .int .i64 x.client, .int .i64 x.oclient, .int .i64 x.oconn])).run Tryz.prog w = .ok (.bool false) w := by
  rw [neqCn]
  simp
theorem neqCh_same (x : Ch) (w : World) : (binOp .neq 83 (.agg #[.int .i64 x.state, .bool x.ordered, .int .i64 x.conn, .int .i64 x.ochan, .int .i64 x.send, .int .i64 x.recv, .int .i64 x.ack]) (.agg #[.int .i64 x.state, .bool x.ordered, .int .i64 x.conn, .int .i64 x.ochan, .int .i64 x.send, .int .i64 x.recv, .int .i64 x.ack])).run Tryz.prog w = .ok (.bool false) w := by
  rw [neqCh]
  simp
set_option maxRecDepth 100000 in
set_option maxHeartbeats 4000000 in
theorem sameClR {y0 y1 y4 y6 y7 y8 y9 y10 y11 y12 y13 y14 y15 y16 y17 y18 y19 y20 y21 y22 y23 y24 y25 y26 y27 y28 y29 y30 y31 y32 y33 y34 y35 y36 y37 y38 y39 y40 y41 y42 y43 y44 y45 y46 y47 y48 y49 y50 y51 y52 y53 y54 y55 y56 y57 y58 y59 y60 y61 y62 y63 y64 y65 y66 y67 y68 y69 y70 y71 y72 y73 y74 y75 y76 y77 y78 y79 y80 y81 y82 y83 y84 y85 y86 y87 y88 y89 y90 y91 y92 y93 y106 y107 y108 y109 y110 y111 y112 y113 y114 y115 y116 y117 y118 y119 y120 y121 y122 y123 y124 y125 y126 y127 y128 y129 y130 y131 y132 y133 y134 y135 y136 y137 y138 y139 y140 y141 y142 y143 y144 y145 y146 y147 y148 y149 y150 y151 y152 y153 y154 y155 y156 y157 y158 y159 y160 z94 z95 z96 z97 z98 z99 z100 z101 z102 z103 z104 z105 : Value} {ga gb N : Nat} (x : Cl) (k n b1 f1 b2 f2 c1 d1 ma mb : Nat) (ka kb : Option Addr) {w : World} (hN : N ≤ w.heap.size) (hga : ga < w.heap.size) (hgb : gb < w.heap.size) (hka : Hid (w.cell? ⟨ga, 3, none⟩ = some (.slice (some ⟨b1, f1, none⟩) n c1))) (hkb : Hid (w.cell? ⟨gb, 3, none⟩ = some (.slice (some ⟨b2, f2, none⟩) n d1))) (_hlt : (k : Int) < (n : Int)) (hb1 : b1 < w.heap.size) (hb2 : b2 < w.heap.size) (hca : Hid (w.cell? ⟨b1, f1 + k * 4, none⟩ = some (.string x.chain) ∧ w.cell? ⟨b1, f1 + k * 4 + 1, none⟩ = some (.int .i64 x.trust) ∧ w.cell? ⟨b1, f1 + k * 4 + 2, none⟩ = some (.bool x.frozen) ∧ w.cell? ⟨b1, f1 + k * 4 + 3, none⟩ = some (.slice ka x.known.length ma))) (hcb : Hid (w.cell? ⟨b2, f2 + k * 4, none⟩ = some (.string x.chain) ∧ w.cell? ⟨b2, f2 + k * 4 + 1, none⟩ = some (.int .i64 x.trust) ∧ w.cell? ⟨b2, f2 + k * 4 + 2, none⟩ = some (.bool x.frozen) ∧ w.cell? ⟨b2, f2 + k * 4 + 3, none⟩ = some (.slice kb x.known.length mb))) (hva : Hid (ClV w N (.agg #[.string x.chain, .int .i64 x.trust, .bool x.frozen, .slice ka x.known.length ma]) x)) (hvb : Hid (ClV w N (.agg #[.string x.chain, .int .i64 x.trust, .bool x.frozen, .slice kb x.known.length mb]) x)) (hcf : Hid x.fits) (Q : Exit → Act → World → Prop)
    (hQ : Hid (∀ (σ : Nat → Value) (w' : World), Below w.heap.size w w' → /-11-/ σ 11 = .bool false → Q .normal ⟨#[y0, y1, .pointer (some ⟨ga, 0, none⟩), .pointer (some ⟨gb, 0, none⟩), y4, .int .i64 (k : Int), y6, y7, y8, y9, y10, y11, y12, y13, y14, y15, y16, y17, y18, y19, y20, y21, y22, y23, y24, y25, y26, y27, y28, y29, y30, y31, y32, y33, y34, y35, y36, y37, y38, y39, y40, y41, y42, y43, y44, y45, y46, y47, y48, y49, y50, y51, y52, y53, y54, y55, y56, y57, y58, y59, y60, y61, y62, y63, y64, y65, y66, y67, y68, y69, y70, y71, y72, y73, y74, y75, y76, y77, y78, y79, y80, y81, y82, y83, y84, y85, y86, y87, y88, y89, y90, y91, y92, y93, σ 0, σ 1, σ 2, σ 3, σ 4, σ 5, σ 6, σ 7, σ 8, σ 9, σ 10, σ 11, y106, y107, y108, y109, y110, y111, y112, y113, y114, y115, y116, y117, y118, y119, y120, y121, y122, y123, y124, y125, y126, y127, y128, y129, y130, y131, y132, y133, y134, y135, y136, y137, y138, y139, y140, y141, y142, y143, y144, y145, y146, y147, y148, y149, y150, y151, y152, y153, y154, y155, y156, y157, y158, y159, y160], []⟩ w')) :
    Code.wp Tryz.prog (.region 6 ((Tryz.f11.body.bind (regOf 6)).getD #[]) true) Q ⟨#[y0, y1, .pointer (some ⟨ga, 0, none⟩), .pointer (some ⟨gb, 0, none⟩), y4, .int .i64 (k : Int), y6, y7, y8, y9, y10, y11, y12, y13, y14, y15, y16, y17, y18, y19, y20, y21, y22, y23, y24, y25, y26, y27, y28, y29, y30, y31, y32, y33, y34, y35, y36, y37, y38, y39, y40, y41, y42, y43, y44, y45, y46, y47, y48, y49, y50, y51, y52, y53, y54, y55, y56, y57, y58, y59, y60, y61, y62, y63, y64, y65, y66, y67, y68, y69, y70, y71, y72, y73, y74, y75, y76, y77, y78, y79, y80, y81, y82, y83, y84, y85, y86, y87, y88, y89, y90, y91, y92, y93, z94, z95, z96, z97, z98, z99, z100, z101, z102, z103, z104, z105, y106, y107, y108, y109, y110, y111, y112, y113, y114, y115, y116, y117, y118, y119, y120, y121, y122, y123, y124, y125, y126, y127, y128, y129, y130, y131, y132, y133, y134, y135, y136, y137, y138, y139, y140, y141, y142, y143, y144, y145, y146, y147, y148, y149, y150, y151, y152, y153, y154, y155, y156, y157, y158, y159, y160], []⟩ w := by
  conv => arg 2; arg 2; whnf
  conv => arg 4; dsimp only
  refine region_grows (by kernel_rfl) (fun σ => #[y0, y1, .pointer (some ⟨ga, 0, none⟩), .pointer (some ⟨gb, 0, none⟩), y4, .int .i64 (k : Int), y6, y7, y8, y9, y10, y11, y12, y13, y14, y15, y16, y17, y18, y19, y20, y21, y22, y23, y24, y25, y26, y27, y28, y29, y30, y31, y32, y33, y34, y35, y36, y37, y38, y39, y40, y41, y42, y43, y44, y45, y46, y47, y48, y49, y50, y51, y52, y53, y54, y55, y56, y57, y58, y59, y60, y61, y62, y63, y64, y65, y66, y67, y68, y69, y70, y71, y72, y73, y74, y75, y76, y77, y78, y79, y80, y81, y82, y83, y84, y85, y86, y87, y88, y89, y90, y91, y92, y93, σ 0, σ 1, σ 2, σ 3, σ 4, σ 5, σ 6, σ 7, σ 8, σ 9, σ 10, σ 11, y106, y107, y108, y109, y110, y111, y112, y113, y114, y115, y116, y117, y118, y119, y120, y121, y122, y123, y124, y125, y126, y127, y128, y129, y130, y131, y132, y133, y134, y135, y136, y137, y138, y139, y140, y141, y142, y143, y144, y145, y146, y147, y148, y149, y150, y151, y152, y153, y154, y155, y156, y157, y158, y159, y160]) (fun i => ([z94, z95, z96, z97, z98, z99, z100, z101, z102, z103, z104, z105] : List Value).getD i undef) rfl (fun i X W => match i with
    | 0 => X = .pointer (some ⟨ga, 3, none⟩)
    | 1 => X = .slice (some ⟨b1, f1, none⟩) n c1
    | 2 => X = .int .i64 (k : Int)
    | 3 => X = .pointer (some ⟨b1, f1 + k * 4, none⟩)
    | 4 => X = .agg #[.string x.chain, .int .i64 x.trust, .bool x.frozen, .slice ka x.known.length ma]
    | 5 => X = .pointer (some ⟨gb, 3, none⟩)
    | 6 => X = .slice (some ⟨b2, f2, none⟩) n d1
    | 7 => X = .int .i64 (k : Int)
    | 8 => X = .pointer (some ⟨b2, f2 + k * 4, none⟩)
    | 9 => X = .agg #[.string x.chain, .int .i64 x.trust, .bool x.frozen, .slice kb x.known.length mb]
    | 10 => X = .bool true
    | 11 => X = .bool false
    | _ => True) ?_ (by kernel_rfl) ?_ ?_
  · intro i X W W' HB H
    match i, H with
    | 0, H => exact H
    | 1, H => exact H
    | 2, H => exact H
    | 3, H => exact H
    | 4, H => exact H
    | 5, H => exact H
    | 6, H => exact H
    | 7, H => exact H
    | 8, H => exact H
    | 9, H => exact H
    | 10, H => exact H
    | 11, H => exact H
    | _ + 12, _ => exact trivial
  · refine ⟨?_, ?_, ?_, ?_, ?_, ?_, ?_, ?_, ?_, ?_, ?_, ?_, trivial⟩
    · -- 0: Op.fieldAddr 28 t2 3
      intro σ W HJ hdep
      simp [Region.binds] at hdep
      have HJ := hid HJ
      refine wpOp_plain rfl rfl ?_
      go_simp
      exact Left.mk0 (.pointer (some ⟨ga, 3, none⟩)) (by first | rfl | simp [updF, *]) HJ.out rfl
    · -- 1: Op.load 22 t94
      intro σ W HJ hdep
      simp [Region.binds] at hdep
      have HJ := hid HJ
      have kc := (HJ.out.cell (p := ⟨ga, 3, none⟩) hga).trans hka.out
      refine wpOp_plain rfl rfl ?_
      go_simp
      exact Left.mk0 (.slice (some ⟨b1, f1, none⟩) n c1) (by first | rfl | simp [updF, *]) HJ.out rfl
    · -- 2: Op.move t5
      intro σ W HJ hdep
      simp [Region.binds] at hdep
      have HJ := hid HJ
      refine wpOp_plain rfl rfl ?_
      go_simp
      exact Left.mk0 (.int .i64 (k : Int)) (by first | rfl | simp [updF, *]) HJ.out rfl
    · -- 3: Op.indexAddr 22 t95 t96
      intro σ W HJ hdep
      simp [Region.binds] at hdep
      have HJ := hid HJ
      refine wpOp_plain rfl rfl ?_
      go_simp
      exact Left.mk0 (.pointer (some ⟨b1, f1 + k * 4, none⟩)) (by first | rfl | simp [updF, *]) HJ.out rfl
    · -- 4: Op.load 62 t97
      intro σ W HJ hdep
      simp [Region.binds] at hdep
      have HJ := hid HJ
      have x0 := (HJ.out.cell (p := ⟨b1, f1 + k * 4, none⟩) hb1).trans hca.out.1
      have x1 := (HJ.out.cell (p := ⟨b1, f1 + k * 4 + 1, none⟩) hb1).trans hca.out.2.1
      have x2 := (HJ.out.cell (p := ⟨b1, f1 + k * 4 + 2, none⟩) hb1).trans hca.out.2.2.1
      have x3 := (HJ.out.cell (p := ⟨b1, f1 + k * 4 + 3, none⟩) hb1).trans hca.out.2.2.2
      refine wpOp_plain rfl rfl ?_
      go_simp
      exact Left.mk0 (.agg #[.string x.chain, .int .i64 x.trust, .bool x.frozen, .slice ka x.known.length ma]) (by first | rfl | simp [updF, *]) HJ.out rfl
    · -- 5: Op.fieldAddr 28 t3 3
      intro σ W HJ hdep
      simp [Region.binds] at hdep
      have HJ := hid HJ
      refine wpOp_plain rfl rfl ?_
      go_simp
      exact Left.mk0 (.pointer (some ⟨gb, 3, none⟩)) (by first | rfl | simp [updF, *]) HJ.out rfl
    · -- 6: Op.load 22 t99
      intro σ W HJ hdep
      simp [Region.binds] at hdep
      have HJ := hid HJ
      have kc := (HJ.out.cell (p := ⟨gb, 3, none⟩) hgb).trans hkb.out
      refine wpOp_plain rfl rfl ?_
      go_simp
      exact Left.mk0 (.slice (some ⟨b2, f2, none⟩) n d1) (by first | rfl | simp [updF, *]) HJ.out rfl
    · -- 7: Op.move t5
      intro σ W HJ hdep
      simp [Region.binds] at hdep
      have HJ := hid HJ
      refine wpOp_plain rfl rfl ?_
      go_simp
      exact Left.mk0 (.int .i64 (k : Int)) (by first | rfl | simp [updF, *]) HJ.out rfl
    · -- 8: Op.indexAddr 22 t100 t101
      intro σ W HJ hdep
      simp [Region.binds] at hdep
      have HJ := hid HJ
      refine wpOp_plain rfl rfl ?_
      go_simp
      exact Left.mk0 (.pointer (some ⟨b2, f2 + k * 4, none⟩)) (by first | rfl | simp [updF, *]) HJ.out rfl
    · -- 9: Op.load 62 t102
      intro σ W HJ hdep
      simp [Region.binds] at hdep
      have HJ := hid HJ
      have x0 := (HJ.out.cell (p := ⟨b2, f2 + k * 4, none⟩) hb2).trans hcb.out.1
      have x1 := (HJ.out.cell (p := ⟨b2, f2 + k * 4 + 1, none⟩) hb2).trans hcb.out.2.1
      have x2 := (HJ.out.cell (p := ⟨b2, f2 + k * 4 + 2, none⟩) hb2).trans hcb.out.2.2.1
      have x3 := (HJ.out.cell (p := ⟨b2, f2 + k * 4 + 3, none⟩) hb2).trans hcb.out.2.2.2
      refine wpOp_plain rfl rfl ?_
      go_simp
      exact Left.mk0 (.agg #[.string x.chain, .int .i64 x.trust, .bool x.frozen, .slice kb x.known.length mb]) (by first | rfl | simp [updF, *]) HJ.out rfl
    · -- 10: Op.call { value (Operand.func 62), args := #[t98, t103], arg
      intro σ W HJ hdep
      simp [Region.binds] at hdep
      have HJ := hid HJ
      have HC := hid (sameCl_any x (.agg #[.string x.chain, .int .i64 x.trust, .bool x.frozen, .slice ka x.known.length ma]) (.agg #[.string x.chain, .int .i64 x.trust, .bool x.frozen, .slice kb x.known.length mb]) N W (Nat.le_trans hN HJ.out.size) (hva.out.below (HJ.out.mono hN)) (hvb.out.below (HJ.out.mono hN)) hcf.out)
      refine wpOp_plain rfl rfl ?_
      go_simp
      refine (HC.out).mono ?_
      rintro e w2 ⟨rfl, hb2⟩
      exact Left.mk (.bool true) (by first | rfl | simp [updF, *]) hb2 HJ.out rfl
    · -- 11: Op.unOp UnOp.not 4 t104
      intro σ W HJ hdep
      simp [Region.binds] at hdep
      have HJ := hid HJ
      refine wpOp_plain rfl rfl ?_
      go_simp
      exact Left.mk0 (.bool false) (by first | rfl | simp [updF, *]) HJ.out rfl
  · intro σ w' hb hg
    exact hQ.out σ w' hb (by first | exact ⟨hg 11 (by decide)⟩ | exact hg 11 (by decide))
set_option maxRecDepth 100000 in
set_option maxHeartbeats 16000000 in
theorem sameS_eq (s : St) (va vb : Value) (N : Nat) (w : World) (hN : N ≤ w.heap.size) (ha : StV w N va s) (hb : StV w N vb s) (hf : s.fits) :
    Calls Tryz.prog 11 #[va, vb] w fun e w' => e = .returned (.bool true) ∧ Below w.heap.size w w' := by
  obtain ⟨o1, c1, o2, c2, o3, c3, o4, c4, o5, c5, o6, c6, o7, c7, rfl, hma⟩ := ha.open
  obtain ⟨p1, d1, p2, d2, p3, d3, p4, d4, p5, d5, p6, d6, p7, d7, rfl, hmb⟩ := hb.open
  obtain ⟨-, ⟨hl1, hf1⟩, hl2, hl3, hf4, hf5, hf6, hl7, -⟩ := hf
  obtain ⟨w0, hw0⟩ : ∃ w0, (w.alloc (.cells #[.string s.name, .int .i64 s.height, .int .i64 s.time, .slice o1 s.clients.length c1, .slice o2 s.conns.length c2, .slice o3 s.chans.length c3, .slice o4 s.sent.length c4, .slice o5 s.got.length c5, .slice o6 s.acks.length c6, .slice o7 s.purses.length c7] 28)).alloc (.cells #[.string s.name, .int .i64 s.height, .int .i64 s.time, .slice p1 s.clients.length d1, .slice p2 s.conns.length d2, .slice p3 s.chans.length d3, .slice p4 s.sent.length d4, .slice p5 s.got.length d5, .slice p6 s.acks.length d6, .slice p7 s.purses.length d7] 28) = w0 := ⟨_, rfl⟩
  have hb0 : Below w.heap.size w w0 := by rw [← hw0]; exact ((Below.refl _ _).alloc (Nat.le_refl _) _).alloc (by simp) _
  have HB0 := hid hb0
  have hra : Row w0 w.heap.size 28 [.string s.name, .int .i64 s.height, .int .i64 s.time, .slice o1 s.clients.length c1, .slice o2 s.conns.length c2, .slice o3 s.chans.length c3, .slice o4 s.sent.length c4, .slice o5 s.got.length c5, .slice o6 s.acks.length c6, .slice o7 s.purses.length c7] := by rw [← hw0]; exact (Row.new _ _ _).alloc _
  have hrb : Row w0 (w.heap.size + 1) 28 [.string s.name, .int .i64 s.height, .int .i64 s.time, .slice p1 s.clients.length d1, .slice p2 s.conns.length d2, .slice p3 s.chans.length d3, .slice p4 s.sent.length d4, .slice p5 s.got.length d5, .slice p6 s.acks.length d6, .slice p7 s.purses.length d7] := by rw [← hw0]; exact Row.newAt _ _ _ _ (by simp)
  have HRA := hid (show ∀ wx, Below w0.heap.size w0 wx → Row wx w.heap.size 28 [.string s.name, .int .i64 s.height, .int .i64 s.time, .slice o1 s.clients.length c1, .slice o2 s.conns.length c2, .slice o3 s.chans.length c3, .slice o4 s.sent.length c4, .slice o5 s.got.length c5, .slice o6 s.acks.length c6, .slice o7 s.purses.length c7] from fun wx hx => hra.below hx hra.lt)
  have HRB := hid (show ∀ wx, Below w0.heap.size w0 wx → Row wx (w.heap.size + 1) 28 [.string s.name, .int .i64 s.height, .int .i64 s.time, .slice p1 s.clients.length d1, .slice p2 s.conns.length d2, .slice p3 s.chans.length d3, .slice p4 s.sent.length d4, .slice p5 s.got.length d5, .slice p6 s.acks.length d6, .slice p7 s.purses.length d7] from fun wx hx => hrb.below hx hrb.lt)
  have hN0 : N ≤ w0.heap.size := Nat.le_trans hN hb0.size
  have hla := hra.lt
  have hlb := hrb.lt
  have HA := hid (hma.below (hb0.mono hN))
  have HB := hid (hmb.below (hb0.mono hN))
  have HF := hid hf1
  have HMsent := hid (show ∀ wx, Below w0.heap.size w0 wx → Calls Tryz.prog 23 #[.slice o4 s.sent.length c4, .slice p4 s.sent.length d4] wx (fun e w' => e = .returned (.bool true) ∧ Below w0.heap.size w0 w') from fun wx hx =>
    (sameMarks_any s.sent s.sent _ _ N N wx (HA.out.sent.below MkR.stays (hx.mono hN0)) (HB.out.sent.below MkR.stays (hx.mono hN0)) hf4.1 hf4.2 hf4.2).mono fun e w' ⟨bb, h1, h2, n, h3⟩ => ⟨by rw [h1, h2.2 rfl], by rw [h3]; exact hx.trans (below_drewH _ _ _)⟩)
  have HMgot := hid (show ∀ wx, Below w0.heap.size w0 wx → Calls Tryz.prog 23 #[.slice o5 s.got.length c5, .slice p5 s.got.length d5] wx (fun e w' => e = .returned (.bool true) ∧ Below w0.heap.size w0 w') from fun wx hx =>
    (sameMarks_any s.got s.got _ _ N N wx (HA.out.got.below MkR.stays (hx.mono hN0)) (HB.out.got.below MkR.stays (hx.mono hN0)) hf5.1 hf5.2 hf5.2).mono fun e w' ⟨bb, h1, h2, n, h3⟩ => ⟨by rw [h1, h2.2 rfl], by rw [h3]; exact hx.trans (below_drewH _ _ _)⟩)
  have HMacks := hid (show ∀ wx, Below w0.heap.size w0 wx → Calls Tryz.prog 23 #[.slice o6 s.acks.length c6, .slice p6 s.acks.length d6] wx (fun e w' => e = .returned (.bool true) ∧ Below w0.heap.size w0 w') from fun wx hx =>
    (sameMarks_any s.acks s.acks _ _ N N wx (HA.out.acks.below MkR.stays (hx.mono hN0)) (HB.out.acks.below MkR.stays (hx.mono hN0)) hf6.1 hf6.2 hf6.2).mono fun e w' ⟨bb, h1, h2, n, h3⟩ => ⟨by rw [h1, h2.2 rfl], by rw [h3]; exact hx.trans (below_drewH _ _ _)⟩)
  have HW0 := hid hw0
  clear hw0 hb0 ha hb hma hmb hra hrb hf1 hf4 hf5 hf6
  have HBW := hid (Below.refl w0.heap.size w0)
  have k0 : w0.cell? ⟨w.heap.size, 0, none⟩ = some (.string s.name) := HRA.out _ HBW.out |>.cell 0
  have k1 : w0.cell? ⟨w.heap.size, 1, none⟩ = some (.int .i64 s.height) := HRA.out _ HBW.out |>.cell 1
  have k2 : w0.cell? ⟨w.heap.size, 2, none⟩ = some (.int .i64 s.time) := HRA.out _ HBW.out |>.cell 2
  have k3 : w0.cell? ⟨w.heap.size, 3, none⟩ = some (.slice o1 s.clients.length c1) := HRA.out _ HBW.out |>.cell 3
  have k4 : w0.cell? ⟨w.heap.size, 4, none⟩ = some (.slice o2 s.conns.length c2) := HRA.out _ HBW.out |>.cell 4
  have k5 : w0.cell? ⟨w.heap.size, 5, none⟩ = some (.slice o3 s.chans.length c3) := HRA.out _ HBW.out |>.cell 5
  have k9 : w0.cell? ⟨w.heap.size, 9, none⟩ = some (.slice o7 s.purses.length c7) := HRA.out _ HBW.out |>.cell 9
  have k6 : w0.cell? ⟨w.heap.size, 6, none⟩ = some (.slice o4 s.sent.length c4) := HRA.out _ HBW.out |>.cell 6
  have j0 : w0.cell? ⟨w.heap.size + 1, 0, none⟩ = some (.string s.name) := HRB.out _ HBW.out |>.cell 0
  have j1 : w0.cell? ⟨w.heap.size + 1, 1, none⟩ = some (.int .i64 s.height) := HRB.out _ HBW.out |>.cell 1
  have j2 : w0.cell? ⟨w.heap.size + 1, 2, none⟩ = some (.int .i64 s.time) := HRB.out _ HBW.out |>.cell 2
  have j3 : w0.cell? ⟨w.heap.size + 1, 3, none⟩ = some (.slice p1 s.clients.length d1) := HRB.out _ HBW.out |>.cell 3
  have j4 : w0.cell? ⟨w.heap.size + 1, 4, none⟩ = some (.slice p2 s.conns.length d2) := HRB.out _ HBW.out |>.cell 4
  have j5 : w0.cell? ⟨w.heap.size + 1, 5, none⟩ = some (.slice p3 s.chans.length d3) := HRB.out _ HBW.out |>.cell 5
  have j9 : w0.cell? ⟨w.heap.size + 1, 9, none⟩ = some (.slice p7 s.purses.length d7) := HRB.out _ HBW.out |>.cell 9
  have j6 : w0.cell? ⟨w.heap.size + 1, 6, none⟩ = some (.slice p4 s.sent.length d4) := HRB.out _ HBW.out |>.cell 6
  clear HBW
  have n1 : (s.height != s.height) = false := by simp
  have n2 : (s.time != s.time) = false := by simp
  have m1 : ((s.clients.length : Int) != (s.clients.length : Int)) = false := by simp
  have m2 : ((s.conns.length : Int) != (s.conns.length : Int)) = false := by simp
  have m3 : ((s.chans.length : Int) != (s.chans.length : Int)) = false := by simp
  have m7 : ((s.purses.length : Int) != (s.purses.length : Int)) = false := by simp
  go_enter Tryz.func11, Tryz.ntmps11
  go_upto_region 1 with fail
  rw [HW0.out]
  have HBR := hid (Below.refl w0.heap.size w0)
  go_wp2_with (first | (go_at_call_of 23 (Value.slice o4 s.sent.length c4); refine (HMsent.out _ HBR.out).mono ?_; rintro e w3 ⟨rfl, hb3⟩; have HBS := hid hb3; clear hb3; have k7 : w3.cell? ⟨w.heap.size, 7, none⟩ = some (.slice o5 s.got.length c5) := HRA.out _ HBS.out |>.cell 7; have j7 : w3.cell? ⟨w.heap.size + 1, 7, none⟩ = some (.slice p5 s.got.length d5) := HRB.out _ HBS.out |>.cell 7) | (go_at_call_of 23 (Value.slice o5 s.got.length c5); refine (HMgot.out _ HBS.out).mono ?_; rintro e w4 ⟨rfl, hb4⟩; have HBG := hid hb4; clear hb4; have k8 : w4.cell? ⟨w.heap.size, 8, none⟩ = some (.slice o6 s.acks.length c6) := HRA.out _ HBG.out |>.cell 8; have j8 : w4.cell? ⟨w.heap.size + 1, 8, none⟩ = some (.slice p6 s.acks.length d6) := HRB.out _ HBG.out |>.cell 8) | (go_at_call_of 23 (Value.slice o6 s.acks.length c6); refine (HMacks.out _ HBG.out).mono ?_; rintro e w5 ⟨rfl, hb5⟩; have HBY := hid hb5; clear hb5; have k3 : w5.cell? ⟨w.heap.size, 3, none⟩ = some (.slice o1 s.clients.length c1) := HRA.out _ HBY.out |>.cell 3; have j3 : w5.cell? ⟨w.heap.size + 1, 3, none⟩ = some (.slice p1 s.clients.length d1) := HRB.out _ HBY.out |>.cell 3))
  go_loopw [5, 91] (fun _ i wr => ∃ k : Nat, k ≤ s.clients.length ∧ i = .int .i64 (k : Int) ∧ Hid (Below w0.heap.size w0 wr)) (fun _ i _ => s.clients.length - (intOf i).toNat)
  case atStart => exact ⟨0, by omega, rfl, hid (HBY.out)⟩
  case round =>
    obtain ⟨k, hk, rfl, HBW⟩ := hrel
    have hszw := HBW.out.size
    by_cases hlt : k < s.clients.length
    · obtain ⟨x, hx⟩ : ∃ x, s.clients[k]? = some x := ⟨_, List.getElem?_eq_getElem hlt⟩
      have ka := HRA.out _ HBW.out |>.cell 3
      have kb := HRB.out _ HBW.out |>.cell 3
      obtain ⟨b1, f1, rfl, gx⟩ := HA.out.clients.spot (by omega)
      obtain ⟨b2, f2, rfl, gy⟩ := HB.out.clients.spot (by omega)
      obtain ⟨hb1, rx, hrx, cx⟩ := gx k x hx
      obtain ⟨hb2, ry, hry, cy⟩ := gy k x hx
      have hlt' : (k : Int) < (s.clients.length : Int) := by omega
      have hb1' : b1 < w0.heap.size := by omega
      have hb2' : b2 < w0.heap.size := by omega
      have hz1 : b1 < wr.heap.size := by omega
      have hz2 : b2 < wr.heap.size := by omega
      obtain ⟨kva, rfl, ha1⟩ := hrx
      obtain ⟨kvb, rfl, ha2⟩ := hry
      obtain ⟨ua, ma, rfl, -⟩ := ha1.shape
      obtain ⟨ub, mb, rfl, -⟩ := ha2.shape
      have x0 := (HBW.out.cell (p := ⟨b1, f1 + k * 4 + 0, none⟩) hb1').trans (cx 0 _ rfl)
      have y0 := (HBW.out.cell (p := ⟨b2, f2 + k * 4 + 0, none⟩) hb2').trans (cy 0 _ rfl)
      have x1 := (HBW.out.cell (p := ⟨b1, f1 + k * 4 + 1, none⟩) hb1').trans (cx 1 _ rfl)
      have y1 := (HBW.out.cell (p := ⟨b2, f2 + k * 4 + 1, none⟩) hb2').trans (cy 1 _ rfl)
      have x2 := (HBW.out.cell (p := ⟨b1, f1 + k * 4 + 2, none⟩) hb1').trans (cx 2 _ rfl)
      have y2 := (HBW.out.cell (p := ⟨b2, f2 + k * 4 + 2, none⟩) hb2').trans (cy 2 _ rfl)
      have x3 := (HBW.out.cell (p := ⟨b1, f1 + k * 4 + 3, none⟩) hb1').trans (cx 3 _ rfl)
      have y3 := (HBW.out.cell (p := ⟨b2, f2 + k * 4 + 3, none⟩) hb2').trans (cy 3 _ rfl)
      simp only [Nat.add_zero] at x0 y0
      have KA := hid ka
      have KB := hid kb
      have CX := hid (show wr.cell? ⟨b1, f1 + k * 4, none⟩ = some (.string x.chain) ∧ wr.cell? ⟨b1, f1 + k * 4 + 1, none⟩ = some (.int .i64 x.trust) ∧ wr.cell? ⟨b1, f1 + k * 4 + 2, none⟩ = some (.bool x.frozen) ∧ wr.cell? ⟨b1, f1 + k * 4 + 3, none⟩ = some (.slice ua x.known.length ma) from ⟨x0, x1, x2, x3⟩)
      have CY := hid (show wr.cell? ⟨b2, f2 + k * 4, none⟩ = some (.string x.chain) ∧ wr.cell? ⟨b2, f2 + k * 4 + 1, none⟩ = some (.int .i64 x.trust) ∧ wr.cell? ⟨b2, f2 + k * 4 + 2, none⟩ = some (.bool x.frozen) ∧ wr.cell? ⟨b2, f2 + k * 4 + 3, none⟩ = some (.slice ub x.known.length mb) from ⟨y0, y1, y2, y3⟩)
      have VA := hid (show ClV wr N (.agg #[.string x.chain, .int .i64 x.trust, .bool x.frozen, .slice ua x.known.length ma]) x from ⟨_, rfl, ha1.below (HBW.out.mono hN0)⟩)
      have VB := hid (show ClV wr N (.agg #[.string x.chain, .int .i64 x.trust, .bool x.frozen, .slice ub x.known.length mb]) x from ⟨_, rfl, ha2.below (HBW.out.mono hN0)⟩)
      have XF := hid (HF.out x (List.mem_of_getElem? hx))
      clear gx gy cx cy hx ha1 ha2 ka kb x0 x1 x2 x3 y0 y1 y2 y3
      go_upto_region 6 with fail
      refine sameClR x k s.clients.length b1 f1 b2 f2 _ _ ma mb ua ub (Nat.le_trans hN0 hszw) (by omega) (by omega) KA KB hlt' hz1 hz2 CX CY VA VB XF _ (hid ?_)
      intro σ w6 hb6 e11
      have HB6 := hid (HBW.out.trans (hb6.mono hszw))
      rw [e11]
      clear hb6 e11
      go_wp2
      go_roundw
      case rel => exact ⟨k + 1, by omega, by go_num, HB6⟩
      case measure => simp [intOf]; omega
    · have hge : decide ((k : Int) < (s.clients.length : Int)) = false := by simp; omega
      have HBX := HBW
      have kx : wr.cell? ⟨w.heap.size, 4, none⟩ = some (.slice o2 s.conns.length c2) := HRA.out _ HBW.out |>.cell 4
      clear HBW
      go_wp2_with fail
      clear kx
      go_loopw [6, 110] (fun _ i wr => ∃ k : Nat, k ≤ s.conns.length ∧ i = .int .i64 (k : Int) ∧ Hid (Below w0.heap.size w0 wr)) (fun _ i _ => s.conns.length - (intOf i).toNat)
      case atStart => exact ⟨0, by omega, rfl, hid (HBX.out)⟩
      case round =>
        obtain ⟨k, hk, rfl, HBW⟩ := hrel
        have hszw := HBW.out.size
        by_cases hlt : k < s.conns.length
        · obtain ⟨x, hx⟩ : ∃ x, s.conns[k]? = some x := ⟨_, List.getElem?_eq_getElem hlt⟩
          have ka := HRA.out _ HBW.out |>.cell 4
          have kb := HRB.out _ HBW.out |>.cell 4
          obtain ⟨b1, f1, rfl, gx⟩ := HA.out.conns.spot (by omega)
          obtain ⟨b2, f2, rfl, gy⟩ := HB.out.conns.spot (by omega)
          obtain ⟨hb1, rx, hrx, cx⟩ := gx k x hx
          obtain ⟨hb2, ry, hry, cy⟩ := gy k x hx
          have hlt' : (k : Int) < (s.conns.length : Int) := by omega
          have hb1' : b1 < w0.heap.size := by omega
          have hb2' : b2 < w0.heap.size := by omega
          have hz1 : b1 < wr.heap.size := by omega
          have hz2 : b2 < wr.heap.size := by omega
          subst hrx hry
          have x0 := (HBW.out.cell (p := ⟨b1, f1 + k * 4 + 0, none⟩) hb1').trans (cx 0 _ rfl)
          have y0 := (HBW.out.cell (p := ⟨b2, f2 + k * 4 + 0, none⟩) hb2').trans (cy 0 _ rfl)
          have x1 := (HBW.out.cell (p := ⟨b1, f1 + k * 4 + 1, none⟩) hb1').trans (cx 1 _ rfl)
          have y1 := (HBW.out.cell (p := ⟨b2, f2 + k * 4 + 1, none⟩) hb2').trans (cy 1 _ rfl)
          have x2 := (HBW.out.cell (p := ⟨b1, f1 + k * 4 + 2, none⟩) hb1').trans (cx 2 _ rfl)
          have y2 := (HBW.out.cell (p := ⟨b2, f2 + k * 4 + 2, none⟩) hb2').trans (cy 2 _ rfl)
          have x3 := (HBW.out.cell (p := ⟨b1, f1 + k * 4 + 3, none⟩) hb1').trans (cx 3 _ rfl)
          have y3 := (HBW.out.cell (p := ⟨b2, f2 + k * 4 + 3, none⟩) hb2').trans (cy 3 _ rfl)
          simp only [Nat.add_zero] at x0 y0
          have hcm := neqCn_same x
          clear gx gy cx cy hx
          go_wp2_with fail
          go_quiet (fail)
          go_wp2
          go_roundw
          case rel => exact ⟨k + 1, by omega, by go_num, hid (HBW.out.trans (below_drewH _ _ _))⟩
          case measure => simp [intOf]; omega
        · have hge : decide ((k : Int) < (s.conns.length : Int)) = false := by simp; omega
          have HBX := HBW
          have kx : wr.cell? ⟨w.heap.size, 5, none⟩ = some (.slice o3 s.chans.length c3) := HRA.out _ HBW.out |>.cell 5
          clear HBW
          go_wp2_with fail
          clear kx
          go_loopw [7, 128] (fun _ i wr => ∃ k : Nat, k ≤ s.chans.length ∧ i = .int .i64 (k : Int) ∧ Hid (Below w0.heap.size w0 wr)) (fun _ i _ => s.chans.length - (intOf i).toNat)
          case atStart => exact ⟨0, by omega, rfl, hid (HBX.out)⟩
          case round =>
            obtain ⟨k, hk, rfl, HBW⟩ := hrel
            have hszw := HBW.out.size
            by_cases hlt : k < s.chans.length
            · obtain ⟨x, hx⟩ : ∃ x, s.chans[k]? = some x := ⟨_, List.getElem?_eq_getElem hlt⟩
              have ka := HRA.out _ HBW.out |>.cell 5
              have kb := HRB.out _ HBW.out |>.cell 5
              obtain ⟨b1, f1, rfl, gx⟩ := HA.out.chans.spot (by omega)
              obtain ⟨b2, f2, rfl, gy⟩ := HB.out.chans.spot (by omega)
              obtain ⟨hb1, rx, hrx, cx⟩ := gx k x hx
              obtain ⟨hb2, ry, hry, cy⟩ := gy k x hx
              have hlt' : (k : Int) < (s.chans.length : Int) := by omega
              have hb1' : b1 < w0.heap.size := by omega
              have hb2' : b2 < w0.heap.size := by omega
              have hz1 : b1 < wr.heap.size := by omega
              have hz2 : b2 < wr.heap.size := by omega
              subst hrx hry
              have x0 := (HBW.out.cell (p := ⟨b1, f1 + k * 7 + 0, none⟩) hb1').trans (cx 0 _ rfl)
              have y0 := (HBW.out.cell (p := ⟨b2, f2 + k * 7 + 0, none⟩) hb2').trans (cy 0 _ rfl)
              have x1 := (HBW.out.cell (p := ⟨b1, f1 + k * 7 + 1, none⟩) hb1').trans (cx 1 _ rfl)
              have y1 := (HBW.out.cell (p := ⟨b2, f2 + k * 7 + 1, none⟩) hb2').trans (cy 1 _ rfl)
              have x2 := (HBW.out.cell (p := ⟨b1, f1 + k * 7 + 2, none⟩) hb1').trans (cx 2 _ rfl)
              have y2 := (HBW.out.cell (p := ⟨b2, f2 + k * 7 + 2, none⟩) hb2').trans (cy 2 _ rfl)
              have x3 := (HBW.out.cell (p := ⟨b1, f1 + k * 7 + 3, none⟩) hb1').trans (cx 3 _ rfl)
              have y3 := (HBW.out.cell (p := ⟨b2, f2 + k * 7 + 3, none⟩) hb2').trans (cy 3 _ rfl)
              have x4 := (HBW.out.cell (p := ⟨b1, f1 + k * 7 + 4, none⟩) hb1').trans (cx 4 _ rfl)
              have y4 := (HBW.out.cell (p := ⟨b2, f2 + k * 7 + 4, none⟩) hb2').trans (cy 4 _ rfl)
              have x5 := (HBW.out.cell (p := ⟨b1, f1 + k * 7 + 5, none⟩) hb1').trans (cx 5 _ rfl)
              have y5 := (HBW.out.cell (p := ⟨b2, f2 + k * 7 + 5, none⟩) hb2').trans (cy 5 _ rfl)
              have x6 := (HBW.out.cell (p := ⟨b1, f1 + k * 7 + 6, none⟩) hb1').trans (cx 6 _ rfl)
              have y6 := (HBW.out.cell (p := ⟨b2, f2 + k * 7 + 6, none⟩) hb2').trans (cy 6 _ rfl)
              simp only [Nat.add_zero] at x0 y0
              have hcm := neqCh_same x
              clear gx gy cx cy hx
              go_wp2_with fail
              go_quiet (fail)
              go_wp2
              go_roundw
              case rel => exact ⟨k + 1, by omega, by go_num, hid (HBW.out.trans (below_drewH _ _ _))⟩
              case measure => simp [intOf]; omega
            · have hge : decide ((k : Int) < (s.chans.length : Int)) = false := by simp; omega
              have HBX := HBW
              have kx : wr.cell? ⟨w.heap.size, 9, none⟩ = some (.slice o7 s.purses.length c7) := HRA.out _ HBW.out |>.cell 9
              clear HBW
              go_wp2_with fail
              clear kx
              go_loopw [8, 146] (fun _ i wr => ∃ k : Nat, k ≤ s.purses.length ∧ i = .int .i64 (k : Int) ∧ Hid (Below w0.heap.size w0 wr)) (fun _ i _ => s.purses.length - (intOf i).toNat)
              case atStart => exact ⟨0, by omega, rfl, hid (HBX.out)⟩
              case round =>
                obtain ⟨k, hk, rfl, HBW⟩ := hrel
                have hszw := HBW.out.size
                by_cases hlt : k < s.purses.length
                · obtain ⟨x, hx⟩ : ∃ x, s.purses[k]? = some x := ⟨_, List.getElem?_eq_getElem hlt⟩
                  have ka := HRA.out _ HBW.out |>.cell 9
                  have kb := HRB.out _ HBW.out |>.cell 9
                  obtain ⟨b1, f1, rfl, gx⟩ := HA.out.purses.spot (by omega)
                  obtain ⟨b2, f2, rfl, gy⟩ := HB.out.purses.spot (by omega)
                  obtain ⟨hb1, rx, hrx, cx⟩ := gx k x hx
                  obtain ⟨hb2, ry, hry, cy⟩ := gy k x hx
                  have hlt' : (k : Int) < (s.purses.length : Int) := by omega
                  have hb1' : b1 < w0.heap.size := by omega
                  have hb2' : b2 < w0.heap.size := by omega
                  have hz1 : b1 < wr.heap.size := by omega
                  have hz2 : b2 < wr.heap.size := by omega
                  subst hrx hry
                  have x0 := (HBW.out.cell (p := ⟨b1, f1 + k * 3 + 0, none⟩) hb1').trans (cx 0 _ rfl)
                  have y0 := (HBW.out.cell (p := ⟨b2, f2 + k * 3 + 0, none⟩) hb2').trans (cy 0 _ rfl)
                  have x1 := (HBW.out.cell (p := ⟨b1, f1 + k * 3 + 1, none⟩) hb1').trans (cx 1 _ rfl)
                  have y1 := (HBW.out.cell (p := ⟨b2, f2 + k * 3 + 1, none⟩) hb2').trans (cy 1 _ rfl)
                  have x2 := (HBW.out.cell (p := ⟨b1, f1 + k * 3 + 2, none⟩) hb1').trans (cx 2 _ rfl)
                  have y2 := (HBW.out.cell (p := ⟨b2, f2 + k * 3 + 2, none⟩) hb2').trans (cy 2 _ rfl)
                  simp only [Nat.add_zero] at x0 y0
                  have hcm := neqPu x
                  clear gx gy cx cy hx
                  go_wp2_with fail
                  go_quiet (fail)
                  go_wp2
                  go_roundw
                  case rel => exact ⟨k + 1, by omega, by go_num, hid (HBW.out.trans (below_drewH _ _ _))⟩
                  case measure => simp [intOf]; omega
                · have hge : decide ((k : Int) < (s.purses.length : Int)) = false := by simp; omega
                  have HBX := HBW
                  go_wp2
                  go_ret
                  exact ⟨rfl, HB0.out.trans (HBX.out.mono HB0.out.size)⟩
end Go.Proofs.YtbjlfhabnjpdmaaGreatDoor
