/-
  What the document's sameMarks answers, and its Same of two states that are bare.
-/
import Derived.Test.YtbgdpfeobklnhaaGreatDoorgoStMath
import Derived.Test.YtbgdpfeobklnhaaGreatDoorgoStMem
import Derived.Test.YtbgdpfeobklnhaaGreatDoorgoSameB
import Derived.Laws.StructEq
import Derived.BigQuiet
import Derived.Deep.RegionHeld3
import Derived.Deep.RegionWith
namespace Go.Proofs.YtbgdpfeobklnhaaGreatDoor
open Go.RowKit

theorem fCn : Tryz.prog.underlying 60 = some (.struct (Tryz.prog.fieldsOf 60)) := by kernel_rfl
theorem gCn : Tryz.prog.stoodInHeld 60 = false := by kernel_rfl
set_option maxRecDepth 10000 in
theorem neqCn (x y : Cn) (w : World) : (binOp .neq 60 (.agg #[.int .i64 x.state, .int .i64 x.client, .int .i64 x.oclient, .int .i64 x.oconn]) (.agg #[.int .i64 y.state, .int .i64 y.client, .int .i64 y.oclient, .int .i64 y.oconn])).run Tryz.prog w = .ok (.bool (decide (x.state ≠ y.state ∨ x.client ≠ y.client ∨ x.oclient ≠ y.oclient ∨ x.oconn ≠ y.oconn))) w := by
  have u3 := Tryz.underlying3
  have a3 := Tryz.isAgg3
  have z3 := Tryz.sizeOf3
  have u4 := Tryz.underlying4
  have a4 := Tryz.isAgg4
  have z4 := Tryz.sizeOf4
  rw [run_neq_struct, run_equalIn_struct w 9999 _ _ _ fCn gCn]
  simp only [Program.fieldsOf, Tryz.underlying60]
  go_simp
  by_cases h0 : x.state = y.state <;> by_cases h1 : x.client = y.client <;> by_cases h2 : x.oclient = y.oclient <;> by_cases h3 : x.oconn = y.oconn <;> simp [h0, h1, h2, h3]
theorem fCh : Tryz.prog.underlying 54 = some (.struct (Tryz.prog.fieldsOf 54)) := by kernel_rfl
theorem gCh : Tryz.prog.stoodInHeld 54 = false := by kernel_rfl
set_option maxRecDepth 10000 in
theorem neqCh (x y : Ch) (w : World) : (binOp .neq 54 (.agg #[.int .i64 x.state, .bool x.ordered, .int .i64 x.conn, .int .i64 x.ochan, .int .i64 x.send, .int .i64 x.recv, .int .i64 x.ack]) (.agg #[.int .i64 y.state, .bool y.ordered, .int .i64 y.conn, .int .i64 y.ochan, .int .i64 y.send, .int .i64 y.recv, .int .i64 y.ack])).run Tryz.prog w = .ok (.bool (decide (x.state ≠ y.state ∨ x.ordered ≠ y.ordered ∨ x.conn ≠ y.conn ∨ x.ochan ≠ y.ochan ∨ x.send ≠ y.send ∨ x.recv ≠ y.recv ∨ x.ack ≠ y.ack))) w := by
  have u3 := Tryz.underlying3
  have a3 := Tryz.isAgg3
  have z3 := Tryz.sizeOf3
  have u4 := Tryz.underlying4
  have a4 := Tryz.isAgg4
  have z4 := Tryz.sizeOf4
  rw [run_neq_struct, run_equalIn_struct w 9999 _ _ _ fCh gCh]
  simp only [Program.fieldsOf, Tryz.underlying54]
  go_simp
  by_cases h0 : x.state = y.state <;> by_cases h1 : x.ordered = y.ordered <;> by_cases h2 : x.conn = y.conn <;> by_cases h3 : x.ochan = y.ochan <;> by_cases h4 : x.send = y.send <;> by_cases h5 : x.recv = y.recv <;> by_cases h6 : x.ack = y.ack <;> simp [h0, h1, h2, h3, h4, h5, h6]
theorem Cn.same {x y : Cn} : (x.state ≠ y.state ∨ x.client ≠ y.client ∨ x.oclient ≠ y.oclient ∨ x.oconn ≠ y.oconn) ↔ x ≠ y := by
  obtain ⟨a, b, c, d⟩ := x
  obtain ⟨a', b', c', d'⟩ := y
  simp only [ne_eq, Cn.mk.injEq]
  by_cases h0 : a = a' <;> by_cases h1 : b = b' <;> by_cases h2 : c = c' <;> by_cases h3 : d = d' <;> simp [h0, h1, h2, h3]
theorem Ch.same {x y : Ch} : (x.state ≠ y.state ∨ x.ordered ≠ y.ordered ∨ x.conn ≠ y.conn ∨ x.ochan ≠ y.ochan ∨ x.send ≠ y.send ∨ x.recv ≠ y.recv ∨ x.ack ≠ y.ack) ↔ x ≠ y := by
  obtain ⟨a, b, c, d, e, f, g⟩ := x
  obtain ⟨a', b', c', d', e', f', g'⟩ := y
  simp only [ne_eq, Ch.mk.injEq]
  by_cases h0 : a = a' <;> by_cases h1 : b = b' <;> by_cases h2 : c = c' <;> by_cases h3 : d = d' <;> by_cases h4 : e = e' <;> by_cases h5 : f = f' <;> by_cases h6 : g = g' <;> simp [h0, h1, h2, h3, h4, h5, h6]
theorem take_eq {α : Type} (l m : List α) (k : Nat) (x : α) (hx : l[k]? = some x) (hy : m[k]? = some x) (h : l.take k = m.take k) : l.take (k + 1) = m.take (k + 1) := by rw [List.take_add_one, List.take_add_one, hx, hy, h]
theorem get_ne {α : Type} (l m : List α) (k : Nat) (x y : α) (hx : l[k]? = some x) (hy : m[k]? = some y) (h : x ≠ y) : ¬ l = m := fun e => h (by rw [e, hy] at hx; simpa using hx.symm)
theorem drewN_belowSt (w : World) (N n : Nat) : Below N w (w.drewN n) := ⟨rfl, rfl, rfl, Nat.le_refl _, fun _ _ => rfl⟩
set_option maxRecDepth 100000 in
set_option maxHeartbeats 4000000 in
theorem sameMarks_any (l m : List Mk) (sa sb : Value) (Na Nb : Nat) (w : World) (ha : Many MkR 3 w Na sa l) (hb : Many MkR 3 w Nb sb m) (hlen : l.length < 2305843009213693952) (hfl : ∀ p ∈ l, p.fits) (hfm : ∀ p ∈ m, p.fits) :
    Calls Tryz.prog 31 #[sa, sb] w fun e w' => ∃ bb, e = .returned (.bool bb) ∧ (bb = true ↔ l = m) ∧ ∃ n, w' = w.drewN n := by
  obtain ⟨oa, ca, rfl, hca⟩ := ha.shape
  obtain ⟨ob, cb, rfl, hcb⟩ := hb.shape
  by_cases hne : l.length = m.length
  · have HA := hid ha
    have HB := hid hb
    have HFL := hid hfl
    have HFM := hid hfm
    clear ha hb hfl hfm
    rw [← hne] at HB hcb ⊢
    have HE := hid hne
    clear hne
    generalize hn : l.length = n at *
    have HN := hid hn
    clear hn
    have hnn : ((n : Int) != (n : Int)) = false := by simp
    go_enter Tryz.func31, Tryz.ntmps31
    go_wp2_with fail
    go_loopw [5, 13] (fun _ i wr => ∃ k q : Nat, k ≤ n ∧ i = .int .i64 k ∧ wr = w.drewN q ∧ Hid (l.take k = m.take k)) (fun _ i _ => n - (intOf i).toNat)
    case atStart => exact ⟨0, 0, by omega, rfl, rfl, hid rfl⟩
    case round =>
      obtain ⟨k, q, hk, rfl, rfl, HT⟩ := hrel
      by_cases hlt : k < n
      · obtain ⟨x, hx⟩ : ∃ p, l[k]? = some p := ⟨l[k]'(by rw [HN.out]; exact hlt), List.getElem?_eq_getElem _⟩
        obtain ⟨y, hy⟩ : ∃ p, m[k]? = some p := ⟨m[k]'(by rw [← HE.out]; exact hlt), List.getElem?_eq_getElem _⟩
        obtain ⟨b1, p1, rfl, cx⟩ := HA.out.spot (by omega)
        obtain ⟨b2, p2, rfl, cy⟩ := HB.out.spot (by omega)
        obtain ⟨_, rx, ⟨vx, rfl, hxd⟩, x0⟩ := cx k x hx
        obtain ⟨_, ry, ⟨vy, rfl, hyd⟩, y0⟩ := cy k y hy
        obtain ⟨o1, c1, rfl, _⟩ := hxd.shape
        obtain ⟨o2, c2, rfl, _⟩ := hyd.shape
        have q0 := x0 0 _ rfl
        have q1 := x0 1 _ rfl
        have q2 := x0 2 _ rfl
        have r0 := y0 0 _ rfl
        have r1 := y0 1 _ rfl
        have r2 := y0 2 _ rfl
        simp only [Nat.add_zero] at q0 r0
        have hlt' : (k : Int) < (n : Int) := by omega
        have HX := hid hx
        have HY := hid hy
        have hfx := HFL.out x (List.mem_of_getElem? hx)
        have hfy := HFM.out y (List.mem_of_getElem? hy)
        clear cx cy hx hy x0 y0
        have HSD := hid (fun wq : Nat => show Calls Tryz.prog 66 #[.slice o1 x.dig.length c1, .slice o2 y.dig.length c2] (w.drewN (q + wq)) (fun e w' => e = .returned (.bool (decide (x.dig = y.dig))) ∧ ∃ n, w' = w.drewN (q + n)) from
          (sameB_any x.dig y.dig _ _ Na Nb (w.drewN (q + wq)) (hxd.below (drewN_belowSt _ _ _)) (hyd.below (drewN_belowSt _ _ _)) (by unfold Mk.fits at hfx; omega) (by unfold Mk.fits at hfy; omega)).mono fun e w' ⟨h1, n', h2⟩ => ⟨h1, wq + n', by rw [h2, World.drewN_drewN, Nat.add_assoc]⟩)
        clear hxd hyd hfx hfy
        by_cases h1 : x.chan = y.chan
        · have e1 : (x.chan != y.chan) = false := by simpa using h1
          by_cases h2 : x.seq = y.seq
          · have e2 : (x.seq != y.seq) = false := by simpa using h2
            by_cases h3 : x.dig = y.dig
            · have HEQ := hid (take_eq l m k x HX.out (by rw [HY.out]; congr 1; obtain ⟨_, _, _⟩ := x; obtain ⟨_, _, _⟩ := y; simp_all) HT.out)
              rw [decide_eq_true h3] at HSD
              clear h1 h2 h3
              go_wp2_with fail
              go_quiet (first | (go_at_call_of 66 (Value.slice o1 x.dig.length c1); exact HSD.out _))
              go_wp2
              go_roundw
              case rel => exact ⟨k + 1, q + nq, by omega, by go_num, rfl, HEQ⟩
              case measure => simp [intOf]; omega
            · rw [decide_eq_false h3] at HSD
              have HNE := hid (get_ne l m k x y HX.out HY.out (fun e => h3 (by rw [e])))
              clear h1 h2 h3
              go_wp2_with fail
              go_quiet (first | (go_at_call_of 66 (Value.slice o1 x.dig.length c1); exact HSD.out _))
              go_wp2
              go_ret
              exact ⟨false, rfl, ⟨fun h => by simp at h, fun h => absurd h HNE.out⟩, q + nq, World.drewN_drewN _ _ _⟩
          · have e2 : (x.seq != y.seq) = true := by simpa using h2
            have HNE := hid (get_ne l m k x y HX.out HY.out (fun e => h2 (by rw [e])))
            clear h1 h2
            go_wp2_with fail
            go_quiet (first | (go_at_call_of 66 (Value.slice o1 x.dig.length c1); exact HSD.out _))
            go_wp2
            go_ret
            exact ⟨false, rfl, ⟨fun h => by simp at h, fun h => absurd h HNE.out⟩, q + nq, World.drewN_drewN _ _ _⟩
        · have e1 : (x.chan != y.chan) = true := by simpa using h1
          have HNE := hid (get_ne l m k x y HX.out HY.out (fun e => h1 (by rw [e])))
          clear h1
          go_wp2_with fail
          go_quiet (first | (go_at_call_of 66 (Value.slice o1 x.dig.length c1); exact HSD.out _))
          go_wp2
          go_ret
          exact ⟨false, rfl, ⟨fun h => by simp at h, fun h => absurd h HNE.out⟩, q + nq, World.drewN_drewN _ _ _⟩
      · have HEQ := hid (show l = m by
          have := HT.out
          rwa [List.take_of_length_le (by rw [HN.out]; omega), List.take_of_length_le (by rw [← HE.out]; omega)] at this)
        go_wp2
        go_ret
        exact ⟨true, rfl, ⟨fun _ => HEQ.out, fun _ => rfl⟩, q, rfl⟩
  · have hnn : ((l.length : Int) != (m.length : Int)) = true := by simp; omega
    have HNE := hid (show ¬ l = m from fun h => hne (by rw [h]))
    clear ha hb hfl hfm
    go_enter Tryz.func31, Tryz.ntmps31
    go_wp2
    go_ret
    exact ⟨false, rfl, ⟨fun h => by simp at h, fun h => absurd h HNE.out⟩, 0, rfl⟩
end Go.Proofs.YtbgdpfeobklnhaaGreatDoor
