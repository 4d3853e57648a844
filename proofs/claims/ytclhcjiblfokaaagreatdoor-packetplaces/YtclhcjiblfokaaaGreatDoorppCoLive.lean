/-
  What keeps something from going over a client: package conn's answer, and the document's.
-/
import Derived.Test.YtclhcjiblfokaaaGreatDoorppCoMath
import Derived.Test.YtclhcjiblfokaaaGreatDoorppHdMems
import Derived.Test.YtclhcjiblfokaaaGreatDoorppClAsk
import Derived.Test.YtclhcjiblfokaaaGreatDoorppRegions
import Derived.Laws.RangeString
namespace Go.Proofs.YtclhcjiblfokaaaGreatDoor
open Go.RowKit

/-- what doubtsOfClient, and Live, are to answer -/
def LiveC (f : FuncId) : Prop := ∀ (s : St) (v : Value) (N : Nat) (w : World) (c : Int), StV w N v s → N ≤ w.heap.size → wrongS s = 0 →
  Calls Tryz.prog f #[v, .int .i64 c] w fun e w' => e = .returned (.int .i64 (liveN s c)) ∧ Below w.heap.size w w'
set_option maxRecDepth 100000 in
set_option maxHeartbeats 4000000 in
theorem liveR {y0 y3 y4 y5 y6 y7 y8 y9 y10 y11 y12 y13 y14 z15 z16 z17 z18 z19 z20 z21 z22 z23 z24 : Value} {gs N : Nat} (s : St) (x : Cl) (k n b f c1 ma : Nat) (ka o2 o3 o4 o5 o6 o7 : Option Addr) (c2 c3 c4 c5 c6 c7 : Nat) {w : World} (hN : N ≤ w.heap.size) (hrs : Hid (Row w gs 28 [.string s.name, .int .i64 s.height, .int .i64 s.time, .slice (some ⟨b, f, none⟩) n c1, .slice o2 s.conns.length c2, .slice o3 s.chans.length c3, .slice o4 s.sent.length c4, .slice o5 s.got.length c5, .slice o6 s.acks.length c6, .slice o7 s.purses.length c7])) (_hlt : (k : Int) < (n : Int)) (hb1 : b < w.heap.size) (hca : Hid (w.cell? ⟨b, f + k * 4, none⟩ = some (.string x.chain) ∧ w.cell? ⟨b, f + k * 4 + 1, none⟩ = some (.int .i64 x.trust) ∧ w.cell? ⟨b, f + k * 4 + 2, none⟩ = some (.bool x.frozen) ∧ w.cell? ⟨b, f + k * 4 + 3, none⟩ = some (.slice ka x.known.length ma))) (hcv : Hid (ClV w N (.agg #[.string x.chain, .int .i64 x.trust, .bool x.frozen, .slice ka x.known.length ma]) x)) (hw0 : Hid (wrongCl x = 0)) (ht : Hid (0 ≤ s.time ∧ s.time ≤ 1000000000000)) (Q : Exit → Act → World → Prop)
    (hQ : Hid (∀ (σ : Nat → Value) (w' : World), Below w.heap.size w w' → /-9-/ σ 9 = .bool (!activeB x s.time) → Q .normal ⟨#[y0, .int .i64 (k : Int), .pointer (some ⟨gs, 0, none⟩), y3, y4, y5, y6, y7, y8, y9, y10, y11, y12, y13, y14, σ 9, σ 0, σ 1, σ 2, σ 3, σ 4, σ 5, σ 6, σ 7, σ 8], []⟩ w')) :
    Code.wp Tryz.prog (.region 3 ((Tryz.f161.body.bind (regOf 3)).getD #[]) true) Q ⟨#[y0, .int .i64 (k : Int), .pointer (some ⟨gs, 0, none⟩), y3, y4, y5, y6, y7, y8, y9, y10, y11, y12, y13, y14, z15, z16, z17, z18, z19, z20, z21, z22, z23, z24], []⟩ w := by
  conv => arg 2; arg 2; whnf
  conv => arg 4; dsimp only
  refine region_grows (by kernel_rfl) (fun σ => #[y0, .int .i64 (k : Int), .pointer (some ⟨gs, 0, none⟩), y3, y4, y5, y6, y7, y8, y9, y10, y11, y12, y13, y14, σ 9, σ 0, σ 1, σ 2, σ 3, σ 4, σ 5, σ 6, σ 7, σ 8]) (fun i => ([z16, z17, z18, z19, z20, z21, z22, z23, z24, z15] : List Value).getD i undef) rfl (fun i X W => match i with
    | 0 => X = .pointer (some ⟨gs, 3, none⟩)
    | 1 => X = .slice (some ⟨b, f, none⟩) n c1
    | 2 => X = .int .i64 (k : Int)
    | 3 => X = .pointer (some ⟨b, f + k * 4, none⟩)
    | 4 => X = .agg #[.string x.chain, .int .i64 x.trust, .bool x.frozen, .slice ka x.known.length ma]
    | 5 => X = .pointer (some ⟨gs, 2, none⟩)
    | 6 => X = .int .i64 s.time
    | 7 => X = .bool (activeB x s.time)
    | 8 => X = .bool (!activeB x s.time)
    | 9 => X = .bool (!activeB x s.time)
    | _ => True) ?_ (by kernel_rfl) ?_ ?_
  · intro i X W W' HB H
    match i, H with
    | 0, H => exact H
    | 1, H => exact H
    | 2, H => exact H
    | 3, H => exact H
    | 4, H => exact H
    | 5, H => exact H
    | 6, H => exact H
    | 7, H => exact H
    | 8, H => exact H
    | 9, H => exact H
    | _ + 10, _ => exact trivial
  · refine ⟨?_, ?_, ?_, ?_, ?_, ?_, ?_, ?_, ?_, ?_, trivial⟩
    · -- 0: Op.fieldAddr 28 t2 3
      intro σ W HJ hdep
      simp [Region.binds] at hdep
      have HJ := hid HJ
      refine wpOp_plain rfl rfl ?_
      go_simp
      exact Left.mk0 (.pointer (some ⟨gs, 3, none⟩)) (by first | rfl | simp [updF, *]) HJ.out rfl
    · -- 1: Op.load 22 t16
      intro σ W HJ hdep
      simp [Region.binds] at hdep
      have HJ := hid HJ
      have kc := (hrs.out.below HJ.out hrs.out.lt).cell 3
      simp at kc
      refine wpOp_plain rfl rfl ?_
      go_simp
      exact Left.mk0 (.slice (some ⟨b, f, none⟩) n c1) (by first | rfl | simp [updF, *]) HJ.out rfl
    · -- 2: Op.move t1
      intro σ W HJ hdep
      simp [Region.binds] at hdep
      have HJ := hid HJ
      refine wpOp_plain rfl rfl ?_
      go_simp
      exact Left.mk0 (.int .i64 (k : Int)) (by first | rfl | simp [updF, *]) HJ.out rfl
    · -- 3: Op.indexAddr 22 t17 t18
      intro σ W HJ hdep
      simp [Region.binds] at hdep
      have HJ := hid HJ
      refine wpOp_plain rfl rfl ?_
      go_simp
      exact Left.mk0 (.pointer (some ⟨b, f + k * 4, none⟩)) (by first | rfl | simp [updF, *]) HJ.out rfl
    · -- 4: Op.load 62 t19
      intro σ W HJ hdep
      simp [Region.binds] at hdep
      have HJ := hid HJ
      have x0 := (HJ.out.cell (p := ⟨b, f + k * 4, none⟩) hb1).trans hca.out.1
      have x1 := (HJ.out.cell (p := ⟨b, f + k * 4 + 1, none⟩) hb1).trans hca.out.2.1
      have x2 := (HJ.out.cell (p := ⟨b, f + k * 4 + 2, none⟩) hb1).trans hca.out.2.2.1
      have x3 := (HJ.out.cell (p := ⟨b, f + k * 4 + 3, none⟩) hb1).trans hca.out.2.2.2
      refine wpOp_plain rfl rfl ?_
      go_simp
      exact Left.mk0 (.agg #[.string x.chain, .int .i64 x.trust, .bool x.frozen, .slice ka x.known.length ma]) (by first | rfl | simp [updF, *]) HJ.out rfl
    · -- 5: Op.fieldAddr 28 t2 2
      intro σ W HJ hdep
      simp [Region.binds] at hdep
      have HJ := hid HJ
      refine wpOp_plain rfl rfl ?_
      go_simp
      exact Left.mk0 (.pointer (some ⟨gs, 2, none⟩)) (by first | rfl | simp [updF, *]) HJ.out rfl
    · -- 6: Op.load 3 t21
      intro σ W HJ hdep
      simp [Region.binds] at hdep
      have HJ := hid HJ
      have kc := (hrs.out.below HJ.out hrs.out.lt).cell 2
      simp at kc
      refine wpOp_plain rfl rfl ?_
      go_simp
      exact Left.mk0 (.int .i64 s.time) (by first | rfl | simp [updF, *]) HJ.out rfl
    · -- 7: Op.call { value (Operand.func 130), args := #[t20, t22], arg
      intro σ W HJ hdep
      simp [Region.binds] at hdep
      have HJ := hid HJ
      have HC := hid (activeC x s.time (.agg #[.string x.chain, .int .i64 x.trust, .bool x.frozen, .slice ka x.known.length ma]) N W (hcv.out.below (HJ.out.mono hN)) (Nat.le_trans hN HJ.out.size) hw0.out ht.out)
      refine wpOp_plain rfl rfl ?_
      go_simp
      refine (HC.out).mono ?_
      rintro e w2 ⟨rfl, hb2⟩
      exact Left.mk (.bool (activeB x s.time)) (by first | rfl | simp [updF, *]) hb2 HJ.out rfl
    · -- 8: Op.unOp UnOp.not 4 t23
      intro σ W HJ hdep
      simp [Region.binds] at hdep
      have HJ := hid HJ
      refine wpOp_plain rfl rfl ?_
      go_simp
      exact Left.mk0 (.bool (!activeB x s.time)) (by first | rfl | simp [updF, *]) HJ.out rfl
    · -- 9: Op.assign t24
      intro σ W HJ hdep
      simp [Region.binds] at hdep
      have HJ := hid HJ
      refine wpOp_plain rfl rfl ?_
      go_simp
      exact Left.mk0 (.bool (!activeB x s.time)) (by first | rfl | simp [updF, *]) HJ.out rfl
  · intro σ w' hb hg
    exact hQ.out σ w' hb (by first | exact ⟨hg 9 (by decide)⟩ | exact hg 9 (by decide))
set_option maxRecDepth 100000 in
set_option maxHeartbeats 4000000 in
theorem liveC : LiveC 161 := by
  intro s v N w c hv hN hw
  obtain ⟨o1, c1, o2, c2, o3, c3, o4, c4, o5, c5, o6, c6, o7, c7, rfl, hm⟩ := hv.open
  have HT := hid (wrongS_time hw)
  have HC := hid (wrongS_client hw)
  obtain ⟨w0, hw0⟩ : ∃ w0, w.alloc (.cells #[.string s.name, .int .i64 s.height, .int .i64 s.time, .slice o1 s.clients.length c1, .slice o2 s.conns.length c2, .slice o3 s.chans.length c3, .slice o4 s.sent.length c4, .slice o5 s.got.length c5, .slice o6 s.acks.length c6, .slice o7 s.purses.length c7] 28) = w0 := ⟨_, rfl⟩
  have hb0 : Below w.heap.size w w0 := by rw [← hw0]; exact (Below.refl _ _).alloc (Nat.le_refl _) _
  have HB0 := hid hb0
  have HR0 := hid (show Row w0 w.heap.size 28 [.string s.name, .int .i64 s.height, .int .i64 s.time, .slice o1 s.clients.length c1, .slice o2 s.conns.length c2, .slice o3 s.chans.length c3, .slice o4 s.sent.length c4, .slice o5 s.got.length c5, .slice o6 s.acks.length c6, .slice o7 s.purses.length c7] by rw [← hw0]; exact Row.new _ _ _)
  have k3 : w0.cell? ⟨w.heap.size, 3, none⟩ = some (.slice o1 s.clients.length c1) := HR0.out.cell 3
  have HW0 := hid hw0
  by_cases h0 : c < 0
  · have e0 : decide (c < 0) = true := by simpa using h0
    have HL := hid (liveN_none (s := s) (.inl h0))
    clear hv hm hw hb0 hw0
    go_enter Tryz.func161, Tryz.ntmps161
    go_upto_region 1 with fail
    rw [HW0.out]
    go_wp2
    go_ret
    exact ⟨by rw [HL.out]; first | done | rfl, HB0.out⟩
  have e0 : decide (c < 0) = false := by simpa using h0
  by_cases h1 : (s.clients.length : Int) ≤ c
  · have e1 : decide ((s.clients.length : Int) ≤ c) = true := by simpa using h1
    have HL := hid (liveN_none (s := s) (.inr h1))
    clear hv hm hw hb0 hw0
    go_enter Tryz.func161, Tryz.ntmps161
    go_upto_region 1 with fail
    rw [HW0.out]
    go_wp2
    go_ret
    exact ⟨by rw [HL.out]; first | done | rfl, HB0.out⟩
  have e1 : decide ((s.clients.length : Int) ≤ c) = false := by simpa using h1
  obtain ⟨k, rfl⟩ : ∃ k : Nat, c = (k : Int) := ⟨c.toNat, by omega⟩
  have hlt : k < s.clients.length := by omega
  have hlt' : (k : Int) < (s.clients.length : Int) := by omega
  obtain ⟨x, hx⟩ : ∃ x, s.clients[k]? = some x := ⟨_, List.getElem?_eq_getElem hlt⟩
  obtain ⟨b, f, rfl, gx⟩ := (hm.below (hb0.mono hN)).clients.spot (by omega)
  obtain ⟨hbN, r, hr, cx⟩ := gx k x hx
  obtain ⟨kv, rfl, hkv⟩ := hr
  obtain ⟨ka, ma, rfl, -⟩ := hkv.shape
  have x0 := cx 0 _ rfl
  have x1 := cx 1 _ rfl
  have x2 := cx 2 _ rfl
  have x3 := cx 3 _ rfl
  simp only [Nat.add_zero] at x0
  have HCA := hid (show w0.cell? ⟨b, f + k * 4, none⟩ = some (.string x.chain) ∧ w0.cell? ⟨b, f + k * 4 + 1, none⟩ = some (.int .i64 x.trust) ∧ w0.cell? ⟨b, f + k * 4 + 2, none⟩ = some (.bool x.frozen) ∧ w0.cell? ⟨b, f + k * 4 + 3, none⟩ = some (.slice ka x.known.length ma) from ⟨x0, x1, x2, x3⟩)
  have HCV := hid (show ClV w0 N (.agg #[.string x.chain, .int .i64 x.trust, .bool x.frozen, .slice ka x.known.length ma]) x from ⟨_, rfl, hkv⟩)
  have HXW := hid (HC.out x (List.mem_of_getElem? hx))
  have HL := hid (liveN_at hx)
  have hbl : b < w0.heap.size := Nat.lt_of_lt_of_le hbN (Nat.le_trans hN hb0.size)
  have hN0 : N ≤ w0.heap.size := Nat.le_trans hN hb0.size
  clear hv hm hw hb0 hw0 gx cx hx hkv x0 x1 x2 x3
  go_enter Tryz.func161, Tryz.ntmps161
  go_upto_region 1 with fail
  rw [HW0.out]
  go_upto_region 3 with fail
  refine liveR s x k s.clients.length b f c1 ma ka o2 o3 o4 o5 o6 o7 c2 c3 c4 c5 c6 c7 hN0 HR0 hlt' hbl HCA HCV HXW HT _ (hid ?_)
  intro σ w1 hb1 ea
  have HB1 := hid (HB0.out.trans (hb1.mono HB0.out.size))
  rw [ea]
  clear hb1 ea
  cases hab : activeB x s.time with
  | false =>
    have HL2 := hid (show liveN s (k : Int) = 12 by rw [HL.out, hab]; rfl)
    clear hab
    go_wp2
    go_ret
    exact ⟨by rw [HL2.out]; first | done | rfl, HB1.out⟩
  | true =>
    have HL2 := hid (show liveN s (k : Int) = 0 by rw [HL.out, hab]; rfl)
    clear hab
    go_wp2
    go_ret
    exact ⟨by rw [HL2.out]; first | done | rfl, HB1.out⟩
end Go.Proofs.YtclhcjiblfokaaaGreatDoor
