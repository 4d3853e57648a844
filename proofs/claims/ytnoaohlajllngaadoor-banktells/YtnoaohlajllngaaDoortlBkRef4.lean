/-
  The document's Safe, Leave, Back and Come.
-/
import Derived.Test.YtnoaohlajllngaaDoortlBkRef3
import Derived.Test.YtnoaohlajllngaaDoortlBkCame
namespace Go.Proofs.YtnoaohlajllngaaDoor
open Go.RowKit

set_option maxRecDepth 100000 in
set_option maxHeartbeats 4000000 in
theorem rsafe_any (n : Nat) (h : n ≤ 9223372036854775807) (w : World) : Calls Tryd.prog 58 #[.int .i64 (n : Int)] w fun e w' => e = .returned (.string (safeS n)) ∧ Below w.heap.size w w' := by
  have HC := hid (rdig_any n h w)
  have hq : ∀ W : World, (Op.stringOp .add ⟨#[35]⟩ (digS n)).run Tryd.prog W = .ok (.string (safeS n)) W := fun W => run_string_add_sum W _ _ (by have := digS_size n h; show 1 + _ ≤ _; omega)
  have h0 : decide ((n : Int) < 0) = false := by simp
  go_enter Tryd.func58, Tryd.ntmps58
  go_wp2_with fail
  refine HC.out.mono ?_
  rintro e w1 ⟨rfl, hb⟩
  have HB := hid hb
  clear hb
  go_wp2
  go_ret
  exact ⟨rfl, HB.out⟩
set_option maxRecDepth 100000 in
set_option maxHeartbeats 4000000 in
theorem rleave_any (l : List Pu) (ch : Nat) (t : Tr) (sv : Value) (N : Nat) (w : World) (hN : N ≤ w.heap.size) (hl : Many PuR 3 w N sv l) (hr : RightU l) (hlen : l.length ≤ 60) (hn : t.amount < 18446744073709551616) (hc : ch ≤ 9223372036854775807) :
    Calls Tryd.prog 29 #[sv, .int .i64 (ch : Int), .agg #[.string t.denom, .int .u64 (t.amount : Int), .string t.sender, .string t.reader]] w fun e w' => Below w.heap.size w w' ∧ ∃ v, e = .returned (.tuple #[v, .int .i64 (leaveE l ch t)]) ∧ Many PuR 3 w' w'.heap.size v (leaveL l ch t) := by
  obtain ⟨oa, ca, rfl, -⟩ := hl.shape
  have HL := hid (fun W (hb : Below w.heap.size w W) => And.intro (Nat.le_trans hN hb.size) (hl.below PuR.stays (hb.mono hN)))
  have HR := hid (And.intro hr hlen)
  have HE := hid (show leaveE l ch t = if cameB t.denom ch = true then burnE l t.sender t.denom t.amount else moveE l t.sender (safeS ch) t.denom t.amount from rfl)
  have HLL := hid (show leaveL l ch t = if cameB t.denom ch = true then burnL l t.sender t.denom t.amount else moveL l t.sender (safeS ch) t.denom t.amount from rfl)
  have HBU := hid (fun W (hb : Below w.heap.size w W) => rburn_any l t.sender t.denom t.amount _ N W (HL.out W hb).1 (HL.out W hb).2 HR.out.1 HR.out.2)
  have HMV := hid (fun W (hb : Below w.heap.size w W) => rmove_any l t.sender (safeS ch) t.denom t.amount _ N W (HL.out W hb).1 (HL.out W hb).2 HR.out.1 HR.out.2 hn)
  clear hl hr hlen
  generalize l.length = m at *
  go_enter Tryd.func29, Tryd.ntmps29
  go_upto_region 1 with fail
  refine fbox1 ?_
  intro w0 F0 hs
  have HF := hid (fun W (hb : Below w0.heap.size w0 W) => F0.go hb)
  clear F0 hs
  have HCA := hid (came_any t.denom ch hc w0)
  obtain ⟨k0, k1, k2, k3⟩ := (HF.out w0 (Below.refl _ _)).r0.k4
  go_wp2_with fail
  refine HCA.out.mono ?_
  rintro e W ⟨rfl, hb⟩
  have HB1 := hid hb
  clear k0 k1 k2 k3 hb HCA
  obtain ⟨k0, k1, k2, k3⟩ := (HF.out W HB1.out).r0.k4
  by_cases hcb : cameB t.denom ch = true
  · rw [hcb]
    rw [if_pos hcb] at HE HLL
    go_wp2_with fail
    refine (HBU.out W (HF.out W HB1.out).b).mono ?_
    rintro e w2 ⟨hb2, v, rfl, hv⟩
    have HV := hid hv
    have HB2 := hid ((HF.out W HB1.out).go hb2).b
    clear hb2 hv
    go_wp2
    go_ret2
    exact ⟨HB2.out, v, by rw [HE.out]; rfl, by rw [HLL.out]; exact HV.out⟩
  · have hcf : cameB t.denom ch = false := by simpa using hcb
    rw [hcf]
    rw [if_neg hcb] at HE HLL
    clear hcb k0 k1 k2 k3
    go_upto_region 4 with fail
    apply region_go (by kernel_rfl) (fun W hb => (HF.out W (HB1.out.trans (hb.mono HB1.out.size))).r0.k4) (by kernel_rfl)
    · intro σ; simp [slotAll]; exact rfl
    iterate 4 (apply RK.val rfl; · intro σ W hb hc ⟨hd, hu⟩; simp [Fresh, Region.binds] at hd hu; go_simp; exact rfl)
    apply RK.callV rfl
    · intro σ W hb hc ⟨hd, hu⟩; simp [Fresh, Region.binds] at hd hu; go_simp; exact ⟨rfl, rfl⟩
    · intro W hb _; exact rsafe_any ch hc _
    iterate 4 (apply RK.val rfl; · intro σ W hb hc ⟨hd, hu⟩; simp [Fresh, Region.binds] at hd hu; go_simp; exact rfl)
    apply RK.callG (PuE (moveE l t.sender (safeS ch) t.denom t.amount) (moveL l t.sender (safeS ch) t.denom t.amount)) (PuE.stay _ _) rfl
    · intro σ W hb hc ⟨hd, hu⟩; simp [Fresh, Region.binds] at hd hu; exact ⟨_, _, by go_simp <;> first | exact rfl | exact ⟨rfl, rfl⟩, puE_of (HMV.out W (HF.out W (HB1.out.trans (hb.mono HB1.out.size))).b)⟩
    apply RK.new (PuB (moveL l t.sender (safeS ch) t.denom t.amount)) (PuB.stay _) rfl
    · intro σ W hb hc ⟨hd, hu⟩; simp [Fresh, Region.binds] at hd hu
      obtain ⟨o, n, c, e, h⟩ := hd
      have HH := hid h
      clear h
      exact ⟨_, W, by go_simp <;> exact rfl, Below.refl _ _, o, n, c, rfl, HH.out⟩
    apply RK.val rfl
    · intro σ W hb hc ⟨hd, hu⟩; simp [Fresh, Region.binds] at hd hu
      obtain ⟨o, n, c, e, h⟩ := hd
      clear h
      go_simp
      exact rfl
    apply RK.new (PuB (moveL l t.sender (safeS ch) t.denom t.amount)) (PuB.stay _) rfl
    · intro σ W hb hc ⟨hd, hu⟩; simp [Fresh, Region.binds] at hd hu
      obtain ⟨o, n, c, e, h⟩ := (show PuB (moveL l t.sender (safeS ch) t.denom t.amount) _ W from by first | exact hd | exact hd.1)
      have HH := hid h
      clear h
      try clear hd
      exact ⟨_, W, by go_simp <;> exact rfl, Below.refl _ _, o, n, c, rfl, HH.out⟩
    apply RK.val rfl
    · intro σ W hb hc ⟨hd, hu⟩; simp [Fresh, Region.binds] at hd hu; go_simp; exact rfl
    intro σ W hb _
    simp only [AllF, List.nil_append, List.cons_append, Nat.reduceAdd]
    intro hF
    obtain ⟨-, -, -, -, -, -, -, -, -, -, -, -, ⟨o9, n9, c9, e9, h9⟩, e10, -⟩ := hF
    have HBZ := hid ((HF.out W (HB1.out.trans (hb.mono HB1.out.size))).b)
    have HV9 := hid h9
    simp only [e9, e10]
    clear hb h9 e9 e10
    go_wp2
    go_ret2
    exact ⟨HBZ.out, _, by rw [HE.out]; rfl, by rw [HLL.out]; exact HV9.out⟩
set_option maxRecDepth 100000 in
set_option maxHeartbeats 4000000 in
theorem rback_any (l : List Pu) (ch : Nat) (t : Tr) (sv : Value) (N : Nat) (w : World) (hN : N ≤ w.heap.size) (hl : Many PuR 3 w N sv l) (hr : RightU l) (hlen : l.length ≤ 60) (hn : t.amount < 18446744073709551616) (hc : ch ≤ 9223372036854775807) :
    Calls Tryd.prog 30 #[sv, .int .i64 (ch : Int), .agg #[.string t.denom, .int .u64 (t.amount : Int), .string t.sender, .string t.reader]] w fun e w' => Below w.heap.size w w' ∧ ∃ v, e = .returned (.tuple #[v, .int .i64 (backE l ch t)]) ∧ Many PuR 3 w' w'.heap.size v (backL l ch t) := by
  obtain ⟨oa, ca, rfl, -⟩ := hl.shape
  have HL := hid (fun W (hb : Below w.heap.size w W) => And.intro (Nat.le_trans hN hb.size) (hl.below PuR.stays (hb.mono hN)))
  have HR := hid (And.intro hr hlen)
  have HE := hid (show backE l ch t = if cameB t.denom ch = true then mintE l t.sender t.denom t.amount else moveE l (safeS ch) t.sender t.denom t.amount from rfl)
  have HLL := hid (show backL l ch t = if cameB t.denom ch = true then mintL l t.sender t.denom t.amount else moveL l (safeS ch) t.sender t.denom t.amount from rfl)
  have HBU := hid (fun W (hb : Below w.heap.size w W) => rmint_any l t.sender t.denom t.amount _ N W (HL.out W hb).1 (HL.out W hb).2 HR.out.1 HR.out.2 hn)
  have HMV := hid (fun W (hb : Below w.heap.size w W) => rmove_any l (safeS ch) t.sender t.denom t.amount _ N W (HL.out W hb).1 (HL.out W hb).2 HR.out.1 HR.out.2 hn)
  clear hl hr hlen
  generalize l.length = m at *
  go_enter Tryd.func30, Tryd.ntmps30
  go_upto_region 1 with fail
  refine fbox1 ?_
  intro w0 F0 hs
  have HF := hid (fun W (hb : Below w0.heap.size w0 W) => F0.go hb)
  clear F0 hs
  have HCA := hid (came_any t.denom ch hc w0)
  obtain ⟨k0, k1, k2, k3⟩ := (HF.out w0 (Below.refl _ _)).r0.k4
  go_wp2_with fail
  refine HCA.out.mono ?_
  rintro e W ⟨rfl, hb⟩
  have HB1 := hid hb
  clear k0 k1 k2 k3 hb HCA
  obtain ⟨k0, k1, k2, k3⟩ := (HF.out W HB1.out).r0.k4
  by_cases hcb : cameB t.denom ch = true
  · rw [hcb]
    rw [if_pos hcb] at HE HLL
    go_wp2_with fail
    refine (HBU.out W (HF.out W HB1.out).b).mono ?_
    rintro e w2 ⟨hb2, v, rfl, hv⟩
    have HV := hid hv
    have HB2 := hid ((HF.out W HB1.out).go hb2).b
    clear hb2 hv
    go_wp2
    go_ret2
    exact ⟨HB2.out, v, by rw [HE.out]; rfl, by rw [HLL.out]; exact HV.out⟩
  · have hcf : cameB t.denom ch = false := by simpa using hcb
    rw [hcf]
    rw [if_neg hcb] at HE HLL
    clear hcb k0 k1 k2 k3
    go_upto_region 4 with fail
    apply region_go (by kernel_rfl) (fun W hb => (HF.out W (HB1.out.trans (hb.mono HB1.out.size))).r0.k4) (by kernel_rfl)
    · intro σ; simp [slotAll]; exact rfl
    iterate 2 (apply RK.val rfl; · intro σ W hb hc ⟨hd, hu⟩; simp [Fresh, Region.binds] at hd hu; go_simp; exact rfl)
    apply RK.callV rfl
    · intro σ W hb hc ⟨hd, hu⟩; simp [Fresh, Region.binds] at hd hu; go_simp; exact ⟨rfl, rfl⟩
    · intro W hb _; exact rsafe_any ch hc _
    iterate 6 (apply RK.val rfl; · intro σ W hb hc ⟨hd, hu⟩; simp [Fresh, Region.binds] at hd hu; go_simp; exact rfl)
    apply RK.callG (PuE (moveE l (safeS ch) t.sender t.denom t.amount) (moveL l (safeS ch) t.sender t.denom t.amount)) (PuE.stay _ _) rfl
    · intro σ W hb hc ⟨hd, hu⟩; simp [Fresh, Region.binds] at hd hu; exact ⟨_, _, by go_simp <;> first | exact rfl | exact ⟨rfl, rfl⟩, puE_of (HMV.out W (HF.out W (HB1.out.trans (hb.mono HB1.out.size))).b)⟩
    apply RK.new (PuB (moveL l (safeS ch) t.sender t.denom t.amount)) (PuB.stay _) rfl
    · intro σ W hb hc ⟨hd, hu⟩; simp [Fresh, Region.binds] at hd hu
      obtain ⟨o, n, c, e, h⟩ := hd
      have HH := hid h
      clear h
      exact ⟨_, W, by go_simp <;> exact rfl, Below.refl _ _, o, n, c, rfl, HH.out⟩
    apply RK.val rfl
    · intro σ W hb hc ⟨hd, hu⟩; simp [Fresh, Region.binds] at hd hu
      obtain ⟨o, n, c, e, h⟩ := hd
      clear h
      go_simp
      exact rfl
    apply RK.new (PuB (moveL l (safeS ch) t.sender t.denom t.amount)) (PuB.stay _) rfl
    · intro σ W hb hc ⟨hd, hu⟩; simp [Fresh, Region.binds] at hd hu
      obtain ⟨o, n, c, e, h⟩ := (show PuB (moveL l (safeS ch) t.sender t.denom t.amount) _ W from by first | exact hd | exact hd.1)
      have HH := hid h
      clear h
      try clear hd
      exact ⟨_, W, by go_simp <;> exact rfl, Below.refl _ _, o, n, c, rfl, HH.out⟩
    apply RK.val rfl
    · intro σ W hb hc ⟨hd, hu⟩; simp [Fresh, Region.binds] at hd hu; go_simp; exact rfl
    intro σ W hb _
    simp only [AllF, List.nil_append, List.cons_append, Nat.reduceAdd]
    intro hF
    obtain ⟨-, -, -, -, -, -, -, -, -, -, -, -, ⟨o9, n9, c9, e9, h9⟩, e10, -⟩ := hF
    have HBZ := hid ((HF.out W (HB1.out.trans (hb.mono HB1.out.size))).b)
    have HV9 := hid h9
    simp only [e9, e10]
    clear hb h9 e9 e10
    go_wp2
    go_ret2
    exact ⟨HBZ.out, _, by rw [HE.out]; rfl, by rw [HLL.out]; exact HV9.out⟩
set_option maxRecDepth 100000 in
set_option maxHeartbeats 4000000 in
theorem rcome_any (l : List Pu) (ch other : Nat) (t : Tr) (sv : Value) (N : Nat) (w : World) (hN : N ≤ w.heap.size) (hl : Many PuR 3 w N sv l) (hr : RightU l) (hlen : l.length ≤ 60) (hn : t.amount < 18446744073709551616) (hc : ch ≤ 9223372036854775807) (ho : other ≤ 9223372036854775807) (hds : t.denom.size ≤ 140737488351232) :
    Calls Tryd.prog 31 #[sv, .int .i64 (ch : Int), .int .i64 (other : Int), .agg #[.string t.denom, .int .u64 (t.amount : Int), .string t.sender, .string t.reader]] w fun e w' => Below w.heap.size w w' ∧ ∃ v, e = .returned (.tuple #[v, .int .i64 (comeE l ch other t)]) ∧ Many PuR 3 w' w'.heap.size v (comeL l ch other t) := by
  obtain ⟨oa, ca, rfl, -⟩ := hl.shape
  have HL := hid (fun W (hb : Below w.heap.size w W) => And.intro (Nat.le_trans hN hb.size) (hl.below PuR.stays (hb.mono hN)))
  have HR := hid (And.intro hr hlen)
  have HE := hid (show comeE l ch other t = if cameB t.denom other = true then moveE l (safeS ch) t.reader (cutS t.denom other) t.amount else mintE l t.reader (cameS ch ++ t.denom) t.amount from rfl)
  have HLL := hid (show comeL l ch other t = if cameB t.denom other = true then moveL l (safeS ch) t.reader (cutS t.denom other) t.amount else mintL l t.reader (cameS ch ++ t.denom) t.amount from rfl)
  have hq : ∀ W : World, (Op.stringOp .add (cameS ch) t.denom).run Tryd.prog W = .ok (.string (cameS ch ++ t.denom)) W := fun W => run_string_add_sum W _ _ (by have := cameS_size ch hc; omega)
  have hq2 : ∀ W : World, (Op.stringOp .add (digS ch) ⟨#[47]⟩).run Tryd.prog W = .ok (.string (cameS ch)) W := fun W => run_string_add_sum W _ _ (by have := digS_size ch hc; show _ + 1 ≤ _; omega)
  have HMV := hid (fun W (hb : Below w.heap.size w W) => rmove_any l (safeS ch) t.reader (cutS t.denom other) t.amount _ N W (HL.out W hb).1 (HL.out W hb).2 HR.out.1 HR.out.2 hn)
  have HMI := hid (fun W (hb : Below w.heap.size w W) => rmint_any l t.reader (cameS ch ++ t.denom) t.amount _ N W (HL.out W hb).1 (HL.out W hb).2 HR.out.1 HR.out.2 hn)
  clear hl hr hlen
  generalize l.length = m at *
  go_enter Tryd.func31, Tryd.ntmps31
  go_upto_region 1 with fail
  refine fbox1 ?_
  intro w0 F0 hs
  have HF := hid (fun W (hb : Below w0.heap.size w0 W) => F0.go hb)
  clear F0 hs
  have HCA := hid (came_any t.denom other ho w0)
  obtain ⟨k0, k1, k2, k3⟩ := (HF.out w0 (Below.refl _ _)).r0.k4
  go_wp2_with fail
  refine HCA.out.mono ?_
  rintro e W ⟨rfl, hb⟩
  have HB1 := hid hb
  clear k0 k1 k2 k3 hb HCA
  by_cases hcb : cameB t.denom other = true
  · simp only [hcb, if_true]
    rw [if_pos hcb] at HE HLL
    clear hcb
    go_upto_region 3 with fail
    apply region_go (by kernel_rfl) (fun W hb => (HF.out W (HB1.out.trans (hb.mono HB1.out.size))).r0.k4) (by kernel_rfl)
    · intro σ; simp [slotAll]; exact rfl
    iterate 2 (apply RK.val rfl; · intro σ W hb hc ⟨hd, hu⟩; simp [Fresh, Region.binds] at hd hu; go_simp; exact rfl)
    apply RK.callV rfl
    · intro σ W hb hc ⟨hd, hu⟩; simp [Fresh, Region.binds] at hd hu; go_simp; exact ⟨rfl, rfl⟩
    · intro W hb _; exact rsafe_any ch hc _
    iterate 5 (apply RK.val rfl; · intro σ W hb hc ⟨hd, hu⟩; simp [Fresh, Region.binds] at hd hu; go_simp; exact rfl)
    apply RK.callG (PuE (moveE l (safeS ch) t.reader (cutS t.denom other) t.amount) (moveL l (safeS ch) t.reader (cutS t.denom other) t.amount)) (PuE.stay _ _) rfl
    · intro σ W hb hc ⟨hd, hu⟩; simp [Fresh, Region.binds] at hd hu; exact ⟨_, _, by go_simp <;> first | exact rfl | exact ⟨rfl, rfl⟩, puE_of (HMV.out W (HF.out W (HB1.out.trans (hb.mono HB1.out.size))).b)⟩
    apply RK.new (PuB (moveL l (safeS ch) t.reader (cutS t.denom other) t.amount)) (PuB.stay _) rfl
    · intro σ W hb hc ⟨hd, hu⟩; simp [Fresh, Region.binds] at hd hu
      obtain ⟨o, n, c, e, h⟩ := hd
      have HH := hid h
      clear h
      exact ⟨_, W, by go_simp <;> exact rfl, Below.refl _ _, o, n, c, rfl, HH.out⟩
    apply RK.val rfl
    · intro σ W hb hc ⟨hd, hu⟩; simp [Fresh, Region.binds] at hd hu
      obtain ⟨o, n, c, e, h⟩ := hd
      clear h
      go_simp
      exact rfl
    apply RK.new (PuB (moveL l (safeS ch) t.reader (cutS t.denom other) t.amount)) (PuB.stay _) rfl
    · intro σ W hb hc ⟨hd, hu⟩; simp [Fresh, Region.binds] at hd hu
      obtain ⟨o, n, c, e, h⟩ := (show PuB (moveL l (safeS ch) t.reader (cutS t.denom other) t.amount) _ W from by first | exact hd | exact hd.1)
      have HH := hid h
      clear h
      try clear hd
      exact ⟨_, W, by go_simp <;> exact rfl, Below.refl _ _, o, n, c, rfl, HH.out⟩
    apply RK.val rfl
    · intro σ W hb hc ⟨hd, hu⟩; simp [Fresh, Region.binds] at hd hu; go_simp; exact rfl
    intro σ W hb _
    simp only [AllF, List.nil_append, List.cons_append, Nat.reduceAdd]
    intro hF
    obtain ⟨-, -, -, -, -, -, -, -, -, -, -, ⟨o9, n9, c9, e9, h9⟩, e10, -⟩ := hF
    have HBZ := hid ((HF.out W (HB1.out.trans (hb.mono HB1.out.size))).b)
    have HV9 := hid h9
    simp only [e9, e10]
    clear hb h9 e9 e10
    go_wp2
    go_ret2
    exact ⟨HBZ.out, _, by rw [HE.out]; rfl, by rw [HLL.out]; exact HV9.out⟩
  · have hcf : cameB t.denom other = false := by simpa using hcb
    rw [if_neg hcb] at HE HLL
    simp only [hcf, Bool.false_eq_true, if_false]
    clear hcb hcf
    go_upto_region 4 with fail
    apply region_go (by kernel_rfl) (fun W hb => (HF.out W (HB1.out.trans (hb.mono HB1.out.size))).r0.k4) (by kernel_rfl)
    · intro σ; simp [slotAll]; exact rfl
    iterate 4 (apply RK.val rfl; · intro σ W hb hc ⟨hd, hu⟩; simp [Fresh, Region.binds] at hd hu; go_simp; exact rfl)
    apply RK.callV rfl
    · intro σ W hb hc ⟨hd, hu⟩; simp [Fresh, Region.binds] at hd hu; go_simp; exact ⟨rfl, rfl⟩
    · intro W hb _; exact rdig_any ch hc _
    iterate 6 (apply RK.val rfl; · intro σ W hb hc ⟨hd, hu⟩; simp [Fresh, Region.binds] at hd hu; go_simp; exact rfl)
    apply RK.callG (PuE (mintE l t.reader (cameS ch ++ t.denom) t.amount) (mintL l t.reader (cameS ch ++ t.denom) t.amount)) (PuE.stay _ _) rfl
    · intro σ W hb hc ⟨hd, hu⟩; simp [Fresh, Region.binds] at hd hu; exact ⟨_, _, by go_simp <;> first | exact rfl | exact ⟨rfl, rfl⟩, puE_of (HMI.out W (HF.out W (HB1.out.trans (hb.mono HB1.out.size))).b)⟩
    apply RK.new (PuB (mintL l t.reader (cameS ch ++ t.denom) t.amount)) (PuB.stay _) rfl
    · intro σ W hb hc ⟨hd, hu⟩; simp [Fresh, Region.binds] at hd hu
      obtain ⟨o, n, c, e, h⟩ := hd
      have HH := hid h
      clear h
      exact ⟨_, W, by go_simp <;> exact rfl, Below.refl _ _, o, n, c, rfl, HH.out⟩
    apply RK.val rfl
    · intro σ W hb hc ⟨hd, hu⟩; simp [Fresh, Region.binds] at hd hu
      obtain ⟨o, n, c, e, h⟩ := hd
      clear h
      go_simp
      exact rfl
    apply RK.new (PuB (mintL l t.reader (cameS ch ++ t.denom) t.amount)) (PuB.stay _) rfl
    · intro σ W hb hc ⟨hd, hu⟩; simp [Fresh, Region.binds] at hd hu
      obtain ⟨o, n, c, e, h⟩ := (show PuB (mintL l t.reader (cameS ch ++ t.denom) t.amount) _ W from by first | exact hd | exact hd.1)
      have HH := hid h
      clear h
      try clear hd
      exact ⟨_, W, by go_simp <;> exact rfl, Below.refl _ _, o, n, c, rfl, HH.out⟩
    apply RK.val rfl
    · intro σ W hb hc ⟨hd, hu⟩; simp [Fresh, Region.binds] at hd hu; go_simp; exact rfl
    intro σ W hb _
    simp only [AllF, List.nil_append, List.cons_append, Nat.reduceAdd]
    intro hF
    obtain ⟨-, -, -, -, -, -, -, -, -, -, -, -, -, -, ⟨o9, n9, c9, e9, h9⟩, e10, -⟩ := hF
    have HBZ := hid ((HF.out W (HB1.out.trans (hb.mono HB1.out.size))).b)
    have HV9 := hid h9
    simp only [e9, e10]
    clear hb h9 e9 e10
    go_wp2
    go_ret2
    exact ⟨HBZ.out, _, by rw [HE.out]; rfl, by rw [HLL.out]; exact HV9.out⟩
end Go.Proofs.YtnoaohlajllngaaDoor
