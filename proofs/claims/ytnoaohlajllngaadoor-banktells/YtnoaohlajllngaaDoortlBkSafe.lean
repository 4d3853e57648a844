/-
  Safes, and how that is called which came over a channel: package bank's Leave, Back and Come.
-/
import Derived.Test.YtnoaohlajllngaaDoortlBkMint
import Derived.Test.YtnoaohlajllngaaDoortlBkTr
import Derived.Test.YtnoaohlajllngaaDoortlBkShelf
import Derived.Test.YtnoaohlajllngaaDoortlStApp
import Derived.Test.YtnoaohlajllngaaDoortlRegGo
import Derived.Lib.ItoaLen
import Derived.Laws.Concat
namespace Go.Proofs.YtnoaohlajllngaaDoor
open Go.RowKit

def digS (n : Nat) : ByteArray := ⟨(Lib.decDigits n).toArray⟩
/-- a channel's safe -/
def safeS (n : Nat) : ByteArray := ⟨#[35]⟩ ++ digS n
/-- how all is called, at its beginning, that came over a channel -/
def cameS (n : Nat) : ByteArray := digS n ++ ⟨#[47]⟩
def cameB (d : ByteArray) (n : Nat) : Bool := Lib.hasPrefix d.data.toList (cameS n).data.toList
/-- .. what it was called -/
def cutS (d : ByteArray) (n : Nat) : ByteArray := d.extract (cameS n).size d.size
def leaveE (l : List Pu) (ch : Nat) (t : Tr) : Int := if cameB t.denom ch = true then burnE l t.sender t.denom t.amount else moveE l t.sender (safeS ch) t.denom t.amount
def leaveL (l : List Pu) (ch : Nat) (t : Tr) : List Pu := if cameB t.denom ch = true then burnL l t.sender t.denom t.amount else moveL l t.sender (safeS ch) t.denom t.amount
def backE (l : List Pu) (ch : Nat) (t : Tr) : Int := if cameB t.denom ch = true then mintE l t.sender t.denom t.amount else moveE l (safeS ch) t.sender t.denom t.amount
def backL (l : List Pu) (ch : Nat) (t : Tr) : List Pu := if cameB t.denom ch = true then mintL l t.sender t.denom t.amount else moveL l (safeS ch) t.sender t.denom t.amount
def comeE (l : List Pu) (ch other : Nat) (t : Tr) : Int := if cameB t.denom other = true then moveE l (safeS ch) t.reader (cutS t.denom other) t.amount else mintE l t.reader (cameS ch ++ t.denom) t.amount
def comeL (l : List Pu) (ch other : Nat) (t : Tr) : List Pu := if cameB t.denom other = true then moveL l (safeS ch) t.reader (cutS t.denom other) t.amount else mintL l t.reader (cameS ch ++ t.denom) t.amount
theorem digS_size (n : Nat) (h : n ≤ 9223372036854775807) : (digS n).size ≤ 21 := by
  have := Lib.itoa_length_le (n : Int) (by omega) (by omega)
  rw [Lib.itoa_nonneg] at this
  unfold digS
  simpa [ByteArray.size] using this
theorem cameS_size (n : Nat) (h : n ≤ 9223372036854775807) : (cameS n).size ≤ 22 := by
  have := digS_size n h
  unfold cameS
  rw [ByteArray.size_append]
  show _ + 1 ≤ 22
  omega
theorem itoa_any (n : Nat) (h : n ≤ 9223372036854775807) (w : World) (hp : powAt w) : Calls Tryd.prog 75 #[.int .i64 (n : Int)] w fun e w' => e = .returned (.string (digS n)) ∧ Below w.heap.size w w' := by
  refine (Any.strconv_Itoa Tryd.laysItoa171 (n : Int) (by omega) (by omega) w hp).mono ?_
  rintro e w' ⟨rfl, k, os, rfl⟩
  refine ⟨by rw [Lib.itoa_nonneg]; rfl, ⟨rfl, rfl, rfl, ?_, fun j hj => ?_⟩⟩
  · show w.heap.size ≤ (w.heap ++ os).size
    simp
  · show (w.heap ++ os)[j]? = w.heap[j]?
    rw [Array.getElem?_append_left hj]
set_option maxRecDepth 100000 in
set_option maxHeartbeats 4000000 in
theorem safeOf_any (n : Nat) (h : n ≤ 9223372036854775807) (w : World) (hp : powAt w) : Calls Tryd.prog 55 #[.int .i64 (n : Int)] w fun e w' => e = .returned (.string (safeS n)) ∧ Below w.heap.size w w' := by
  have HC := hid (itoa_any n h w hp)
  have hq : ∀ W : World, (Op.stringOp .add ⟨#[35]⟩ (digS n)).run Tryd.prog W = .ok (.string (safeS n)) W := fun W => run_string_add_sum W _ _ (by have := digS_size n h; show 1 + _ ≤ _; omega)
  clear hp
  go_enter Tryd.func55, Tryd.ntmps55
  go_wp2_with fail
  refine HC.out.mono ?_
  rintro e w1 ⟨rfl, hb⟩
  have HB := hid hb
  clear hb
  go_wp2
  go_ret
  exact ⟨rfl, HB.out⟩
set_option maxRecDepth 100000 in
set_option maxHeartbeats 4000000 in
theorem cameOver_any (n : Nat) (h : n ≤ 9223372036854775807) (w : World) (hp : powAt w) : Calls Tryd.prog 54 #[.int .i64 (n : Int)] w fun e w' => e = .returned (.string (cameS n)) ∧ Below w.heap.size w w' := by
  have HC := hid (itoa_any n h w hp)
  have hq : ∀ W : World, (Op.stringOp .add (digS n) ⟨#[47]⟩).run Tryd.prog W = .ok (.string (cameS n)) W := fun W => run_string_add_sum W _ _ (by have := digS_size n h; show _ + 1 ≤ _; omega)
  clear hp
  go_enter Tryd.func54, Tryd.ntmps54
  go_wp2_with fail
  refine HC.out.mono ?_
  rintro e w1 ⟨rfl, hb⟩
  have HB := hid hb
  clear hb
  go_wp2
  go_ret
  exact ⟨rfl, HB.out⟩
def PuB (l : List Pu) (X : Value) (W : World) : Prop := ∃ o n c, X = .slice o n c ∧ Many PuR 3 W W.heap.size (.slice o n c) l
theorem PuB.stay (l : List Pu) : Stay (PuB l) := fun _ _ _ hb ⟨o, n, c, e, h⟩ => ⟨o, n, c, e, (h.below PuR.stays hb).mono PuR.stays hb.size⟩
def PuE (E : Int) (l : List Pu) (X : Value) (W : World) : Prop := ∃ o n c, X = .tuple #[.slice o n c, .int .i64 E] ∧ Many PuR 3 W W.heap.size (.slice o n c) l
theorem PuE.stay (E : Int) (l : List Pu) : Stay (PuE E l) := fun _ _ _ hb ⟨o, n, c, e, h⟩ => ⟨o, n, c, e, (h.below PuR.stays hb).mono PuR.stays hb.size⟩
theorem puE_of {f : FuncId} {args : Array Value} {W : World} {E : Int} {l : List Pu} (h : Calls Tryd.prog f args W fun e w' => Below W.heap.size W w' ∧ ∃ v, e = .returned (.tuple #[v, .int .i64 E]) ∧ Many PuR 3 w' w'.heap.size v l) : Calls Tryd.prog f args W fun e w' => ∃ v, e = .returned v ∧ Below W.heap.size W w' ∧ PuE E l v w' := by
  refine h.mono ?_
  rintro e w' ⟨hb, v, rfl, hv⟩
  obtain ⟨o, c, rfl, -⟩ := hv.shape
  exact ⟨_, rfl, hb, o, _, c, rfl, hv⟩
theorem prefix_any (s p : ByteArray) (w : World) : Calls Tryd.prog 53 #[.string s, .string p] w fun e w' => e = .returned (.bool (Lib.hasPrefix s.data.toList p.data.toList)) ∧ Below w.heap.size w w' := by
  refine (Any.strings_HasPrefix Tryd.laysPre99 s p w).mono ?_
  rintro e w' ⟨rfl, rfl⟩
  exact ⟨rfl, Below.refl _ _⟩
set_option maxRecDepth 100000 in
set_option maxHeartbeats 4000000 in
theorem leave_any (l : List Pu) (ch : Nat) (t : Tr) (sv : Value) (N : Nat) (w : World) (hp : powAt w) (hN : N ≤ w.heap.size) (hl : Many PuR 3 w N sv l) (hr : RightU l) (hlen : l.length ≤ 60) (hn : t.amount < 18446744073709551616) (hc : ch ≤ 9223372036854775807) :
    Calls Tryd.prog 21 #[sv, .int .i64 (ch : Int), .agg #[.string t.denom, .int .u64 (t.amount : Int), .string t.sender, .string t.reader]] w fun e w' => Below w.heap.size w w' ∧ ∃ v, e = .returned (.tuple #[v, .int .i64 (leaveE l ch t)]) ∧ Many PuR 3 w' w'.heap.size v (leaveL l ch t) := by
  obtain ⟨oa, ca, rfl, -⟩ := hl.shape
  have HL := hid (fun W (hb : Below w.heap.size w W) => And.intro (Nat.le_trans hN hb.size) (hl.below PuR.stays (hb.mono hN)))
  have HR := hid (And.intro hr hlen)
  have HE := hid (show leaveE l ch t = if cameB t.denom ch = true then burnE l t.sender t.denom t.amount else moveE l t.sender (safeS ch) t.denom t.amount from rfl)
  have HLL := hid (show leaveL l ch t = if cameB t.denom ch = true then burnL l t.sender t.denom t.amount else moveL l t.sender (safeS ch) t.denom t.amount from rfl)
  have HP := hid (fun W (hb : Below w.heap.size w W) => hp.below hb)
  have HPX := hid (show ∀ W, Calls Tryd.prog 53 #[.string t.denom, .string (cameS ch)] W fun e w' => e = .returned (.bool (cameB t.denom ch)) ∧ Below W.heap.size W w' from fun W => prefix_any _ _ W)
  have HBU := hid (fun W (hb : Below w.heap.size w W) => burn_any l t.sender t.denom t.amount _ N W (HL.out W hb).1 (HL.out W hb).2 HR.out.1 HR.out.2)
  have HMV := hid (fun W (hb : Below w.heap.size w W) => move_any l t.sender (safeS ch) t.denom t.amount _ N W (HL.out W hb).1 (HL.out W hb).2 HR.out.1 HR.out.2 hn)
  clear hp
  clear hl hr hlen
  generalize l.length = m at *
  go_enter Tryd.func21, Tryd.ntmps21
  go_upto_region 1 with fail
  refine fbox1 ?_
  intro w0 F0 hs
  have HF := hid (fun W (hb : Below w0.heap.size w0 W) => F0.go hb)
  clear F0 hs
  apply region_go (by kernel_rfl) (fun W hb => (HF.out W hb).r0.k4) (by kernel_rfl)
  · intro σ; simp [slotAll]; exact rfl
  iterate 3 (apply RK.val rfl; · intro σ W hb hc ⟨hd, hu⟩; simp [Fresh, Region.binds] at hd hu; go_simp; exact rfl)
  apply RK.callV rfl
  · intro σ W hb hc ⟨hd, hu⟩; simp [Fresh, Region.binds] at hd hu; go_simp; exact ⟨rfl, rfl⟩
  · intro W hb _; exact cameOver_any ch hc W (HP.out W (HF.out W hb).b)
  apply RK.callV rfl
  · intro σ W hb hc ⟨hd, hu⟩; simp [Fresh, Region.binds] at hd hu; go_simp; exact ⟨rfl, rfl⟩
  · intro W hb _; exact HPX.out W
  intro σ W hb _ hF; simp [AllF] at hF; go_simp
  clear hF
  have HB1 := hid hb
  obtain ⟨k0, k1, k2, k3⟩ := (HF.out W hb).r0.k4
  clear hb
  by_cases hcb : cameB t.denom ch = true
  · rw [hcb]
    rw [if_pos hcb] at HE HLL
    go_wp2_with fail
    refine (HBU.out W (HF.out W HB1.out).b).mono ?_
    rintro e w2 ⟨hb2, v, rfl, hv⟩
    have HV := hid hv
    have HB2 := hid ((HF.out W HB1.out).go hb2).b
    clear hb2 hv
    go_wp2
    go_ret2
    exact ⟨HB2.out, v, by rw [HE.out]; rfl, by rw [HLL.out]; exact HV.out⟩
  · have hcf : cameB t.denom ch = false := by simpa using hcb
    rw [hcf]
    rw [if_neg hcb] at HE HLL
    clear hcb k0 k1 k2 k3
    go_upto_region 3 with fail
    apply region_go (by kernel_rfl) (fun W hb => (HF.out W (HB1.out.trans (hb.mono HB1.out.size))).r0.k4) (by kernel_rfl)
    · intro σ; simp [slotAll]; exact rfl
    iterate 4 (apply RK.val rfl; · intro σ W hb hc ⟨hd, hu⟩; simp [Fresh, Region.binds] at hd hu; go_simp; exact rfl)
    apply RK.callV rfl
    · intro σ W hb hc ⟨hd, hu⟩; simp [Fresh, Region.binds] at hd hu; go_simp; exact ⟨rfl, rfl⟩
    · intro W hb _; exact safeOf_any ch hc _ (HP.out _ (HF.out _ (HB1.out.trans (hb.mono HB1.out.size))).b)
    iterate 4 (apply RK.val rfl; · intro σ W hb hc ⟨hd, hu⟩; simp [Fresh, Region.binds] at hd hu; go_simp; exact rfl)
    apply RK.callG (PuE (moveE l t.sender (safeS ch) t.denom t.amount) (moveL l t.sender (safeS ch) t.denom t.amount)) (PuE.stay _ _) rfl
    · intro σ W hb hc ⟨hd, hu⟩; simp [Fresh, Region.binds] at hd hu; exact ⟨_, _, by go_simp <;> first | exact rfl | exact ⟨rfl, rfl⟩, puE_of (HMV.out W (HF.out W (HB1.out.trans (hb.mono HB1.out.size))).b)⟩
    apply RK.new (PuB (moveL l t.sender (safeS ch) t.denom t.amount)) (PuB.stay _) rfl
    · intro σ W hb hc ⟨hd, hu⟩; simp [Fresh, Region.binds] at hd hu
      obtain ⟨o, n, c, e, h⟩ := hd
      have HH := hid h
      clear h
      exact ⟨_, W, by go_simp <;> exact rfl, Below.refl _ _, o, n, c, rfl, HH.out⟩
    apply RK.val rfl
    · intro σ W hb hc ⟨hd, hu⟩; simp [Fresh, Region.binds] at hd hu
      obtain ⟨o, n, c, e, h⟩ := hd
      clear h
      go_simp
      exact rfl
    apply RK.new (PuB (moveL l t.sender (safeS ch) t.denom t.amount)) (PuB.stay _) rfl
    · intro σ W hb hc ⟨hd, hu⟩; simp [Fresh, Region.binds] at hd hu
      obtain ⟨o, n, c, e, h⟩ := (show PuB (moveL l t.sender (safeS ch) t.denom t.amount) _ W from by first | exact hd | exact hd.1)
      have HH := hid h
      clear h
      try clear hd
      exact ⟨_, W, by go_simp <;> exact rfl, Below.refl _ _, o, n, c, rfl, HH.out⟩
    apply RK.val rfl
    · intro σ W hb hc ⟨hd, hu⟩; simp [Fresh, Region.binds] at hd hu; go_simp; exact rfl
    intro σ W hb _
    simp only [AllF, List.nil_append, List.cons_append, Nat.reduceAdd]
    intro hF
    obtain ⟨-, -, -, -, -, -, -, -, -, -, -, -, ⟨o9, n9, c9, e9, h9⟩, e10, -⟩ := hF
    have HBZ := hid ((HF.out W (HB1.out.trans (hb.mono HB1.out.size))).b)
    have HV9 := hid h9
    simp only [e9, e10]
    clear hb h9 e9 e10
    go_wp2
    go_ret2
    exact ⟨HBZ.out, _, by rw [HE.out]; rfl, by rw [HLL.out]; exact HV9.out⟩
set_option maxRecDepth 100000 in
set_option maxHeartbeats 4000000 in
theorem back_any (l : List Pu) (ch : Nat) (t : Tr) (sv : Value) (N : Nat) (w : World) (hp : powAt w) (hN : N ≤ w.heap.size) (hl : Many PuR 3 w N sv l) (hr : RightU l) (hlen : l.length ≤ 60) (hn : t.amount < 18446744073709551616) (hc : ch ≤ 9223372036854775807) :
    Calls Tryd.prog 23 #[sv, .int .i64 (ch : Int), .agg #[.string t.denom, .int .u64 (t.amount : Int), .string t.sender, .string t.reader]] w fun e w' => Below w.heap.size w w' ∧ ∃ v, e = .returned (.tuple #[v, .int .i64 (backE l ch t)]) ∧ Many PuR 3 w' w'.heap.size v (backL l ch t) := by
  obtain ⟨oa, ca, rfl, -⟩ := hl.shape
  have HL := hid (fun W (hb : Below w.heap.size w W) => And.intro (Nat.le_trans hN hb.size) (hl.below PuR.stays (hb.mono hN)))
  have HR := hid (And.intro hr hlen)
  have HE := hid (show backE l ch t = if cameB t.denom ch = true then mintE l t.sender t.denom t.amount else moveE l (safeS ch) t.sender t.denom t.amount from rfl)
  have HLL := hid (show backL l ch t = if cameB t.denom ch = true then mintL l t.sender t.denom t.amount else moveL l (safeS ch) t.sender t.denom t.amount from rfl)
  have HP := hid (fun W (hb : Below w.heap.size w W) => hp.below hb)
  have HPX := hid (show ∀ W, Calls Tryd.prog 53 #[.string t.denom, .string (cameS ch)] W fun e w' => e = .returned (.bool (cameB t.denom ch)) ∧ Below W.heap.size W w' from fun W => prefix_any _ _ W)
  have HBU := hid (fun W (hb : Below w.heap.size w W) => mint_any l t.sender t.denom t.amount _ N W (HL.out W hb).1 (HL.out W hb).2 HR.out.1 HR.out.2 hn)
  have HMV := hid (fun W (hb : Below w.heap.size w W) => move_any l (safeS ch) t.sender t.denom t.amount _ N W (HL.out W hb).1 (HL.out W hb).2 HR.out.1 HR.out.2 hn)
  clear hp
  clear hl hr hlen
  generalize l.length = m at *
  go_enter Tryd.func23, Tryd.ntmps23
  go_upto_region 1 with fail
  refine fbox1 ?_
  intro w0 F0 hs
  have HF := hid (fun W (hb : Below w0.heap.size w0 W) => F0.go hb)
  clear F0 hs
  apply region_go (by kernel_rfl) (fun W hb => (HF.out W hb).r0.k4) (by kernel_rfl)
  · intro σ; simp [slotAll]; exact rfl
  iterate 3 (apply RK.val rfl; · intro σ W hb hc ⟨hd, hu⟩; simp [Fresh, Region.binds] at hd hu; go_simp; exact rfl)
  apply RK.callV rfl
  · intro σ W hb hc ⟨hd, hu⟩; simp [Fresh, Region.binds] at hd hu; go_simp; exact ⟨rfl, rfl⟩
  · intro W hb _; exact cameOver_any ch hc W (HP.out W (HF.out W hb).b)
  apply RK.callV rfl
  · intro σ W hb hc ⟨hd, hu⟩; simp [Fresh, Region.binds] at hd hu; go_simp; exact ⟨rfl, rfl⟩
  · intro W hb _; exact HPX.out W
  intro σ W hb _ hF; simp [AllF] at hF; go_simp
  clear hF
  have HB1 := hid hb
  obtain ⟨k0, k1, k2, k3⟩ := (HF.out W hb).r0.k4
  clear hb
  by_cases hcb : cameB t.denom ch = true
  · rw [hcb]
    rw [if_pos hcb] at HE HLL
    go_wp2_with fail
    refine (HBU.out W (HF.out W HB1.out).b).mono ?_
    rintro e w2 ⟨hb2, v, rfl, hv⟩
    have HV := hid hv
    have HB2 := hid ((HF.out W HB1.out).go hb2).b
    clear hb2 hv
    go_wp2
    go_ret2
    exact ⟨HB2.out, v, by rw [HE.out]; rfl, by rw [HLL.out]; exact HV.out⟩
  · have hcf : cameB t.denom ch = false := by simpa using hcb
    rw [hcf]
    rw [if_neg hcb] at HE HLL
    clear hcb k0 k1 k2 k3
    go_upto_region 3 with fail
    apply region_go (by kernel_rfl) (fun W hb => (HF.out W (HB1.out.trans (hb.mono HB1.out.size))).r0.k4) (by kernel_rfl)
    · intro σ; simp [slotAll]; exact rfl
    iterate 2 (apply RK.val rfl; · intro σ W hb hc ⟨hd, hu⟩; simp [Fresh, Region.binds] at hd hu; go_simp; exact rfl)
    apply RK.callV rfl
    · intro σ W hb hc ⟨hd, hu⟩; simp [Fresh, Region.binds] at hd hu; go_simp; exact ⟨rfl, rfl⟩
    · intro W hb _; exact safeOf_any ch hc _ (HP.out _ (HF.out _ (HB1.out.trans (hb.mono HB1.out.size))).b)
    iterate 6 (apply RK.val rfl; · intro σ W hb hc ⟨hd, hu⟩; simp [Fresh, Region.binds] at hd hu; go_simp; exact rfl)
    apply RK.callG (PuE (moveE l (safeS ch) t.sender t.denom t.amount) (moveL l (safeS ch) t.sender t.denom t.amount)) (PuE.stay _ _) rfl
    · intro σ W hb hc ⟨hd, hu⟩; simp [Fresh, Region.binds] at hd hu; exact ⟨_, _, by go_simp <;> first | exact rfl | exact ⟨rfl, rfl⟩, puE_of (HMV.out W (HF.out W (HB1.out.trans (hb.mono HB1.out.size))).b)⟩
    apply RK.new (PuB (moveL l (safeS ch) t.sender t.denom t.amount)) (PuB.stay _) rfl
    · intro σ W hb hc ⟨hd, hu⟩; simp [Fresh, Region.binds] at hd hu
      obtain ⟨o, n, c, e, h⟩ := hd
      have HH := hid h
      clear h
      exact ⟨_, W, by go_simp <;> exact rfl, Below.refl _ _, o, n, c, rfl, HH.out⟩
    apply RK.val rfl
    · intro σ W hb hc ⟨hd, hu⟩; simp [Fresh, Region.binds] at hd hu
      obtain ⟨o, n, c, e, h⟩ := hd
      clear h
      go_simp
      exact rfl
    apply RK.new (PuB (moveL l (safeS ch) t.sender t.denom t.amount)) (PuB.stay _) rfl
    · intro σ W hb hc ⟨hd, hu⟩; simp [Fresh, Region.binds] at hd hu
      obtain ⟨o, n, c, e, h⟩ := (show PuB (moveL l (safeS ch) t.sender t.denom t.amount) _ W from by first | exact hd | exact hd.1)
      have HH := hid h
      clear h
      try clear hd
      exact ⟨_, W, by go_simp <;> exact rfl, Below.refl _ _, o, n, c, rfl, HH.out⟩
    apply RK.val rfl
    · intro σ W hb hc ⟨hd, hu⟩; simp [Fresh, Region.binds] at hd hu; go_simp; exact rfl
    intro σ W hb _
    simp only [AllF, List.nil_append, List.cons_append, Nat.reduceAdd]
    intro hF
    obtain ⟨-, -, -, -, -, -, -, -, -, -, -, -, ⟨o9, n9, c9, e9, h9⟩, e10, -⟩ := hF
    have HBZ := hid ((HF.out W (HB1.out.trans (hb.mono HB1.out.size))).b)
    have HV9 := hid h9
    simp only [e9, e10]
    clear hb h9 e9 e10
    go_wp2
    go_ret2
    exact ⟨HBZ.out, _, by rw [HE.out]; rfl, by rw [HLL.out]; exact HV9.out⟩
theorem pre_size {s p : ByteArray} (h : Lib.hasPrefix s.data.toList p.data.toList = true) : p.size ≤ s.size := by
  have := List.IsPrefix.length_le (List.isPrefixOf_iff_prefix.1 h)
  rw [Array.length_toList, Array.length_toList] at this
  exact this
set_option maxRecDepth 100000 in
set_option maxHeartbeats 4000000 in
theorem cutPrefix_any (s p : ByteArray) (w : World) : Calls Tryd.prog 56 #[.string s, .string p] w fun e w' => e = .returned (.tuple #[.string (if Lib.hasPrefix s.data.toList p.data.toList = true then s.extract p.size s.size else s), .bool (Lib.hasPrefix s.data.toList p.data.toList)]) ∧ Below w.heap.size w w' := by
  have HI : Hid (Calls Tryd.prog 76 #[.string s, .string p] w fun e w' => e = .returned (.tuple #[.string (if Lib.hasPrefix s.data.toList p.data.toList = true then s.extract p.size s.size else s), .bool (Lib.hasPrefix s.data.toList p.data.toList)]) ∧ w' = w) := by
    have HP := hid (Any.stringslite_HasPrefix { Tryd.laysPre99 with } s p w)
    have hz := pre_size (s := s) (p := p)
    obtain ⟨q, hq⟩ : ∃ q, Lib.hasPrefix s.data.toList p.data.toList = q := ⟨_, rfl⟩
    rw [hq] at HP hz ⊢
    clear hq
    refine hid ?_
    cases q with
    | false =>
      go_enter Tryd.func76, Tryd.ntmps76
      go_wp2_with fail
      refine HP.out.mono ?_
      rintro e w1 ⟨rfl, hw⟩
      obtain rfl := hw.symm
      go_wp2
      go_ret2
      exact ⟨rfl, rfl⟩
    | true =>
      have hz' : (p.size : Int) ≤ (s.size : Int) := by have := hz rfl; omega
      go_enter Tryd.func76, Tryd.ntmps76
      go_wp2_with fail
      refine HP.out.mono ?_
      rintro e w1 ⟨rfl, hw⟩
      obtain rfl := hw.symm
      go_wp2
      go_ret2
      exact ⟨rfl, rfl⟩
  generalize (if Lib.hasPrefix s.data.toList p.data.toList = true then s.extract p.size s.size else s) = r at *
  generalize Lib.hasPrefix s.data.toList p.data.toList = q at *
  go_enter Tryd.func56, Tryd.ntmps56
  go_wp2_with fail
  refine HI.out.mono ?_
  rintro e w1 ⟨rfl, hw⟩
  obtain rfl := hw.symm
  go_wp2
  go_ret2
  exact ⟨rfl, Below.refl _ _⟩
set_option maxRecDepth 100000 in
set_option maxHeartbeats 4000000 in
theorem come_any (l : List Pu) (ch other : Nat) (t : Tr) (sv : Value) (N : Nat) (w : World) (hp : powAt w) (hN : N ≤ w.heap.size) (hl : Many PuR 3 w N sv l) (hr : RightU l) (hlen : l.length ≤ 60) (hn : t.amount < 18446744073709551616) (hc : ch ≤ 9223372036854775807) (ho : other ≤ 9223372036854775807) (hds : t.denom.size ≤ 140737488351232) :
    Calls Tryd.prog 25 #[sv, .int .i64 (ch : Int), .int .i64 (other : Int), .agg #[.string t.denom, .int .u64 (t.amount : Int), .string t.sender, .string t.reader]] w fun e w' => Below w.heap.size w w' ∧ ∃ v, e = .returned (.tuple #[v, .int .i64 (comeE l ch other t)]) ∧ Many PuR 3 w' w'.heap.size v (comeL l ch other t) := by
  obtain ⟨oa, ca, rfl, -⟩ := hl.shape
  have HL := hid (fun W (hb : Below w.heap.size w W) => And.intro (Nat.le_trans hN hb.size) (hl.below PuR.stays (hb.mono hN)))
  have HR := hid (And.intro hr hlen)
  have HE := hid (show comeE l ch other t = if cameB t.denom other = true then moveE l (safeS ch) t.reader (cutS t.denom other) t.amount else mintE l t.reader (cameS ch ++ t.denom) t.amount from rfl)
  have HLL := hid (show comeL l ch other t = if cameB t.denom other = true then moveL l (safeS ch) t.reader (cutS t.denom other) t.amount else mintL l t.reader (cameS ch ++ t.denom) t.amount from rfl)
  have HP := hid (fun W (hb : Below w.heap.size w W) => hp.below hb)
  have HPX := hid (show ∀ W, Calls Tryd.prog 56 #[.string t.denom, .string (cameS other)] W fun e w' => e = .returned (.tuple #[.string (if cameB t.denom other = true then cutS t.denom other else t.denom), .bool (cameB t.denom other)]) ∧ Below W.heap.size W w' from fun W => cutPrefix_any _ _ W)
  have hq : ∀ W : World, (Op.stringOp .add (cameS ch) t.denom).run Tryd.prog W = .ok (.string (cameS ch ++ t.denom)) W := fun W => run_string_add_sum W _ _ (by have := cameS_size ch hc; omega)
  have HMV := hid (fun W (hb : Below w.heap.size w W) => move_any l (safeS ch) t.reader (cutS t.denom other) t.amount _ N W (HL.out W hb).1 (HL.out W hb).2 HR.out.1 HR.out.2 hn)
  have HMI := hid (fun W (hb : Below w.heap.size w W) => mint_any l t.reader (cameS ch ++ t.denom) t.amount _ N W (HL.out W hb).1 (HL.out W hb).2 HR.out.1 HR.out.2 hn)
  clear hp
  clear hl hr hlen
  generalize l.length = m at *
  go_enter Tryd.func25, Tryd.ntmps25
  go_upto_region 1 with fail
  refine fbox1 ?_
  intro w0 F0 hs
  have HF := hid (fun W (hb : Below w0.heap.size w0 W) => F0.go hb)
  clear F0 hs
  apply region_go (by kernel_rfl) (fun W hb => (HF.out W hb).r0.k4) (by kernel_rfl)
  · intro σ; simp [slotAll]; exact rfl
  iterate 3 (apply RK.val rfl; · intro σ W hb hc ⟨hd, hu⟩; simp [Fresh, Region.binds] at hd hu; go_simp; exact rfl)
  apply RK.callV rfl
  · intro σ W hb hc ⟨hd, hu⟩; simp [Fresh, Region.binds] at hd hu; go_simp; exact ⟨rfl, rfl⟩
  · intro W hb _; exact cameOver_any other ho W (HP.out W (HF.out W hb).b)
  apply RK.callV rfl
  · intro σ W hb hc ⟨hd, hu⟩; simp [Fresh, Region.binds] at hd hu; go_simp; exact ⟨rfl, rfl⟩
  · intro W hb _; exact HPX.out W
  iterate 5 (apply RK.val rfl; · intro σ W hb hc ⟨hd, hu⟩; simp [Fresh, Region.binds] at hd hu; go_simp; exact rfl)
  intro σ W hb _ hF; simp [AllF] at hF; go_simp
  clear hF
  have HB1 := hid hb
  clear hb
  by_cases hcb : cameB t.denom other = true
  · simp only [hcb, if_true]
    rw [if_pos hcb] at HE HLL
    clear hcb
    go_upto_region 3 with fail
    apply region_go (by kernel_rfl) (fun W hb => (HF.out W (HB1.out.trans (hb.mono HB1.out.size))).r0.k4) (by kernel_rfl)
    · intro σ; simp [slotAll]; exact rfl
    iterate 2 (apply RK.val rfl; · intro σ W hb hc ⟨hd, hu⟩; simp [Fresh, Region.binds] at hd hu; go_simp; exact rfl)
    apply RK.callV rfl
    · intro σ W hb hc ⟨hd, hu⟩; simp [Fresh, Region.binds] at hd hu; go_simp; exact ⟨rfl, rfl⟩
    · intro W hb _; exact safeOf_any ch hc _ (HP.out _ (HF.out _ (HB1.out.trans (hb.mono HB1.out.size))).b)
    iterate 5 (apply RK.val rfl; · intro σ W hb hc ⟨hd, hu⟩; simp [Fresh, Region.binds] at hd hu; go_simp; exact rfl)
    apply RK.callG (PuE (moveE l (safeS ch) t.reader (cutS t.denom other) t.amount) (moveL l (safeS ch) t.reader (cutS t.denom other) t.amount)) (PuE.stay _ _) rfl
    · intro σ W hb hc ⟨hd, hu⟩; simp [Fresh, Region.binds] at hd hu; exact ⟨_, _, by go_simp <;> first | exact rfl | exact ⟨rfl, rfl⟩, puE_of (HMV.out W (HF.out W (HB1.out.trans (hb.mono HB1.out.size))).b)⟩
    apply RK.new (PuB (moveL l (safeS ch) t.reader (cutS t.denom other) t.amount)) (PuB.stay _) rfl
    · intro σ W hb hc ⟨hd, hu⟩; simp [Fresh, Region.binds] at hd hu
      obtain ⟨o, n, c, e, h⟩ := hd
      have HH := hid h
      clear h
      exact ⟨_, W, by go_simp <;> exact rfl, Below.refl _ _, o, n, c, rfl, HH.out⟩
    apply RK.val rfl
    · intro σ W hb hc ⟨hd, hu⟩; simp [Fresh, Region.binds] at hd hu
      obtain ⟨o, n, c, e, h⟩ := hd
      clear h
      go_simp
      exact rfl
    apply RK.new (PuB (moveL l (safeS ch) t.reader (cutS t.denom other) t.amount)) (PuB.stay _) rfl
    · intro σ W hb hc ⟨hd, hu⟩; simp [Fresh, Region.binds] at hd hu
      obtain ⟨o, n, c, e, h⟩ := (show PuB (moveL l (safeS ch) t.reader (cutS t.denom other) t.amount) _ W from by first | exact hd | exact hd.1)
      have HH := hid h
      clear h
      try clear hd
      exact ⟨_, W, by go_simp <;> exact rfl, Below.refl _ _, o, n, c, rfl, HH.out⟩
    apply RK.val rfl
    · intro σ W hb hc ⟨hd, hu⟩; simp [Fresh, Region.binds] at hd hu; go_simp; exact rfl
    intro σ W hb _
    simp only [AllF, List.nil_append, List.cons_append, Nat.reduceAdd]
    intro hF
    obtain ⟨-, -, -, -, -, -, -, -, -, -, -, ⟨o9, n9, c9, e9, h9⟩, e10, -⟩ := hF
    have HBZ := hid ((HF.out W (HB1.out.trans (hb.mono HB1.out.size))).b)
    have HV9 := hid h9
    simp only [e9, e10]
    clear hb h9 e9 e10
    go_wp2
    go_ret2
    exact ⟨HBZ.out, _, by rw [HE.out]; rfl, by rw [HLL.out]; exact HV9.out⟩
  · have hcf : cameB t.denom other = false := by simpa using hcb
    rw [if_neg hcb] at HE HLL
    simp only [hcf, Bool.false_eq_true, if_false]
    clear hcb hcf
    go_upto_region 4 with fail
    apply region_go (by kernel_rfl) (fun W hb => (HF.out W (HB1.out.trans (hb.mono HB1.out.size))).r0.k4) (by kernel_rfl)
    · intro σ; simp [slotAll]; exact rfl
    iterate 4 (apply RK.val rfl; · intro σ W hb hc ⟨hd, hu⟩; simp [Fresh, Region.binds] at hd hu; go_simp; exact rfl)
    apply RK.callV rfl
    · intro σ W hb hc ⟨hd, hu⟩; simp [Fresh, Region.binds] at hd hu; go_simp; exact ⟨rfl, rfl⟩
    · intro W hb _; exact cameOver_any ch hc _ (HP.out _ (HF.out _ (HB1.out.trans (hb.mono HB1.out.size))).b)
    iterate 5 (apply RK.val rfl; · intro σ W hb hc ⟨hd, hu⟩; simp [Fresh, Region.binds] at hd hu; go_simp; exact rfl)
    apply RK.callG (PuE (mintE l t.reader (cameS ch ++ t.denom) t.amount) (mintL l t.reader (cameS ch ++ t.denom) t.amount)) (PuE.stay _ _) rfl
    · intro σ W hb hc ⟨hd, hu⟩; simp [Fresh, Region.binds] at hd hu; exact ⟨_, _, by go_simp <;> first | exact rfl | exact ⟨rfl, rfl⟩, puE_of (HMI.out W (HF.out W (HB1.out.trans (hb.mono HB1.out.size))).b)⟩
    apply RK.new (PuB (mintL l t.reader (cameS ch ++ t.denom) t.amount)) (PuB.stay _) rfl
    · intro σ W hb hc ⟨hd, hu⟩; simp [Fresh, Region.binds] at hd hu
      obtain ⟨o, n, c, e, h⟩ := hd
      have HH := hid h
      clear h
      exact ⟨_, W, by go_simp <;> exact rfl, Below.refl _ _, o, n, c, rfl, HH.out⟩
    apply RK.val rfl
    · intro σ W hb hc ⟨hd, hu⟩; simp [Fresh, Region.binds] at hd hu
      obtain ⟨o, n, c, e, h⟩ := hd
      clear h
      go_simp
      exact rfl
    apply RK.new (PuB (mintL l t.reader (cameS ch ++ t.denom) t.amount)) (PuB.stay _) rfl
    · intro σ W hb hc ⟨hd, hu⟩; simp [Fresh, Region.binds] at hd hu
      obtain ⟨o, n, c, e, h⟩ := (show PuB (mintL l t.reader (cameS ch ++ t.denom) t.amount) _ W from by first | exact hd | exact hd.1)
      have HH := hid h
      clear h
      try clear hd
      exact ⟨_, W, by go_simp <;> exact rfl, Below.refl _ _, o, n, c, rfl, HH.out⟩
    apply RK.val rfl
    · intro σ W hb hc ⟨hd, hu⟩; simp [Fresh, Region.binds] at hd hu; go_simp; exact rfl
    intro σ W hb _
    simp only [AllF, List.nil_append, List.cons_append, Nat.reduceAdd]
    intro hF
    obtain ⟨-, -, -, -, -, -, -, -, -, -, -, -, -, ⟨o9, n9, c9, e9, h9⟩, e10, -⟩ := hF
    have HBZ := hid ((HF.out W (HB1.out.trans (hb.mono HB1.out.size))).b)
    have HV9 := hid h9
    simp only [e9, e10]
    clear hb h9 e9 e10
    go_wp2
    go_ret2
    exact ⟨HBZ.out, _, by rw [HE.out]; rfl, by rw [HLL.out]; exact HV9.out⟩
end Go.Proofs.YtnoaohlajllngaaDoor
