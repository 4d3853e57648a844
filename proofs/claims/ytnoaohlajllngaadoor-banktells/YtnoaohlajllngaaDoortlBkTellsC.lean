/-
  BankTells: what its closures answer.
-/
import Derived.Test.YtnoaohlajllngaaDoortlBkMint
import Derived.Test.YtnoaohlajllngaaDoortlSt8RWrong
import Derived.Test.YtnoaohlajllngaaDoortlBkRef4
import Derived.Test.YtnoaohlajllngaaDoortlBkRef5
import Derived.Test.YtnoaohlajllngaaDoortlBkRef6
import Derived.Laws.StructEq
namespace Go.Proofs.YtnoaohlajllngaaDoor
open Go.RowKit

def stU (l : List Pu) : St := ⟨⟨#[97]⟩, 0, 0, [], [], [], [], [], [], l⟩
theorem wrong_stU (l : List Pu) (h : l.length ≤ 60) : wrongS (stU l) = pursesN l := by
  have h1 : nameB (stU l).name = true := by show nameB ⟨#[97]⟩ = true; decide
  have h2 : (fromB 0 (stU l).height && fromB 0 (stU l).time) = true := by show (fromB 0 0 && fromB 0 0) = true; decide
  unfold wrongS
  rw [if_neg (by rw [h1]; simp), if_neg (by rw [h2]; simp), if_neg (by simp [manyB, stU]; omega)]
  unfold deepS stU
  simp [orN, firstW, marksN, upGo]
  exact fun h => h.symm
set_option maxRecDepth 100000 in
set_option maxHeartbeats 4000000 in
theorem right12 (l : List Pu) (sv : Value) (N : Nat) (w : World) (hN : N ≤ w.heap.size) (hl : Many PuR 3 w N sv l) (hf : ∀ p ∈ l, p.fits) (hlen : l.length < 2305843009213693952) :
    Calls Tryd.prog 9 #[sv] w fun e w' => e = .returned (.bool (rightB l)) ∧ Below w.heap.size w w' := by
  have HR := hid (show rightB l = (decide (l.length ≤ 60) && decide (pursesN l = 0)) from rfl)
  by_cases h60 : l.length ≤ 60
  · have HC := hid (refStWrongC (stU l) (.agg #[.string ⟨#[97]⟩, .int .i64 0, .int .i64 0, .slice none 0 0, .slice none 0 0, .slice none 0 0, .slice none 0 0, .slice none 0 0, .slice none 0 0, sv]) N w ⟨_, _, _, _, _, _, _, rfl, Many.nil _ _ _ _, Many.nil _ _ _ _, Many.nil _ _ _ _, Many.nil _ _ _ _, Many.nil _ _ _ _, Many.nil _ _ _ _, hl⟩ hN (by
      unfold stU; exact ⟨by show (1 : Nat) ≤ _; omega, ⟨Nat.zero_lt_succ _, fun _ h => (by cases h)⟩, Nat.zero_lt_succ _, Nat.zero_lt_succ _, ⟨Nat.zero_lt_succ _, fun _ h => (by cases h)⟩, ⟨Nat.zero_lt_succ _, fun _ h => (by cases h)⟩, ⟨Nat.zero_lt_succ _, fun _ h => (by cases h)⟩, hlen, hf⟩))
    rw [wrong_stU l h60] at HC
    rw [decide_eq_true h60, Bool.true_and] at HR
    obtain ⟨oa, ca, rfl, -⟩ := hl.shape
    clear hl hf hlen
    generalize hm : l.length = m at *
    generalize pursesN l = p at *
    have h6 : (m : Int) ≤ 60 := by omega
    clear hm
    go_enter Tryd.func9, Tryd.ntmps9
    go_wp2_with fail
    refine HC.out.mono ?_
    rintro e w1 ⟨rfl, hb⟩
    have HB := hid hb
    clear hb
    go_wp2
    go_ret
    refine ⟨?_, HB.out⟩
    rw [HR.out]
    simp
    rw [Bool.eq_iff_iff]
    simp
  · rw [decide_eq_false h60, Bool.false_and] at HR
    obtain ⟨oa, ca, rfl, -⟩ := hl.shape
    clear hl hf
    generalize hm : l.length = m at *
    have h6 : ¬ (m : Int) ≤ 60 := by omega
    have h6' : decide ((m : Int) ≤ 60) = false := by simpa using h6
    clear hm
    go_enter Tryd.func9, Tryd.ntmps9
    go_wp2
    go_ret
    exact ⟨by rw [HR.out]; rfl, Below.refl _ _⟩
theorem fPb : Tryd.prog.underlying 71 = some (.struct (Tryd.prog.fieldsOf 71)) := by kernel_rfl
theorem gPb : Tryd.prog.stoodInHeld 71 = false := by kernel_rfl
set_option maxRecDepth 10000 in
theorem neqPb (x : Pu) (w : World) : (binOp .neq 71 (.agg #[.string x.owner, .string x.denom, .int .u64 (x.amount : Int)]) (.agg #[.string x.owner, .string x.denom, .int .u64 (x.amount : Int)])).run Tryd.prog w = .ok (.bool false) w := by
  have u3 := Tryd.underlying9
  have a3 := Tryd.isAgg9
  have z3 := Tryd.sizeOf9
  have u4 := Tryd.underlying23
  have a4 := Tryd.isAgg23
  have z4 := Tryd.sizeOf23
  rw [run_neq_struct, run_equalIn_struct w 9999 _ _ _ fPb gPb]
  simp only [Program.fieldsOf, Tryd.underlying71]
  go_simp
set_option maxRecDepth 100000 in
set_option maxHeartbeats 4000000 in
theorem sameU_eq (l : List Pu) (va vb : Value) (N M : Nat) (w : World) (hN : N ≤ w.heap.size) (hM : M ≤ w.heap.size) (ha : Many PuR 3 w N va l) (hb : Many PuR 3 w M vb l) (hlen : l.length ≤ 1000) :
    Calls Tryd.prog 32 #[va, vb] w fun e w' => e = .returned (.bool true) ∧ Below w.heap.size w w' := by
  obtain ⟨oa, ca, rfl, -⟩ := ha.shape
  obtain ⟨ob, cb, rfl, -⟩ := hb.shape
  have HA := hid ha
  have HB := hid hb
  clear ha hb
  generalize hn : l.length = n at *
  have HN := hid hn
  clear hn
  go_enter Tryd.func32, Tryd.ntmps32
  go_wp2_with fail
  go_loopw [13] (fun s13 wr => ∃ k : Nat, k ≤ n ∧ s13 = .int .i64 k ∧ Hid (Below w.heap.size w wr)) (fun s13 _ => n - (intOf s13).toNat)
  case atStart => exact ⟨0, Nat.zero_le _, rfl, Below.refl _ _⟩
  case round =>
    obtain ⟨k, hk, rfl, HW⟩ := hrel
    by_cases hlt : k < n
    · obtain ⟨p, hp⟩ : ∃ p, l[k]? = some p := ⟨l[k]'(by rw [HN.out]; exact hlt), List.getElem?_eq_getElem _⟩
      have hlt' : (k : Int) < (n : Int) := by omega
      obtain ⟨b1, f1, rfl, -⟩ := HA.out.purse (by omega) hp (Below.refl _ _)
      obtain ⟨b2, f2, rfl, -⟩ := HB.out.purse (by omega) hp (Below.refl _ _)
      have HZ := hid (show ∀ W, Below wr.heap.size wr W → (W.cell? ⟨b1, f1 + k * 3, none⟩ = some (.string p.owner) ∧ W.cell? ⟨b1, f1 + k * 3 + 1, none⟩ = some (.string p.denom) ∧ W.cell? ⟨b1, f1 + k * 3 + 2, none⟩ = some (.int .u64 (p.amount : Int))) ∧ W.cell? ⟨b2, f2 + k * 3, none⟩ = some (.string p.owner) ∧ W.cell? ⟨b2, f2 + k * 3 + 1, none⟩ = some (.string p.denom) ∧ W.cell? ⟨b2, f2 + k * 3 + 2, none⟩ = some (.int .u64 (p.amount : Int)) from fun W hW => by
        have hWW := HW.out.trans (hW.mono HW.out.size)
        obtain ⟨b, f, e, -, h1⟩ := HA.out.purse (by omega) hp (hWW.mono hN)
        obtain ⟨b', f', e', -, h2⟩ := HB.out.purse (by omega) hp (hWW.mono hM)
        obtain ⟨rfl, rfl⟩ : b1 = b ∧ f1 = f := by simpa using e
        obtain ⟨rfl, rfl⟩ : b2 = b' ∧ f2 = f' := by simpa using e'
        exact ⟨h1, h2⟩)
      have hq := neqPb p
      clear hp
      go_upto_region 6 with fail
      apply region_go (by kernel_rfl) (fun W hW => HZ.out W hW) (by kernel_rfl)
      · intro σ; simp [slotAll]; exact rfl
      iterate 9 (apply RK.val rfl; · intro σ W hb hc hd; simp [Has, Fresh, Region.binds] at hd; go_simp; exact rfl)
      intro σ W hb _ hF; simp [AllF] at hF; go_simp; clear hF
      have HB1 := hid (HW.out.trans (hb.mono HW.out.size))
      clear hb hq
      go_wp2_with fail
      exact ⟨⟨k + 1, by omega, by go_num, HB1.out⟩, by simp [intOf]; omega⟩
    · obtain rfl : k = n := by omega
      have hlt' : decide ((k : Int) < (k : Int)) = false := by simp
      go_wp2
      go_ret
      exact ⟨rfl, HW.out⟩
end Go.Proofs.YtnoaohlajllngaaDoor
namespace Go.Proofs.YtnoaohlajllngaaDoor
open Go.RowKit

theorem fTr2 : Tryd.prog.underlying 25 = some (.struct (Tryd.prog.fieldsOf 25)) := by kernel_rfl
theorem gTr2 : Tryd.prog.stoodInHeld 25 = false := by kernel_rfl
set_option maxRecDepth 10000 in
theorem neqTr2 (x : Tr) (w : World) : (binOp .neq 25 (.agg #[.string x.denom, .int .u64 (x.amount : Int), .string x.sender, .string x.reader]) (.agg #[.string x.denom, .int .u64 (x.amount : Int), .string x.sender, .string x.reader])).run Tryd.prog w = .ok (.bool false) w := by
  have u3 := Tryd.underlying9
  have a3 := Tryd.isAgg9
  have z3 := Tryd.sizeOf9
  have u4 := Tryd.underlying23
  have a4 := Tryd.isAgg23
  have z4 := Tryd.sizeOf23
  rw [run_neq_struct, run_equalIn_struct w 9999 _ _ _ fTr2 gTr2]
  simp only [Program.fieldsOf, Tryd.underlying25]
  go_simp
theorem putU_len (l : List Pu) (o d : ByteArray) (n : Nat) : (putU l o d n).length ≤ 2 * l.length + 1 := by
  have h1 : (aheadU l o d).length ≤ l.length := List.length_filter_le _ _
  have h2 : (behindU l o d).length ≤ l.length := List.length_filter_le _ _
  have h3 : (oneU o d n).length ≤ 1 := by unfold oneU; split <;> simp
  unfold putU
  rw [List.length_append, List.length_append]
  omega
theorem mintL_len (l : List Pu) (o d : ByteArray) (n : Nat) : (mintL l o d n).length ≤ 2 * l.length + 1 := by
  unfold mintL
  split
  · simp
  · split
    · omega
    · exact putU_len _ _ _ _
theorem burnL_len (l : List Pu) (o d : ByteArray) (n : Nat) : (burnL l o d n).length ≤ 2 * l.length + 1 := by
  unfold burnL
  split
  · simp
  · exact putU_len _ _ _ _
theorem moveL_len (l : List Pu) (a b d : ByteArray) (n : Nat) : (moveL l a b d n).length ≤ 4 * l.length + 3 := by
  unfold moveL
  split
  · simp
  · have h1 := mintL_len (burnL l a d n) b d n
    have h2 := burnL_len l a d n
    omega
theorem leaveL_len (l : List Pu) (ch : Nat) (t : Tr) : (leaveL l ch t).length ≤ 4 * l.length + 3 := by
  unfold leaveL
  split
  · have := burnL_len l t.sender t.denom t.amount
    omega
  · exact moveL_len _ _ _ _ _
theorem backL_len (l : List Pu) (ch : Nat) (t : Tr) : (backL l ch t).length ≤ 4 * l.length + 3 := by
  unfold backL
  split
  · have := mintL_len l t.sender t.denom t.amount
    omega
  · exact moveL_len _ _ _ _ _
theorem comeL_len (l : List Pu) (ch ot : Nat) (t : Tr) : (comeL l ch ot t).length ≤ 4 * l.length + 3 := by
  unfold comeL
  split
  · exact moveL_len _ _ _ _ _
  · have := mintL_len l t.reader (cameS ch ++ t.denom) t.amount
    omega
set_option maxRecDepth 100000 in
set_option maxHeartbeats 4000000 in
theorem tc1 (oa : Option Addr) (m ca : Nat) (o : ByteArray) (d : ByteArray) (n : Nat) (g0 g1 g2 g3 : Nat) (w : World) (E : Int) (L : List Pu) (k0 : w.cell? ⟨g0, 0, none⟩ = some (.slice oa m ca)) (k1 : w.cell? ⟨g1, 0, none⟩ = some (.string o)) (k2 : w.cell? ⟨g2, 0, none⟩ = some (.string d)) (k3 : w.cell? ⟨g3, 0, none⟩ = some (.int .u64 (n : Int))) (hc : Calls Tryd.prog 15 #[.slice oa m ca, .string o, .string d, .int .u64 (n : Int)] w fun e w' => Below w.heap.size w w' ∧ ∃ v, e = .returned (.tuple #[v, .int .i64 E]) ∧ Many PuR 3 w' w'.heap.size v L) :
    Calls Tryd.prog 14 #[.pointer (some ⟨g0, 0, none⟩), .pointer (some ⟨g1, 0, none⟩), .pointer (some ⟨g2, 0, none⟩), .pointer (some ⟨g3, 0, none⟩)] w fun e w' => Below w.heap.size w w' ∧ ∃ v, e = .returned (.tuple #[v, .int .i64 E]) ∧ Many PuR 3 w' w'.heap.size v L := by
  have HC := hid hc
  clear hc
  go_enter Tryd.func14, Tryd.ntmps14
  go_wp2_with fail
  refine HC.out.mono ?_
  rintro e w2 ⟨hb2, v, rfl, hv⟩
  have HB := hid hb2
  have HV := hid hv
  obtain ⟨o2, c2, rfl, -⟩ := hv.shape
  clear hb2 hv k0 k1 k2 k3 HC
  generalize L.length = ll at *
  go_wp2
  go_ret2
  exact ⟨HB.out, _, rfl, HV.out⟩
set_option maxRecDepth 100000 in
set_option maxHeartbeats 4000000 in
theorem tc2 (oa : Option Addr) (m ca : Nat) (o : ByteArray) (d : ByteArray) (n : Nat) (g0 g1 g2 g3 : Nat) (w : World) (E : Int) (L : List Pu) (k0 : w.cell? ⟨g0, 0, none⟩ = some (.slice oa m ca)) (k1 : w.cell? ⟨g1, 0, none⟩ = some (.string o)) (k2 : w.cell? ⟨g2, 0, none⟩ = some (.string d)) (k3 : w.cell? ⟨g3, 0, none⟩ = some (.int .u64 (n : Int))) (hc : Calls Tryd.prog 17 #[.slice oa m ca, .string o, .string d, .int .u64 (n : Int)] w fun e w' => Below w.heap.size w w' ∧ ∃ v, e = .returned (.tuple #[v, .int .i64 E]) ∧ Many PuR 3 w' w'.heap.size v L) :
    Calls Tryd.prog 16 #[.pointer (some ⟨g0, 0, none⟩), .pointer (some ⟨g1, 0, none⟩), .pointer (some ⟨g2, 0, none⟩), .pointer (some ⟨g3, 0, none⟩)] w fun e w' => Below w.heap.size w w' ∧ ∃ v, e = .returned (.tuple #[v, .int .i64 E]) ∧ Many PuR 3 w' w'.heap.size v L := by
  have HC := hid hc
  clear hc
  go_enter Tryd.func16, Tryd.ntmps16
  go_wp2_with fail
  refine HC.out.mono ?_
  rintro e w2 ⟨hb2, v, rfl, hv⟩
  have HB := hid hb2
  have HV := hid hv
  obtain ⟨o2, c2, rfl, -⟩ := hv.shape
  clear hb2 hv k0 k1 k2 k3 HC
  generalize L.length = ll at *
  go_wp2
  go_ret2
  exact ⟨HB.out, _, rfl, HV.out⟩
set_option maxRecDepth 100000 in
set_option maxHeartbeats 4000000 in
theorem tc3 (oa : Option Addr) (m ca : Nat) (o : ByteArray) (r : ByteArray) (d : ByteArray) (n : Nat) (g0 g1 g2 g3 g4 : Nat) (w : World) (E : Int) (L : List Pu) (k0 : w.cell? ⟨g0, 0, none⟩ = some (.slice oa m ca)) (k1 : w.cell? ⟨g1, 0, none⟩ = some (.string o)) (k2 : w.cell? ⟨g2, 0, none⟩ = some (.string r)) (k3 : w.cell? ⟨g3, 0, none⟩ = some (.string d)) (k4 : w.cell? ⟨g4, 0, none⟩ = some (.int .u64 (n : Int))) (hc : Calls Tryd.prog 19 #[.slice oa m ca, .string o, .string r, .string d, .int .u64 (n : Int)] w fun e w' => Below w.heap.size w w' ∧ ∃ v, e = .returned (.tuple #[v, .int .i64 E]) ∧ Many PuR 3 w' w'.heap.size v L) :
    Calls Tryd.prog 18 #[.pointer (some ⟨g0, 0, none⟩), .pointer (some ⟨g1, 0, none⟩), .pointer (some ⟨g2, 0, none⟩), .pointer (some ⟨g3, 0, none⟩), .pointer (some ⟨g4, 0, none⟩)] w fun e w' => Below w.heap.size w w' ∧ ∃ v, e = .returned (.tuple #[v, .int .i64 E]) ∧ Many PuR 3 w' w'.heap.size v L := by
  have HC := hid hc
  clear hc
  go_enter Tryd.func18, Tryd.ntmps18
  go_wp2_with fail
  refine HC.out.mono ?_
  rintro e w2 ⟨hb2, v, rfl, hv⟩
  have HB := hid hb2
  have HV := hid hv
  obtain ⟨o2, c2, rfl, -⟩ := hv.shape
  clear hb2 hv k0 k1 k2 k3 k4 HC
  generalize L.length = ll at *
  go_wp2
  go_ret2
  exact ⟨HB.out, _, rfl, HV.out⟩
set_option maxRecDepth 100000 in
set_option maxHeartbeats 4000000 in
theorem tc4 (oa : Option Addr) (m ca : Nat) (ch : Nat) (t : Tr) (g0 g1 g2 : Nat) (w : World) (E : Int) (L : List Pu) (k0 : w.cell? ⟨g0, 0, none⟩ = some (.slice oa m ca)) (k1 : w.cell? ⟨g1, 0, none⟩ = some (.int .i64 (ch : Int))) (k20 : w.cell? ⟨g2, 0, none⟩ = some (.string t.denom)) (k21 : w.cell? ⟨g2, 1, none⟩ = some (.int .u64 (t.amount : Int))) (k22 : w.cell? ⟨g2, 2, none⟩ = some (.string t.sender)) (k23 : w.cell? ⟨g2, 3, none⟩ = some (.string t.reader)) (hc : Calls Tryd.prog 21 #[.slice oa m ca, .int .i64 (ch : Int), .agg #[.string t.denom, .int .u64 (t.amount : Int), .string t.sender, .string t.reader]] w fun e w' => Below w.heap.size w w' ∧ ∃ v, e = .returned (.tuple #[v, .int .i64 E]) ∧ Many PuR 3 w' w'.heap.size v L) :
    Calls Tryd.prog 20 #[.pointer (some ⟨g0, 0, none⟩), .pointer (some ⟨g1, 0, none⟩), .pointer (some ⟨g2, 0, none⟩)] w fun e w' => Below w.heap.size w w' ∧ ∃ v, e = .returned (.tuple #[v, .int .i64 E]) ∧ Many PuR 3 w' w'.heap.size v L := by
  have HC := hid hc
  clear hc
  go_enter Tryd.func20, Tryd.ntmps20
  go_wp2_with fail
  refine HC.out.mono ?_
  rintro e w2 ⟨hb2, v, rfl, hv⟩
  have HB := hid hb2
  have HV := hid hv
  obtain ⟨o2, c2, rfl, -⟩ := hv.shape
  clear hb2 hv k0 k1 k20 k21 k22 k23 HC
  generalize L.length = ll at *
  go_wp2
  go_ret2
  exact ⟨HB.out, _, rfl, HV.out⟩
set_option maxRecDepth 100000 in
set_option maxHeartbeats 4000000 in
theorem tc5 (oa : Option Addr) (m ca : Nat) (ch : Nat) (t : Tr) (g0 g1 g2 : Nat) (w : World) (E : Int) (L : List Pu) (k0 : w.cell? ⟨g0, 0, none⟩ = some (.slice oa m ca)) (k1 : w.cell? ⟨g1, 0, none⟩ = some (.int .i64 (ch : Int))) (k20 : w.cell? ⟨g2, 0, none⟩ = some (.string t.denom)) (k21 : w.cell? ⟨g2, 1, none⟩ = some (.int .u64 (t.amount : Int))) (k22 : w.cell? ⟨g2, 2, none⟩ = some (.string t.sender)) (k23 : w.cell? ⟨g2, 3, none⟩ = some (.string t.reader)) (hc : Calls Tryd.prog 23 #[.slice oa m ca, .int .i64 (ch : Int), .agg #[.string t.denom, .int .u64 (t.amount : Int), .string t.sender, .string t.reader]] w fun e w' => Below w.heap.size w w' ∧ ∃ v, e = .returned (.tuple #[v, .int .i64 E]) ∧ Many PuR 3 w' w'.heap.size v L) :
    Calls Tryd.prog 22 #[.pointer (some ⟨g0, 0, none⟩), .pointer (some ⟨g1, 0, none⟩), .pointer (some ⟨g2, 0, none⟩)] w fun e w' => Below w.heap.size w w' ∧ ∃ v, e = .returned (.tuple #[v, .int .i64 E]) ∧ Many PuR 3 w' w'.heap.size v L := by
  have HC := hid hc
  clear hc
  go_enter Tryd.func22, Tryd.ntmps22
  go_wp2_with fail
  refine HC.out.mono ?_
  rintro e w2 ⟨hb2, v, rfl, hv⟩
  have HB := hid hb2
  have HV := hid hv
  obtain ⟨o2, c2, rfl, -⟩ := hv.shape
  clear hb2 hv k0 k1 k20 k21 k22 k23 HC
  generalize L.length = ll at *
  go_wp2
  go_ret2
  exact ⟨HB.out, _, rfl, HV.out⟩
set_option maxRecDepth 100000 in
set_option maxHeartbeats 4000000 in
theorem tc6 (oa : Option Addr) (m ca : Nat) (ch : Nat) (ot : Nat) (t : Tr) (g0 g1 g2 g3 : Nat) (w : World) (E : Int) (L : List Pu) (k0 : w.cell? ⟨g0, 0, none⟩ = some (.slice oa m ca)) (k1 : w.cell? ⟨g1, 0, none⟩ = some (.int .i64 (ch : Int))) (k2 : w.cell? ⟨g2, 0, none⟩ = some (.int .i64 (ot : Int))) (k30 : w.cell? ⟨g3, 0, none⟩ = some (.string t.denom)) (k31 : w.cell? ⟨g3, 1, none⟩ = some (.int .u64 (t.amount : Int))) (k32 : w.cell? ⟨g3, 2, none⟩ = some (.string t.sender)) (k33 : w.cell? ⟨g3, 3, none⟩ = some (.string t.reader)) (hc : Calls Tryd.prog 25 #[.slice oa m ca, .int .i64 (ch : Int), .int .i64 (ot : Int), .agg #[.string t.denom, .int .u64 (t.amount : Int), .string t.sender, .string t.reader]] w fun e w' => Below w.heap.size w w' ∧ ∃ v, e = .returned (.tuple #[v, .int .i64 E]) ∧ Many PuR 3 w' w'.heap.size v L) :
    Calls Tryd.prog 24 #[.pointer (some ⟨g0, 0, none⟩), .pointer (some ⟨g1, 0, none⟩), .pointer (some ⟨g2, 0, none⟩), .pointer (some ⟨g3, 0, none⟩)] w fun e w' => Below w.heap.size w w' ∧ ∃ v, e = .returned (.tuple #[v, .int .i64 E]) ∧ Many PuR 3 w' w'.heap.size v L := by
  have HC := hid hc
  clear hc
  go_enter Tryd.func24, Tryd.ntmps24
  go_wp2_with fail
  refine HC.out.mono ?_
  rintro e w2 ⟨hb2, v, rfl, hv⟩
  have HB := hid hb2
  have HV := hid hv
  obtain ⟨o2, c2, rfl, -⟩ := hv.shape
  clear hb2 hv k0 k1 k2 k30 k31 k32 k33 HC
  generalize L.length = ll at *
  go_wp2
  go_ret2
  exact ⟨HB.out, _, rfl, HV.out⟩
end Go.Proofs.YtnoaohlajllngaaDoor
