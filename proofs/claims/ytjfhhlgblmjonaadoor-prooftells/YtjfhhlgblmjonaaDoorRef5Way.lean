/-
  Rows of turns that a call owns; what the document's Way answers: the turns from the root to a place.
-/
import Derived.Test.YtjfhhlgblmjonaaDoorProofMath
import Derived.Test.YtjfhhlgblmjonaaDoorRef4W
import Derived.Laws.OwnMore
import Derived.Deep.AppendLies
namespace Go.Proofs.YtjfhhlgblmjonaaDoor
open Go.RowKit

theorem info_turn : (Tryd.prog.info? 53).map (fun i => (i.zero, i.size, i.bytes)) = some (some (.agg #[.bool false, .int .i64 0, .int .i64 0]), 3, 24) := by kernel_rfl
def tnCells (t : Tn) : List Value := [.bool t.right, .int .i64 (t.frm : Int), .int .i64 (t.n : Int)]
/-- turns in a row that a call owns -/
def RowTn (w : World) (base : Nat) (v : Value) (ts : List Tn) : Prop := w.ownsRow base 53 3 v ts.length (ts.flatMap tnCells)
theorem RowTn.nil (w : World) (base : Nat) : RowTn w base (.slice none 0 0) [] := World.ownsRow_nil w base 53 3
theorem RowTn.below {w w' : World} {base : Nat} {v : Value} {ts : List Tn} (h : RowTn w base v ts) (hg : Below w.heap.size w w') : RowTn w' base v ts := ownsRow_belowP h hg
theorem RowTn.shape {w : World} {base : Nat} {v : Value} {ts : List Tn} (h : RowTn w base v ts) : ∃ oa cap, v = .slice oa ts.length cap ∧ ts.length ≤ cap := by
  obtain ⟨_, h2⟩ := h
  rcases h2 with ⟨h3, h4⟩ | ⟨g, cap, cur, h3, _, _, h4, _⟩
  · exact ⟨none, 0, by rw [h4]; exact h3, by omega⟩
  · exact ⟨_, cap, h3, h4⟩
theorem flatTn_get (ts : List Tn) : ∀ (i j : Nat) (t : Tn), ts[i]? = some t → j < 3 → (ts.flatMap tnCells)[i * 3 + j]? = (tnCells t)[j]? := by
  induction ts with
  | nil => intro i j q h; simp at h
  | cons a r ih =>
    intro i j q h hj
    rw [List.flatMap_cons]
    have ha : (tnCells a).length = 3 := rfl
    cases i with
    | zero =>
      obtain rfl : a = q := by simpa using h
      rw [Nat.zero_mul, Nat.zero_add, List.getElem?_append_left (by omega)]
    | succ i =>
      rw [List.getElem?_append_right (by omega), ha, show (i + 1) * 3 + j - 3 = i * 3 + j by omega]
      exact ih i j q (by simpa using h) hj
theorem RowTn.get {w : World} {base : Nat} {oa : Option Addr} {n cap : Nat} {ts : List Tn} (h : RowTn w base (.slice oa n cap) ts) (hn : 0 < n) : ∃ g, oa = some ⟨g, 0, none⟩ ∧ base ≤ g ∧ g < w.heap.size ∧ ∀ i t, ts[i]? = some t → w.cell? ⟨g, i * 3, none⟩ = some (.bool t.right) ∧ w.cell? ⟨g, i * 3 + 1, none⟩ = some (.int .i64 (t.frm : Int)) ∧ w.cell? ⟨g, i * 3 + 2, none⟩ = some (.int .i64 (t.n : Int)) := by
  obtain ⟨h1, h2⟩ := h
  rcases h2 with ⟨h0, h0'⟩ | ⟨g, cap', cur, hv, hb, hg, hn', _, hc, hx⟩
  · simp at h0; omega
  · simp at hv
    refine ⟨g, hv.1, hb, (Array.getElem?_eq_some_iff.1 hg).1, fun i t ht => ?_⟩
    have hil : i < ts.length := (List.getElem?_eq_some_iff.1 ht).1
    have cell : ∀ j, j < 3 → w.cell? ⟨g, i * 3 + j, none⟩ = (tnCells t)[j]? := fun j hj => by
      rw [cell_of_row w g _ cur _ _ hg, ← flatTn_get ts i j t ht hj, ← hx, List.getElem?_take, if_pos (by omega), Array.getElem?_toList]
    exact ⟨cell 0 (by omega), cell 1 (by omega), cell 2 (by omega)⟩
/-- append of one turn, in a row of its own, onto what is owned -/
theorem wpList_append_tn {ops : Array Oper} {rest : List Oper} {o : Oper} {a : Act} {W : World} {Q : Exit → Act → World → Prop} (hgd : o.guard = none) (s x : Operand)
    (ho : o.op = .call { callee := .builtin .append, args := #[s, x], argTypes := #[49, 49] })
    (base : Nat) (v : Value) (ts : List Tn) (hs : a.eval s = v) (hown : RowTn W base v ts) (t : Tn) (g : Nat)
    (hx : a.eval x = .slice (some ⟨g, 0, none⟩) 1 1) (hr : Row W g 53 (tnCells t)) (hl : ts.length ≤ 1000000) (hbase : base ≤ W.heap.size)
    (h : ∀ v' w', RowTn w' base v' (ts ++ [t]) → Below base W w' → wpList Tryd.prog ops Q rest (a.put o.dst v') w') :
    wpList Tryd.prog ops Q (o :: rest) a W := by
  obtain ⟨i0, hi0, hz0, hz1, hz2⟩ := info_parts info_turn
  refine wpList_append_own _ hgd s x 49 ho base 53 i0 _ 3 24 Tryd.underlying49 hi0 hz0 hz1 hz2 rfl (by decide) v ts.length (ts.flatMap tnCells) hs hown ⟨g, 0, none⟩ 1 1
    (tnCells t) hx rfl ?_ ?_ (by unfold maxLen; omega) (by omega) hbase ?_
  · intro j u hj
    have hadd : (⟨g, 0, none⟩ : Addr).add j = ⟨g, j, none⟩ := by unfold Addr.add; split <;> simp_all
    rw [hadd, hr.cell]
    exact hj
  · intro u hu
    simp [tnCells] at hu
    rcases hu with rfl | rfl | rfl <;> rfl
  · intro v' w' h1 h2 _
    refine h v' w' ?_ ((Below.refl base W).grown h2 hbase (fun k hk => (World.ownsRow.lt hown k hk).1))
    unfold RowTn
    rw [List.length_append, List.flatMap_append]
    simpa using h1
theorem wayL_length (n : Nat) : ∀ i a, (wayL i n a).length ≤ n := by
  induction n using Nat.strongRecOn with
  | _ n ih =>
    intro i a
    by_cases h1 : 1 < n
    · have hh := halfN_lt n h1
      by_cases hik : i < halfN n
      · rw [wayL_left i n a h1 hik, List.length_cons]
        have := ih (halfN n) (by omega) i a
        omega
      · rw [wayL_right i n a h1 hik, List.length_cons]
        have := ih (n - halfN n) (by omega) (i - halfN n) (a + halfN n)
        omega
    · rw [wayL_one i n a h1]
      exact Nat.zero_le _
set_option maxRecDepth 100000 in
set_option maxHeartbeats 2000000 in
theorem refWay_any (i n : Nat) (w : World) (hi : i < n) (hn : n ≤ 1000) :
    Calls Tryd.prog 25 #[.int .i64 (i : Int), .int .i64 (n : Int)] w fun e w' => ∃ v, e = .returned v ∧ RowTn w' w.heap.size v (wayL i n 0) ∧ Below w.heap.size w w' := by
  have HWL := hid (wayL_length n i 0)
  go_enter Tryd.func25, Tryd.ntmps25
  go_wp2_with fail
  go_loopw [0, 1, 5, 6] (fun s0 s1 s5 s6 wr => ∃ (j m a : Nat) (ts : List Tn), j < m ∧ m ≤ n ∧ a + m ≤ n ∧ s0 = .int .i64 (j : Int) ∧ s1 = .int .i64 (m : Int) ∧ s6 = .int .i64 (a : Int) ∧ Hid (RowTn wr w.heap.size s5 ts ∧ Below w.heap.size w wr ∧ wayL i n 0 = ts ++ wayL j m a)) (fun _ s1 _ _ _ => (intOf s1).toNat)
  case atStart => exact ⟨i, n, 0, [], hi, Nat.le_refl _, by omega, rfl, rfl, rfl, hid ⟨RowTn.nil _ _, Below.refl _ _, rfl⟩⟩
  case round =>
    obtain ⟨j, m, a, ts, hjm, hmn, ham, rfl, rfl, rfl, HR⟩ := hrel
    have hszr := HR.out.2.1.size
    have HTL := hid (show ts.length ≤ n by
      have h1 := HWL.out
      rw [HR.out.2.2, List.length_append] at h1
      omega)
    by_cases h1 : 1 < m
    · have hh := halfN_lt m h1
      obtain ⟨k, hk⟩ : ∃ k, halfN m = k := ⟨_, rfl⟩
      have HH := hid (refHalf_any m wr (by omega))
      have HL := hid (fun h => wayL_left j m a h1 h)
      have HRT := hid (fun h => wayL_right j m a h1 h)
      rw [hk] at HH hh HL HRT
      have e1 : decide ((1 : Int) < (m : Int)) = true := by simp; omega
      clear hk
      obtain ⟨oy, cy, rfl, hcy⟩ := HR.out.1.shape
      by_cases hjk : j < k
      · have e2 : decide ((j : Int) < (k : Int)) = true := by simp; omega
        have HEQ := hid (show wayL i n 0 = (ts ++ [⟨false, a + k, m - k⟩]) ++ wayL j k a by rw [HR.out.2.2, HL.out hjk]; simp)
        obtain ⟨w1, hw1⟩ : ∃ w1, wr.alloc (.cells #[.bool false, .int .i64 ((a : Int) + (k : Int)), .int .i64 ((m : Int) - (k : Int))] 53) = w1 := ⟨_, rfl⟩
        have hb1 : Below wr.heap.size wr w1 := by rw [← hw1]; exact (Below.refl _ _).alloc (Nat.le_refl _) _
        have HROW := hid (show Row w1 wr.heap.size 53 (tnCells ⟨false, a + k, m - k⟩) by
          rw [← hw1]
          have e : tnCells ⟨false, a + k, m - k⟩ = [.bool false, .int .i64 ((a : Int) + (k : Int)), .int .i64 ((m : Int) - (k : Int))] := by
            simp only [tnCells]
            rw [show ((a + k : Nat) : Int) = (a : Int) + (k : Int) by omega, show ((m - k : Nat) : Int) = (m : Int) - (k : Int) by omega]
          rw [e]
          exact Row.new _ _ _)
        have HO1 := hid (HR.out.1.below hb1)
        have HB1 := hid (HR.out.2.1.trans (hb1.mono hszr))
        have HW1 := hid hw1
        have HSZ1 := hid HB1.out.size
        clear hb1 hw1
        go_wp2_with fail
        refine HH.out.mono ?_
        rintro e w' ⟨rfl, hw'⟩
        obtain rfl := hw'.symm
        go_wp2_with (at_builtin; rw [HW1.out]; refine wpList_append_tn rfl (.tmp 15) (.tmp 23) rfl w.heap.size _ ts rfl HO1.out ⟨false, a + k, m - k⟩ wr.heap.size rfl HROW.out (by have := HTL.out; omega) HSZ1.out ?_; intro v' w2 g1 g2; have G1 := hid g1; have G2 := hid (HB1.out.trans g2); clear g1 g2)
        go_roundw
        case rel => exact ⟨j, k, a, ts ++ [⟨false, a + k, m - k⟩], hjk, by omega, by omega, rfl, rfl, rfl, hid ⟨G1.out, G2.out, HEQ.out⟩⟩
        case measure => simp [intOf]; omega
      · have e2 : decide ((j : Int) < (k : Int)) = false := by simp; omega
        have HEQ := hid (show wayL i n 0 = (ts ++ [⟨true, a, k⟩]) ++ wayL (j - k) (m - k) (a + k) by rw [HR.out.2.2, HRT.out hjk]; simp)
        obtain ⟨w1, hw1⟩ : ∃ w1, wr.alloc (.cells #[.bool true, .int .i64 (a : Int), .int .i64 (k : Int)] 53) = w1 := ⟨_, rfl⟩
        have hb1 : Below wr.heap.size wr w1 := by rw [← hw1]; exact (Below.refl _ _).alloc (Nat.le_refl _) _
        have HROW := hid (show Row w1 wr.heap.size 53 (tnCells ⟨true, a, k⟩) by rw [← hw1]; exact Row.new _ _ _)
        have HO1 := hid (HR.out.1.below hb1)
        have HB1 := hid (HR.out.2.1.trans (hb1.mono hszr))
        have HW1 := hid hw1
        have HSZ1 := hid HB1.out.size
        clear hb1 hw1
        go_wp2_with fail
        refine HH.out.mono ?_
        rintro e w' ⟨rfl, hw'⟩
        obtain rfl := hw'.symm
        go_wp2_with (at_builtin; rw [HW1.out]; refine wpList_append_tn rfl (.tmp 26) (.tmp 30) rfl w.heap.size _ ts rfl HO1.out ⟨true, a, k⟩ wr.heap.size rfl HROW.out (by have := HTL.out; omega) HSZ1.out ?_; intro v' w2 g1 g2; have G1 := hid g1; have G2 := hid (HB1.out.trans g2); clear g1 g2)
        go_roundw
        case rel => exact ⟨j - k, m - k, a + k, ts ++ [⟨true, a, k⟩], by omega, by omega, by omega, by go_num, by go_num, by go_num, hid ⟨G1.out, G2.out, HEQ.out⟩⟩
        case measure => simp [intOf]; omega
    · have e1 : decide ((1 : Int) < (m : Int)) = false := by simp; omega
      have HEQ := hid (show wayL i n 0 = ts by rw [HR.out.2.2, wayL_one j m a h1, List.append_nil])
      go_wp2
      go_ret
      exact ⟨_, rfl, by rw [HEQ.out]; exact HR.out.1, HR.out.2.1⟩
end Go.Proofs.YtjfhhlgblmjonaaDoor
