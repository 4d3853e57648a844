/-
  What the document's Read answers: the pieces whose bytes were handed in, their bytes within these; or which error.
-/
import Derived.Test.YtnoaohlajllngaaDoortlWireBoth
import Derived.Test.YtnoaohlajllngaaDoortlMemB
namespace Go.Proofs.YtnoaohlajllngaaDoor
open Go.RowKit

theorem drop_consT (l : List (BitVec 8)) (k : Nat) (h : k < l.length) : l.drop k = l.getD k 0 :: l.drop (k + 1) := by
  rw [List.drop_eq_getElem_cons h]; simp [h]
theorem wrap64T (n : Nat) (h : n < 18446744073709551616) : IntKind.u64.wrap (n : Int) = (n : Int) := by
  simp [IntKind.wrap, IntKind.bits, IntKind.signed]; omega
theorem low_lt (m k : Nat) (x : BitVec 8) (hk : k ≤ 9) (hm : m < 128 ^ k) (h9 : k = 9 → x.toNat ≤ 1) : m + x.toNat % 128 * 128 ^ k < 18446744073709551616 := by
  have hlt : x.toNat % 128 * 128 ^ k + 128 ^ k ≤ 18446744073709551616 := by
    rw [← Nat.succ_mul]
    by_cases h : k = 9
    · have := h9 h
      subst h
      have h2 : (x.toNat % 128).succ ≤ 2 := by omega
      exact Nat.le_trans (Nat.mul_le_mul_right _ h2) (by decide)
    · have h8 : 128 ^ k ≤ 128 ^ 8 := Nat.pow_le_pow_right (by omega) (by omega)
      exact Nat.le_trans (Nat.mul_le_mul (show (x.toNat % 128).succ ≤ 128 by omega) h8) (by decide)
  omega
set_option maxRecDepth 100000 in
set_option maxHeartbeats 2000000 in
theorem refTake_any (l : List (BitVec 8)) (sv : Value) (N : Nat) (w : World) (hb : Bytes w N sv l) (hlen : l.length < 2305843009213693952) :
    Calls Tryd.prog 63 #[sv] w fun e w' => w' = w ∧
      ((cutN l = none ∧ e = .returned (.tuple #[.int .u64 0, .int .i64 0])) ∨
       ∃ (m k : Nat), cutN l = some (m, l.drop k) ∧ 0 < k ∧ k ≤ l.length ∧ e = .returned (.tuple #[.int .u64 (m : Int), .int .i64 (k : Int)])) := by
  obtain ⟨oa, ca, rfl, hca⟩ := hb.shape
  have HB := hid hb
  clear hb
  generalize hn : l.length = n at *
  have HN := hid hn
  clear hn
  go_enter Tryd.func63, Tryd.ntmps63
  go_wp2_with fail
  go_loopw [4, 5, 6] (fun y u i wr => ∃ k m : Nat, k ≤ n ∧ k ≤ 9 ∧ m < 128 ^ k ∧ y = .int .u64 (m : Int) ∧ u = .int .u64 ((128 ^ k : Nat) : Int) ∧ i = .int .i64 (k : Int) ∧ wr = w ∧ Hid (cutN l = cutA k m (l.drop k))) (fun _ _ i _ => n - (intOf i).toNat)
  case atStart => exact ⟨0, 0, by omega, by omega, by simp, rfl, rfl, rfl, rfl, rfl⟩
  case round =>
    obtain ⟨k, m, hk, hk9, hm, rfl, rfl, rfl, rfl, HC⟩ := hrel
    have hk10 : decide ((k : Int) < 10) = true := by simp; omega
    by_cases hlt : k < n
    · have h1 : Bytes wr N (.slice oa l.length ca) l := by rw [HN.out]; exact HB.out
      obtain ⟨b, o, rfl, c1⟩ := h1.some (by rw [HN.out]; omega)
      have d1 := (c1 k (by rw [HN.out]; exact hlt)).2
      obtain ⟨x, hx⟩ : ∃ x, l.getD k 0 = x := ⟨_, rfl⟩
      rw [hx] at d1
      have HD := hid (show l.drop k = x :: l.drop (k + 1) by rw [← hx]; exact drop_consT l k (by rw [HN.out]; exact hlt))
      clear h1 c1 hx
      have hlt' : decide ((k : Int) < (n : Int)) = true := by simp; omega
      have hlt2 : (k : Int) < (n : Int) := by omega
      have hx8 := x.isLt
      have HM := hid hm
      clear hm
      by_cases h9 : k = 9 ∧ 1 < x.toNat
      · obtain ⟨rfl, hx1⟩ := h9
        have e2 : decide ((1 : Int) < b8 x) = true := by unfold b8; simp; omega
        go_wp2_with fail
        go_ret2
        exact ⟨rfl, .inl ⟨by rw [HC.out, HD.out, cutA, if_pos ⟨rfl, hx1⟩], rfl⟩⟩
      · have HC' := hid (show cutN l = if 128 ≤ x.toNat then cutA (k + 1) (m + x.toNat % 128 * 128 ^ k) (l.drop (k + 1)) else if x.toNat = 0 ∧ 0 < k then none else some (m + x.toNat % 128 * 128 ^ k, l.drop (k + 1)) by
          rw [HC.out, HD.out, cutA, if_neg h9])
        obtain ⟨u, hu⟩ : ∃ u, 128 ^ k = u := ⟨_, rfl⟩
        have hm64 := low_lt m k x hk9 HM.out (fun h => by omega)
        rw [hu] at HC' hm64 ⊢
        have HU := hid hu
        clear hu HC
        by_cases h0 : x.toNat = 0 ∧ 0 < k
        · have e3 : (b8 x == 0) = true := by unfold b8; simp; omega
          have e5 : decide ((1 : Int) < b8 x) = false := by unfold b8; simp; omega
          have HR := hid (show cutN l = none by rw [HC'.out, if_neg (by omega), if_pos h0])
          by_cases hk' : k = 9
          · subst hk'
            go_wp2_with fail
            go_ret2
            exact ⟨rfl, .inl ⟨HR.out, rfl⟩⟩
          · have e1 : ((k : Int) == 9) = false := by simp; omega
            have e4 : decide ((0 : Int) < (k : Int)) = true := by simp; omega
            have e4' : 0 < k := h0.2
            clear h0 h9 hk'
            go_wp2_with fail
            go_ret2
            exact ⟨rfl, .inl ⟨HR.out, rfl⟩⟩
        · obtain ⟨m', hm'⟩ : ∃ m', m + x.toNat % 128 * u = m' := ⟨_, rfl⟩
          have hval : IntKind.u64.wrap ((m : Int) + IntKind.u64.wrap (IntKind.u64.wrap ((b8 x).tmod 128) * (u : Int))) = (m' : Int) := by
            have t1 : (b8 x).tmod 128 = ((x.toNat % 128 : Nat) : Int) := by unfold b8; rw [Int.tmod_eq_emod_of_nonneg (by omega)]; omega
            obtain ⟨y, hy⟩ : ∃ y, x.toNat % 128 * u = y := ⟨_, rfl⟩
            rw [hy] at hm' hm64
            rw [t1, wrap64T _ (by omega), ← Int.natCast_mul, hy, wrap64T _ (by omega), ← Int.natCast_add, wrap64T _ (by omega), hm']
          rw [hm'] at HC' hm64
          have HM' := hid hm'
          clear hm'
          by_cases h7 : 128 ≤ x.toNat
          · have e1 : ((k : Int) == 9) = false := by simp; omega
            have e2 : decide (b8 x < (128 : Int)) = false := by unfold b8; simp; omega
            have e3 : (b8 x == 0) = false := by unfold b8; simp; omega
            have hu8 : u * 128 < 18446744073709551616 := by
              rw [← HU.out]
              have h8 : 128 ^ k ≤ 128 ^ 8 := Nat.pow_le_pow_right (by omega) (by omega)
              have := Nat.mul_le_mul_right 128 h8
              simp at this; omega
            have huv : IntKind.u64.wrap ((u : Int) * 128) = ((u * 128 : Nat) : Int) := by rw [show (u : Int) * 128 = ((u * 128 : Nat) : Int) by omega, wrap64T _ hu8]
            obtain ⟨u2, hu2⟩ : ∃ u2, u * 128 = u2 := ⟨_, rfl⟩
            rw [hu2] at huv
            have HU2 := hid hu2
            clear hu2
            have HREL := hid (show m' < 128 ^ (k + 1) ∧ u2 = 128 ^ (k + 1) by
              rw [Nat.pow_succ, HU.out, ← HU2.out, ← HM'.out]
              have h1 := HM.out
              rw [HU.out] at h1
              have : x.toNat % 128 * u + u ≤ 128 * u := by rw [← Nat.succ_mul]; exact Nat.mul_le_mul_right _ (by omega)
              exact ⟨by omega, rfl⟩)
            have HC2 := hid (show cutN l = cutA (k + 1) m' (l.drop (k + 1)) by rw [HC'.out, if_pos h7])
            go_wp2_with fail
            all_goals exact ⟨⟨k + 1, m', by omega, by omega, HREL.out.1, rfl, by rw [HREL.out.2], by go_num, trivial, HC2⟩, by simp [intOf]; omega⟩
          · have e2 : decide (b8 x < (128 : Int)) = true := by unfold b8; simp; omega
            have HC2 := hid (show cutN l = some (m', l.drop (k + 1)) by rw [HC'.out, if_neg h7, if_neg h0])
            by_cases hk' : k = 9
            · subst hk'
              have e5 : decide ((1 : Int) < b8 x) = false := by unfold b8; simp; omega
              have e3 : (b8 x == 0) = false := by unfold b8; simp; omega
              go_wp2_with fail
              go_ret2
              exact ⟨rfl, .inr ⟨m', 10, HC2.out, by omega, by omega, rfl⟩⟩
            · have e1 : ((k : Int) == 9) = false := by simp; omega
              have e4 : (decide ((0 : Int) < (k : Int)) && (b8 x == 0)) = false := by unfold b8; simp; omega
              by_cases hk0 : k = 0
              · subst hk0
                have d1' : wr.cell? ⟨b, o, none⟩ = some (.int .u8 (b8 x)) := by simpa using d1
                go_wp2_with fail
                go_ret2
                exact ⟨rfl, .inr ⟨m', 1, HC2.out, by omega, by omega, rfl⟩⟩
              · have e6 : decide ((0 : Int) < (k : Int)) = true := by simp; omega
                have e3 : (b8 x == 0) = false := by unfold b8; simp; omega
                have e6' : 0 < k := by omega
                clear hk0 hk'
                go_wp2_with fail
                go_ret2
                exact ⟨rfl, .inr ⟨m', k + 1, HC2.out, by omega, by omega, by go_num⟩⟩
    · have hge : decide ((k : Int) < (n : Int)) = false := by simp; omega
      go_wp2_with fail
      go_ret2
      exact ⟨rfl, .inl ⟨by rw [HC.out, List.drop_eq_nil_of_le (by rw [HN.out]; omega), cutA], rfl⟩⟩
end Go.Proofs.YtnoaohlajllngaaDoor
namespace Go.Proofs.YtnoaohlajllngaaDoor
open Go.RowKit

def RowP (w : World) (base : Nat) (v : Value) (ps : List (Pc × Value)) : Prop := w.ownsRow base 54 3 v ps.length (ps.flatMap pcCells)
theorem RowP.shape {w : World} {base : Nat} {v : Value} {ps : List (Pc × Value)} (h : RowP w base v ps) : ∃ oa cap, v = .slice oa ps.length cap ∧ ps.length ≤ cap := by
  obtain ⟨_, h2⟩ := h
  rcases h2 with ⟨h3, h4⟩ | ⟨g, cap, cur, h3, _, _, h4, _⟩
  · exact ⟨none, 0, by rw [h4]; exact h3, by omega⟩
  · exact ⟨_, cap, h3, h4⟩
theorem RowP.pieces {w : World} {base : Nat} {v : Value} {ps : List (Pc × Value)} (h : RowP w base v ps) (hb : ∀ q ∈ ps, Bytes w w.heap.size q.2 q.1.b) : Pieces w w.heap.size v (ps.map (·.1)) := by
  obtain ⟨h1, h2⟩ := h
  rcases h2 with ⟨rfl, h0⟩ | ⟨g, cap, cur, rfl, _, hg, hn, _, hc, hx⟩
  · exact .inl ⟨rfl, by rw [List.length_eq_zero_iff.1 h0]; rfl⟩
  · refine .inr (.inr ⟨g, 0, cap, by simp, by simpa using hn, fun i p hp => ?_⟩)
    obtain ⟨q, hq, rfl⟩ : ∃ q, ps[i]? = some q ∧ q.1 = p := by simpa using hp
    refine ⟨(Array.getElem?_eq_some_iff.1 hg).1, q.2, ?_⟩
    have hil : i < ps.length := (List.getElem?_eq_some_iff.1 hq).1
    have cell : ∀ j, j < 3 → w.cell? ⟨g, 0 + i * 3 + j, none⟩ = (pcCells q)[j]? := fun j hj => by
      rw [cell_of_row w g _ cur _ _ hg, ← flat_get ps i j q hq hj, ← hx, List.getElem?_take, if_pos (by omega), Nat.zero_add, Array.getElem?_toList]
    exact ⟨cell 0 (by omega), cell 1 (by omega), cell 2 (by omega), hb q (List.mem_of_getElem? hq)⟩
/-- append of one piece, in a row of its own, onto what is owned -/
theorem wpList_append_rowP {ops : Array Oper} {rest : List Oper} {o : Oper} {a : Act} {wr : World} {Q : Exit → Act → World → Prop} (hgd : o.guard = none) (s x : Operand)
    (ho : o.op = .call { callee := .builtin .append, args := #[s, x], argTypes := #[49, 49] })
    (base : Nat) (v : Value) (ps : List (Pc × Value)) (hs : a.eval s = v) (hown : RowP wr base v ps) (p : Pc) (ob : Option Addr) (nb cb : Nat)
    (hx : a.eval x = .slice (some ⟨wr.heap.size, 0, none⟩) 1 1) (hl : ps.length ≤ 1000000) (hbase : base ≤ wr.heap.size)
    (h : ∀ v' w', RowP w' base v' (ps ++ [(p, .slice ob nb cb)]) → Below base wr w' → wpList Tryd.prog ops Q rest (a.put o.dst v') w') :
    wpList Tryd.prog ops Q (o :: rest) a (wr.alloc (.cells #[.int .i64 p.k, .int .u64 (p.n : Int), .slice ob nb cb] 54)) := by
  obtain ⟨i0, hi0, hz0, hz1, hz2⟩ := info_parts info_piece
  have hbe : Below wr.heap.size wr (wr.alloc (.cells #[.int .i64 p.k, .int .u64 (p.n : Int), .slice ob nb cb] 54)) := (Below.refl _ _).alloc (Nat.le_refl _) _
  refine wpList_append_own _ hgd s x 49 ho base 54 i0 _ 3 40 Tryd.underlying49 hi0 hz0 hz1 hz2 rfl (by decide) v ps.length (ps.flatMap pcCells) hs (ownsRow_below hown hbe) ⟨wr.heap.size, 0, none⟩ 1 1
    [.int .i64 p.k, .int .u64 (p.n : Int), .slice ob nb cb] hx rfl (cells_new _ _ _) (by simp [Value.oneCell']) (by unfold maxLen; omega) (by omega) (Nat.le_trans hbase hbe.size) ?_
  intro v' w' h1 h2 _
  refine h v' w' ?_ ((hbe.mono hbase).trans ((Below.refl base _).grown h2 (Nat.le_trans hbase hbe.size) (fun k hk => ((ownsRow_below hown hbe).lt k hk).1)))
  unfold RowP
  rw [List.length_append, List.flatMap_append]
  exact h1
theorem cutP_at (b : List (BitVec 8)) (k : Nat) (h : k < b.length) : b.drop k = b.getD k 0 :: b.drop (k + 1) := drop_consT b k h

set_option maxRecDepth 100000 in
set_option maxHeartbeats 4000000 in
theorem refRead_any (b : List (BitVec 8)) (sv : Value) (N : Nat) (w : World) (hb : Bytes w N sv b) (hN : N ≤ w.heap.size) (hlen : b.length ≤ 140737488355328) :
    Calls Tryd.prog 39 #[sv] w fun e w' => Below w.heap.size w w' ∧
      ((∃ m v, rdAll b = .ok m ∧ e = .returned (.tuple #[v, .int .i64 0]) ∧ Pieces w' w'.heap.size v m) ∨
       ∃ c, rdAll b = .error c ∧ e = .returned (.tuple #[.slice none 0 0, .int .i64 c])) := by
  obtain ⟨oa, ca, rfl, hca⟩ := hb.shape
  have HB := hid hb
  clear hb
  generalize hn : b.length = n at *
  have HN := hid hn
  clear hn
  by_cases hmuch : 20000 < n
  · have e1 : decide ((20000 : Int) < (n : Int)) = true := by simp; omega
    go_enter Tryd.func39, Tryd.ntmps39
    go_wp2
    go_ret2
    exact ⟨Below.refl _ _, .inr ⟨4, rdAll_much b (by rw [HN.out]; exact hmuch), rfl⟩⟩
  · have e1 : decide ((20000 : Int) < (n : Int)) = false := by simp; omega
    have HM := hid (show ¬ 20000 < b.length by rw [HN.out]; exact hmuch)
    have HC := hid (refTake_any b _ N w HB.out (by rw [HN.out]; omega))
    go_enter Tryd.func39, Tryd.ntmps39
    go_wp2_with fail
    refine HC.out.mono ?_
    rintro e w1 ⟨hw1, ⟨hc, rfl⟩ | ⟨c, j, hc, hj0, hj, rfl⟩⟩
    · obtain rfl := hw1.symm
      go_wp2
      go_ret2
      exact ⟨Below.refl _ _, .inr ⟨2, rdAll_none b HM.out hc, rfl⟩⟩
    · obtain rfl := hw1.symm
      rw [HN.out] at hj
      have HCN := hid hc
      have hc64 := (cutN_some hc).2
      have ej : ((j : Int) == 0) = false := by simp; omega
      clear hc
      by_cases hmany : 200 < c
      · have e2 : decide ((200 : Int) < (c : Int)) = true := by simp; omega
        go_wp2
        go_ret2
        exact ⟨Below.refl _ _, .inr ⟨2, rdAll_many b _ c HM.out HCN.out hmany, rfl⟩⟩
      · have e2 : decide ((200 : Int) < (c : Int)) = false := by simp; omega
        have HGO := hid (rdAll_go b _ c HM.out HCN.out hmany)
        go_wp2_with fail
        go_loopw [5, 6, 7] (fun y z i wr => ∃ (k t : Nat) (ps : List (Pc × Value)), k ≤ c ∧ ps.length = k ∧ t ≤ n ∧ y = .int .i64 (t : Int) ∧ i = .int .u64 (k : Int) ∧ Hid ((∀ q ∈ ps, Bytes w N q.2 q.1.b) ∧ RowP wr w.heap.size z ps ∧ Below w.heap.size w wr ∧ rdGo c [] (b.drop j) = rdGo (c - k) (ps.map (·.1)) (b.drop t))) (fun _ _ i _ => c - (intOf i).toNat)
        case atStart => exact ⟨0, j, [], by omega, rfl, by omega, rfl, rfl, fun q hq => by simp at hq, World.ownsRow_nil _ _ _ _, Below.refl _ _, rfl⟩
        case round =>
          obtain ⟨k, t, ps, hk, hps, ht, rfl, rfl, HR⟩ := hrel
          have HPL := hid (show ps.length ≤ 1000000 by omega)
          have HPS := hid hps
          clear hps
          obtain ⟨oz, cz, rfl, hcz⟩ := HR.out.2.1.shape
          have hszr := HR.out.2.2.1.size
          by_cases hlt : k < c
          · have hlt' : (k : Int) < (c : Int) := by omega
            by_cases hat : t < n
            · have e3 : decide ((n : Int) ≤ (t : Int)) = false := by simp; omega
              have h1 : Bytes w N (.slice oa b.length ca) b := by rw [HN.out]; exact HB.out
              obtain ⟨bb, o, rfl, c1⟩ := h1.some (by rw [HN.out]; omega)
              have hd := c1 t (by rw [HN.out]; exact hat)
              obtain ⟨x, hx⟩ : ∃ x, b.getD t 0 = x := ⟨_, rfl⟩
              rw [hx] at hd
              have d1 := (HR.out.2.2.1.cell (p := ⟨bb, o + t, none⟩) (by show bb < w.heap.size; omega)).trans hd.2
              have HD := hid (show b.drop t = x :: b.drop (t + 1) by rw [← hx]; exact cutP_at b t (by rw [HN.out]; exact hat))
              clear h1 c1 hx hd
              have hx8 := x.isLt
              have hat' : (t : Int) < (n : Int) := by omega
              by_cases hfar : 1 < x.toNat
              · have e4 : decide ((1 : Int) < b8 x) = true := by unfold b8; simp; omega
                go_wp2
                go_ret2
                exact ⟨HR.out.2.2.1, .inr ⟨2, by rw [HGO.out, HR.out.2.2.2, rdGo_none _ _ _ (by omega) (by rw [HD.out]; exact cutP_far x _ hfar)], rfl⟩⟩
              · have e4 : decide ((1 : Int) < b8 x) = false := by unfold b8; simp; omega
                obtain ⟨vt, hsl, hvt⟩ := slice_from HB.out .i64 (t + 1) (by omega)
                rw [show ((t + 1 : Nat) : Int) = (t : Int) + 1 by omega] at hsl
                have hkw : IntKind.i64.wrap ((t : Int) + 1) = (t : Int) + 1 := by simp [IntKind.wrap, IntKind.bits, IntKind.signed]; split <;> omega
                have HT := hid (refTake_any (b.drop (t + 1)) vt N wr (hvt.below (HR.out.2.2.1.mono hN)) (by rw [List.length_drop, HN.out]; omega))
                have ht1 : (t : Int) + 1 ≤ (n : Int) := by omega
                clear hvt
                go_wp2_with fail
                refine HT.out.mono ?_
                rintro e w2 ⟨hw2, ⟨hc2, rfl⟩ | ⟨v, i, hc2, hi0, hi, rfl⟩⟩
                · obtain rfl := hw2.symm
                  go_wp2
                  go_ret2
                  exact ⟨HR.out.2.2.1, .inr ⟨2, by rw [HGO.out, HR.out.2.2.2, rdGo_none _ _ _ (by omega) (by rw [HD.out]; exact cutP_none x _ hc2)], rfl⟩⟩
                · obtain rfl := hw2.symm
                  rw [List.length_drop, HN.out] at hi
                  have ei : ((i : Int) == 0) = false := by simp; omega
                  obtain ⟨t', ht'⟩ : ∃ t', t + 1 + i = t' := ⟨_, rfl⟩
                  have hs' : (t : Int) + 1 + (i : Int) = (t' : Int) := by omega
                  have ht'n : t' ≤ n := by omega
                  have hdd : (b.drop (t + 1)).drop i = b.drop t' := by rw [List.drop_drop, ht']
                  rw [hdd] at hc2
                  have hv64 := (cutN_some hc2).2
                  have HC2 := hid hc2
                  have HT' := hid ht'
                  clear hc2 hdd ht'
                  by_cases hx1 : x.toNat = 0
                  · have e5 : (b8 x == 0) = true := by unfold b8; simp; omega
                    have HCP := hid (show cutP (b.drop t) = some (⟨1, v, []⟩, b.drop t') by rw [HD.out]; exact cutP_num x _ _ v hx1 HC2.out)
                    clear hx1
                    go_wp2_with (at_builtin; refine wpList_append_rowP rfl (.tmp 61) (.tmp 64) rfl w.heap.size _ ps rfl HR.out.2.1 ⟨1, v, []⟩ none 0 0 rfl HPL.out hszr ?_; intro v' w4 hown4 hb4)
                    go_roundw
                    case rel =>
                      refine ⟨k + 1, t', ps ++ [(⟨1, v, []⟩, .slice none 0 0)], by omega, by simp [HPS.out], ht'n, by go_num, by go_num, ?_, hown4, HR.out.2.2.1.trans hb4, ?_⟩
                      · intro q hq
                        rcases List.mem_append.1 hq with hq | hq
                        · exact HR.out.1 q hq
                        · obtain rfl : q = (⟨1, v, []⟩, .slice none 0 0) := by simpa using hq
                          exact .inl ⟨rfl, rfl⟩
                      · rw [HR.out.2.2.2, rdGo_step (c - k) (c - (k + 1)) _ _ _ _ (by omega) HCP.out]
                        simp
                    case measure => simp [intOf]; omega
                  · have e5 : (b8 x == 0) = false := by unfold b8; simp; omega
                    have HCP := hid (show cutP (b.drop t) = if (b.drop t').length < v then none else some (⟨2, 0, (b.drop t').take v⟩, (b.drop t').drop v) by rw [HD.out]; exact cutP_bytes x _ _ v (by omega) HC2.out)
                    obtain ⟨r, hr⟩ : ∃ r, n - t' = r := ⟨_, rfl⟩
                    have hrl : (b.drop t').length = r := by rw [List.length_drop, HN.out]; exact hr
                    rw [hrl] at HCP
                    have hsub : IntKind.u64.wrap ((n : Int) - (t' : Int)) = (r : Int) := by rw [show (n : Int) - (t' : Int) = (r : Int) by omega]; exact wrap64T _ (by omega)
                    have HRL := hid (show r + t' = n by omega)
                    have HRR := hid hrl
                    clear hx1 hr hrl
                    by_cases hgt : r < v
                    · have e6 : decide ((r : Int) < (v : Int)) = true := by simp; omega
                      go_wp2
                      go_ret2
                      exact ⟨HR.out.2.2.1, .inr ⟨2, by rw [HGO.out, HR.out.2.2.2, rdGo_none _ _ _ (by omega) (by rw [HCP.out, if_pos hgt])], rfl⟩⟩
                    · have e6 : decide ((r : Int) < (v : Int)) = false := by simp; omega
                      obtain ⟨t2, ht2⟩ : ∃ t2, t' + v = t2 := ⟨_, rfl⟩
                      have ht2n : t2 ≤ n := by have := HRL.out; omega
                      have hs2 : (t' : Int) + (v : Int) = (t2 : Int) := by omega
                      have hvw : IntKind.i64.wrap (v : Int) = (v : Int) := by have := HRL.out; simp [IntKind.wrap, IntKind.bits, IntKind.signed]; split <;> omega
                      obtain ⟨vs, hsl2, hvs⟩ := slice_lh HB.out .i64 .i64 t' t2 (by omega) ht2n
                      rw [show t2 - t' = v by omega] at hvs
                      obtain ⟨os, cs, rfl, hcs⟩ := hvs.shape
                      obtain ⟨q, hq⟩ : ∃ q, (b.drop t').take v = q := ⟨_, rfl⟩
                      rw [hq] at hvs hsl2
                      have HCP2 := hid (show cutP (b.drop t) = some (⟨2, 0, q⟩, b.drop t2) by rw [HCP.out, if_neg hgt, hq, List.drop_drop, ht2])
                      have HVS := hid hvs
                      clear hvs hq hcs ht2
                      go_wp2_with (at_builtin; refine wpList_append_rowP rfl (.tmp 73) (.tmp 82) rfl w.heap.size _ ps rfl HR.out.2.1 ⟨2, 0, q⟩ os q.length cs rfl HPL.out hszr ?_; intro v' w4 hown4 hb4)
                      go_roundw
                      case rel =>
                        refine ⟨k + 1, t2, ps ++ [(⟨2, 0, q⟩, .slice os q.length cs)], by omega, by simp [HPS.out], ht2n, by go_num, by go_num, ?_, hown4, HR.out.2.2.1.trans hb4, ?_⟩
                        · intro q' hq
                          rcases List.mem_append.1 hq with hq | hq
                          · exact HR.out.1 q' hq
                          · obtain rfl : q' = (⟨2, 0, q⟩, .slice os q.length cs) := by simpa using hq
                            exact HVS.out
                        · rw [HR.out.2.2.2, rdGo_step (c - k) (c - (k + 1)) _ _ _ _ (by omega) HCP2.out]
                          simp
                      case measure => simp [intOf]; omega
            · have e3 : decide ((n : Int) ≤ (t : Int)) = true := by simp; omega
              go_wp2
              go_ret2
              exact ⟨HR.out.2.2.1, .inr ⟨2, by rw [HGO.out, HR.out.2.2.2, rdGo_none _ _ _ (by omega) (by rw [List.drop_eq_nil_of_le (by rw [HN.out]; omega)]; rfl)], rfl⟩⟩
          · have hge : decide ((k : Int) < (c : Int)) = false := by simp; omega
            have hkc : c - k = 0 := by omega
            have HGO2 := hid (show rdGo c [] (b.drop j) = if (b.drop t).length = 0 then some (ps.map (·.1)) else none by rw [HR.out.2.2.2, hkc, rdGo_zero])
            by_cases ht0 : t = n
            · have e3 : ((t : Int) != (n : Int)) = false := by simp; omega
              have HPP := hid (HR.out.2.1.pieces (fun q hq => ((HR.out.1 q hq).below (HR.out.2.2.1.mono hN)).mono (by omega)))
              have HOK := hid (show rdAll b = .ok (ps.map (·.1)) by rw [HGO.out, HGO2.out, if_pos (by rw [List.length_drop, HN.out]; omega)])
              clear ht0
              go_wp2
              go_ret2
              exact ⟨HR.out.2.2.1, .inl ⟨_, _, HOK.out, rfl, HPP.out⟩⟩
            · have e3 : ((t : Int) != (n : Int)) = true := by simp; omega
              go_wp2
              go_ret2
              exact ⟨HR.out.2.2.1, .inr ⟨2, by rw [HGO.out, HGO2.out, if_neg (by rw [List.length_drop, HN.out]; omega)], rfl⟩⟩
end Go.Proofs.YtnoaohlajllngaaDoor
