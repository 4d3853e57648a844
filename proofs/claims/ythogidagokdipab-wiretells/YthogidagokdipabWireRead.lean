/-
  What Read answers: the pieces whose bytes were handed in, in new memory; or which error.
-/
import Derived.Test.YthogidagokdipabWirePiece
import Derived.Test.YthogidagokdipabPiecesMem
namespace Go.Proofs.Ythogidagokdipab
open Go.RowKit

theorem info_piece : (Try.prog.info? 38).map (fun i => (i.zero, i.size, i.bytes)) = some (some (.agg #[.int .i64 0, .int .u64 0, .slice none 0 0]), 3, 40) := by kernel_rfl
/-- a piece's cells -/
def pcCells (q : Pc × Value) : List Value := [.int .i64 q.1.k, .int .u64 (q.1.n : Int), q.2]
/-- pieces that a call owns: their row, and each one's bytes -/
def OwnP (w : World) (base : Nat) (v : Value) (ps : List (Pc × Value)) : Prop :=
  w.ownsRow base 38 3 v ps.length (ps.flatMap pcCells) ∧ ∀ q ∈ ps, OwnB w base q.2 q.1.b
theorem OwnP.nil (w : World) (base : Nat) : OwnP w base (.slice none 0 0) [] := ⟨World.ownsRow_nil w base 38 3, fun _ h => by simp at h⟩
theorem ownsRow_below {w w' : World} {base e size n : Nat} {v : Value} {xs : List Value} (h : w.ownsRow base e size v n xs) (hg : Below w.heap.size w w') : w'.ownsRow base e size v n xs := by
  obtain ⟨h1, h2⟩ := h
  refine ⟨h1, ?_⟩
  rcases h2 with h2 | ⟨g, cap, cur, h3, h4, h5, h6⟩
  · exact .inl h2
  · exact .inr ⟨g, cap, cur, h3, h4, (hg.block g (Array.getElem?_eq_some_iff.1 h5).1).trans h5, h6⟩
theorem OwnB.below {w w' : World} {base : Nat} {v : Value} {l : List (BitVec 8)} (h : OwnB w base v l) (hg : Below w.heap.size w w') : OwnB w' base v l := ownsRow_below h hg
theorem OwnP.below {w w' : World} {base : Nat} {v : Value} {ps : List (Pc × Value)} (h : OwnP w base v ps) (hg : Below w.heap.size w w') : OwnP w' base v ps :=
  ⟨ownsRow_below h.1 hg, fun q hq => (h.2 q hq).below hg⟩
theorem OwnP.shape {w : World} {base : Nat} {v : Value} {ps : List (Pc × Value)} (h : OwnP w base v ps) : ∃ oa cap, v = .slice oa ps.length cap ∧ ps.length ≤ cap := by
  obtain ⟨⟨_, h2⟩, _⟩ := h
  rcases h2 with ⟨h3, h4⟩ | ⟨g, cap, cur, h3, _, _, h4, _⟩
  · exact ⟨none, 0, by rw [h4]; exact h3, by omega⟩
  · exact ⟨_, cap, h3, h4⟩
/-- a row of pieces that grows turns no bytes -/
theorem OwnB.grown {w w' : World} {base base' n : Nat} {v vb : Value} {l : List (BitVec 8)} {xs : List Value} (h : OwnB w base vb l) (hv : w.ownsRow base' 38 3 v n xs) (hg : w.grownBy w' v.ownBlock) : OwnB w' base vb l := by
  obtain ⟨h1, h2⟩ := h
  refine ⟨h1, ?_⟩
  rcases h2 with h2 | ⟨g, cap, cur, h3, h4, h5, h6⟩
  · exact .inl h2
  · refine .inr ⟨g, cap, cur, h3, h4, ?_, h6⟩
    rw [hg.block g (Array.getElem?_eq_some_iff.1 h5).1 ?_, h5]
    intro he
    obtain ⟨_, h7⟩ := hv
    rcases h7 with ⟨rfl, _⟩ | ⟨g', c', cur', rfl, _, hg', _⟩
    · simp [Value.ownBlock] at he
    · obtain rfl : g = g' := by simpa [Value.ownBlock] using he
      rw [hg'] at h5
      simp at h5
/-- append of one piece, in a row of its own, onto what is owned -/
theorem wpList_append_piece {ops : Array Oper} {rest : List Oper} {o : Oper} {a : Act} {wr : World} {Q : Exit → Act → World → Prop} (hgd : o.guard = none) (s x : Operand)
    (ho : o.op = .call { callee := .builtin .append, args := #[s, x], argTypes := #[22, 22] })
    (base : Nat) (v : Value) (ps : List (Pc × Value)) (hs : a.eval s = v) (hown : OwnP wr base v ps) (p : Pc) (ob : Option Addr) (cb : Nat) (hp : OwnB wr base (.slice ob p.b.length cb) p.b)
    (hx : a.eval x = .slice (some ⟨wr.heap.size, 0, none⟩) 1 1) (hl : ps.length ≤ 1000000) (hbase : base ≤ wr.heap.size)
    (h : ∀ v' w', OwnP w' base v' (ps ++ [(p, .slice ob p.b.length cb)]) → Below base wr w' → wpList Try.prog ops Q rest (a.put o.dst v') w') :
    wpList Try.prog ops Q (o :: rest) a (wr.alloc (.cells #[.int .i64 p.k, .int .u64 (p.n : Int), .slice ob p.b.length cb] 38)) := by
  obtain ⟨i0, hi0, hz0, hz1, hz2⟩ := info_parts info_piece
  have hbe : Below wr.heap.size wr (wr.alloc (.cells #[.int .i64 p.k, .int .u64 (p.n : Int), .slice ob p.b.length cb] 38)) := (Below.refl _ _).alloc (Nat.le_refl _) _
  refine wpList_append_own _ hgd s x 22 ho base 38 i0 _ 3 40 Try.underlying22 hi0 hz0 hz1 hz2 rfl (by decide) v ps.length (ps.flatMap pcCells) hs (ownsRow_below hown.1 hbe) ⟨wr.heap.size, 0, none⟩ 1 1
    [.int .i64 p.k, .int .u64 (p.n : Int), .slice ob p.b.length cb] hx rfl (cells_new _ _ _) (by simp [Value.oneCell']) (by unfold maxLen; omega) (by omega) (Nat.le_trans hbase hbe.size) ?_
  intro v' w' h1 h2 _
  refine h v' w' ⟨?_, fun q hq => ?_⟩ ((hbe.mono hbase).trans ((Below.refl base _).grown h2 (Nat.le_trans hbase hbe.size) (fun k hk => ((ownsRow_below hown.1 hbe).lt k hk).1)))
  · rw [List.length_append, List.flatMap_append]
    exact h1
  · rcases List.mem_append.1 hq with hq | hq
    · exact ((hown.2 q hq).below hbe).grown (ownsRow_below hown.1 hbe) h2
    · obtain rfl : q = (p, .slice ob p.b.length cb) := by simpa using hq
      exact (hp.below hbe).grown (ownsRow_below hown.1 hbe) h2
theorem flat_get (ps : List (Pc × Value)) : ∀ (i j : Nat) (q : Pc × Value), ps[i]? = some q → j < 3 → (ps.flatMap pcCells)[i * 3 + j]? = (pcCells q)[j]? := by
  induction ps with
  | nil => intro i j q h; simp at h
  | cons a ps ih =>
    intro i j q h hj
    rw [List.flatMap_cons]
    have ha : (pcCells a).length = 3 := rfl
    cases i with
    | zero =>
      obtain rfl : a = q := by simpa using h
      rw [Nat.zero_mul, Nat.zero_add, List.getElem?_append_left (by omega)]
    | succ i =>
      rw [List.getElem?_append_right (by omega), ha, show (i + 1) * 3 + j - 3 = i * 3 + j by omega]
      exact ih i j q (by simpa using h) hj
/-- what is owned reads as pieces -/
theorem OwnP.pieces {w : World} {base : Nat} {v : Value} {ps : List (Pc × Value)} (h : OwnP w base v ps) : Pieces w w.heap.size v (ps.map (·.1)) := by
  obtain ⟨⟨h1, h2⟩, h3⟩ := h
  rcases h2 with ⟨rfl, h0⟩ | ⟨g, cap, cur, rfl, _, hg, hn, _, hc, hx⟩
  · exact .inl ⟨rfl, by rw [List.length_eq_zero_iff.1 h0]; rfl⟩
  · refine .inr (.inr ⟨g, 0, cap, by simp, by simpa using hn, fun i p hp => ?_⟩)
    obtain ⟨q, hq, rfl⟩ : ∃ q, ps[i]? = some q ∧ q.1 = p := by simpa using hp
    refine ⟨(Array.getElem?_eq_some_iff.1 hg).1, q.2, ?_⟩
    have hil : i < ps.length := (List.getElem?_eq_some_iff.1 hq).1
    have cell : ∀ j, j < 3 → w.cell? ⟨g, 0 + i * 3 + j, none⟩ = (pcCells q)[j]? := fun j hj => by
      rw [cell_of_row w g _ cur _ _ hg, ← flat_get ps i j q hq hj, ← hx, List.getElem?_take, if_pos (by omega), Nat.zero_add, Array.getElem?_toList]
    exact ⟨cell 0 (by omega), cell 1 (by omega), cell 2 (by omega), (h3 q (List.mem_of_getElem? hq)).bytes⟩
theorem rdAll_much (b : List (BitVec 8)) (h : 20000 < b.length) : rdAll b = .error 4 := by unfold rdAll; rw [if_pos h]
theorem rdAll_none (b : List (BitVec 8)) (h : ¬ 20000 < b.length) (hc : cutN b = none) : rdAll b = .error 2 := by unfold rdAll; rw [if_neg h, hc]
theorem rdAll_many (b r : List (BitVec 8)) (n : Nat) (h : ¬ 20000 < b.length) (hc : cutN b = some (n, r)) (hn : 200 < n) : rdAll b = .error 2 := by unfold rdAll; rw [if_neg h, hc]; simp only; rw [if_pos hn]
theorem rdAll_go (b r : List (BitVec 8)) (n : Nat) (h : ¬ 20000 < b.length) (hc : cutN b = some (n, r)) (hn : ¬ 200 < n) : rdAll b = match rdGo n [] r with | none => .error 2 | some l => .ok l := by unfold rdAll; rw [if_neg h, hc]; simp only; rw [if_neg hn]; cases rdGo n [] r <;> rfl
theorem rdGo_zero (acc : List Pc) (b : List (BitVec 8)) : rdGo 0 acc b = if b.length = 0 then some acc else none := rfl
theorem rdGo_none (c : Nat) (acc : List Pc) (b : List (BitVec 8)) (hc : 0 < c) (h : cutP b = none) : rdGo c acc b = none := by
  cases c with
  | zero => omega
  | succ c => rw [rdGo, h]
theorem rdGo_step (c d : Nat) (acc : List Pc) (b r : List (BitVec 8)) (p : Pc) (hc : c = d + 1) (h : cutP b = some (p, r)) : rdGo c acc b = rdGo d (acc ++ [p]) r := by
  subst hc
  rw [rdGo, h]

set_option maxRecDepth 100000 in
set_option maxHeartbeats 2000000 in
theorem read_any (b : List (BitVec 8)) (sv : Value) (N : Nat) (w : World) (hb : Bytes w N sv b) (hN : N ≤ w.heap.size) (hlen : b.length ≤ 140737488355328) :
    Calls Try.prog 9 #[sv] w fun e w' => Below w.heap.size w w' ∧
      ((∃ m v, rdAll b = .ok m ∧ e = .returned (.tuple #[v, .int .i64 0]) ∧ Pieces w' w'.heap.size v m) ∨
       ∃ c, rdAll b = .error c ∧ e = .returned (.tuple #[.slice none 0 0, .int .i64 c])) := by
  obtain ⟨oa, ca, rfl, hca⟩ := hb.shape
  have HB := hid hb
  clear hb
  generalize hn : b.length = n at *
  have HN := hid hn
  clear hn
  by_cases hmuch : 20000 < n
  · have e1 : decide ((20000 : Int) < (n : Int)) = true := by simp; omega
    go_enter Try.func9, Try.ntmps9
    go_wp2
    go_ret2
    exact ⟨Below.refl _ _, .inr ⟨4, rdAll_much b (by rw [HN.out]; exact hmuch), rfl⟩⟩
  · have e1 : decide ((20000 : Int) < (n : Int)) = false := by simp; omega
    have HM := hid (show ¬ 20000 < b.length by rw [HN.out]; exact hmuch)
    have HC := hid (cutNumber_any b _ N w HB.out (by rw [HN.out]; omega))
    go_enter Try.func9, Try.ntmps9
    go_wp2_with fail
    refine HC.out.mono ?_
    rintro e w1 ⟨⟨q, rfl⟩, ⟨hc, rfl⟩ | ⟨c, r, v, hc, rfl, hv⟩⟩
    · go_wp2
      go_ret2
      exact ⟨drewN_below _ _ _, .inr ⟨2, rdAll_none b HM.out hc, rfl⟩⟩
    · have HCN := hid hc
      have HV := hid hv
      have hc64 := (cutN_some hc).2
      have hrl : r.length ≤ 20000 := by have h1 := (cutN_some hc).1; have h2 := HM.out; rw [h1] at h2; simp at h2; omega
      clear hc hv
      by_cases hmany : 200 < c
      · have e2 : decide ((200 : Int) < (c : Int)) = true := by simp; omega
        go_wp2
        go_ret2
        exact ⟨drewN_below _ _ _, .inr ⟨2, rdAll_many b r c HM.out HCN.out hmany, rfl⟩⟩
      · have e2 : decide ((200 : Int) < (c : Int)) = false := by simp; omega
        have HGO := hid (rdAll_go b r c HM.out HCN.out hmany)
        go_wp2_with fail
        go_loopw [5, 7, 25] (fun y z i wr => ∃ (k : Nat) (ps : List (Pc × Value)) (t : List (BitVec 8)), k ≤ c ∧ ps.length = k ∧ t.length ≤ 20000 ∧ i = .int .u64 (k : Int) ∧ Hid (Bytes w N y t ∧ OwnP wr w.heap.size z ps ∧ Below w.heap.size w wr ∧ rdGo c [] r = rdGo (c - k) (ps.map (·.1)) t)) (fun _ _ i _ => c - (intOf i).toNat)
        case atStart => exact ⟨0, [], r, by omega, rfl, hrl, rfl, HV.out, OwnP.nil _ _, drewN_below _ _ _, rfl⟩
        case round =>
          obtain ⟨k, ps, t, hk, hps, ht, rfl, HR⟩ := hrel
          have HPL := hid (show ps.length ≤ 1000000 by omega)
          have HPS := hid hps
          clear hps
          by_cases hlt : k < c
          · obtain ⟨oy, cy, rfl, hcy⟩ := HR.out.1.shape
            obtain ⟨oz, cz, rfl, hcz⟩ := HR.out.2.1.shape
            have hlt' : (k : Int) < (c : Int) := by omega
            have hszr := HR.out.2.2.1.size
            obtain ⟨w1, hw1⟩ : ∃ w1, wr.alloc (.cells #[.int .i64 0, .int .u64 0, .slice none 0 0] 38) = w1 := ⟨_, rfl⟩
            have hsz1 : w1.heap.size = wr.heap.size + 1 := by rw [← hw1]; simp
            have hb1 : Below wr.heap.size wr w1 := by rw [← hw1]; exact (Below.refl _ _).alloc (Nat.le_refl _) _
            have hrow1 : Row w1 wr.heap.size 38 [.int .i64 0, .int .u64 0, .slice none 0 0] := by rw [← hw1]; exact Row.new _ _ _
            have hbw1 : Below w.heap.size w w1 := HR.out.2.2.1.trans (hb1.mono hszr)
            have HCP := hid (cutPiece_any t (.slice oy t.length cy) N w1 (HR.out.1.below (hbw1.mono hN)) (by omega) (by omega))
            have HB1 := hid hb1
            have HR1 := hid hrow1
            have HBW1 := hid hbw1
            have HW1 := hid hw1
            clear hb1 hrow1 hbw1 hw1
            go_wp2_with fail
            rw [HW1.out]
            refine HCP.out.mono ?_
            rintro e w2 ⟨hb2, ⟨hcut, rfl⟩ | ⟨p, t', vb, vr, hcut, rfl, hvb, hvr⟩⟩
            · obtain ⟨c0, c1, c2, z0, z1, z2⟩ := (HR1.out.below hb2 (by omega)).three
              have HB2 := hid hb2
              have HCUT := hid hcut
              unfold pcV
              clear hb2 hcut
              go_wp2
              go_ret2
              refine ⟨?_, .inr ⟨2, ?_, rfl⟩⟩
              · exact below_set3 (HBW1.out.trans (HB2.out.mono (by omega))) hszr _ _ _
              · rw [HGO.out, HR.out.2.2.2, rdGo_none _ _ _ (by omega) HCUT.out]
            · obtain ⟨ob, cb, rfl, hcb⟩ := hvb.shape
              have hrow2 := HR1.out.below hb2 (by omega)
              obtain ⟨c0, c1, c2, z0, z1, z2⟩ := hrow2.three
              obtain ⟨d0, d1, d2⟩ := hrow2.set3 (.int .i64 p.k) (.int .u64 (p.n : Int)) (.slice ob p.b.length cb)
              obtain ⟨w3, hw3⟩ : ∃ w3, ((w2.setCell ⟨wr.heap.size, 0, none⟩ (.int .i64 p.k)).setCell ⟨wr.heap.size, 1, none⟩ (.int .u64 (p.n : Int))).setCell ⟨wr.heap.size, 2, none⟩ (.slice ob p.b.length cb) = w3 := ⟨_, rfl⟩
              have hb3 : Below wr.heap.size wr w3 := by rw [← hw3]; exact below_set3 (HB1.out.trans (hb2.mono (by omega))) (Nat.le_refl _) _ _ _
              have hvb3 : OwnB w3 w.heap.size (.slice ob p.b.length cb) p.b := by rw [← hw3]; exact (hvb.set3 (show wr.heap.size < w1.heap.size by omega) _ _ _).mono (by omega)
              rw [hw3] at d0 d1 d2
              have HB3 := hid (HR.out.2.2.1.trans (hb3.mono hszr))
              have HO3 := hid (HR.out.2.1.below hb3)
              have HVB3 := hid hvb3
              have HVR := hid (hvr.above HBW1.out hN)
              have HCUT := hid hcut
              have HSZ3 := hid (show w.heap.size ≤ w3.heap.size by have := hb3.size; omega)
              unfold pcV
              clear hb2 hb3 hvb3 hvb hvr hcut hrow2
              go_wp2_with (at_builtin; refine wpList_append_piece rfl (.tmp 35) (.tmp 37) rfl w.heap.size _ ps rfl HO3.out p ob cb HVB3.out rfl HPL.out HSZ3.out ?_; intro v' w4 hown4 hb4)
              go_roundw
              case rel =>
                refine ⟨k + 1, ps ++ [(p, .slice ob p.b.length cb)], t', by omega, by simp [HPS.out], ?_, by go_num, HVR.out, hown4, HB3.out.trans hb4, ?_⟩
                · have h1 := congrArg List.length (cutP_some HCUT.out).1
                  simp at h1; omega
                · rw [HR.out.2.2.2, rdGo_step (c - k) (c - (k + 1)) _ t t' p (by omega) HCUT.out]
                  simp
              case measure => simp [intOf]; omega
          · have hge : decide ((k : Int) < (c : Int)) = false := by simp; omega
            obtain ⟨oy, cy, rfl, hcy⟩ := HR.out.1.shape
            have hkc : c - k = 0 := by omega
            have HGO2 := hid (show rdGo c [] r = if t.length = 0 then some (ps.map (·.1)) else none by rw [HR.out.2.2.2, hkc, rdGo_zero])
            by_cases ht0 : t.length = 0
            · have e3 : decide ((0 : Int) < (t.length : Int)) = false := by rw [ht0]; decide
              go_wp2
              go_ret2
              exact ⟨HR.out.2.2.1, .inl ⟨_, _, by rw [HGO.out, HGO2.out, if_pos ht0], rfl, HR.out.2.1.pieces⟩⟩
            · have e3 : decide ((0 : Int) < (t.length : Int)) = true := decide_eq_true (by omega)
              go_wp2
              go_ret2
              exact ⟨HR.out.2.2.1, .inr ⟨2, by rw [HGO.out, HGO2.out, if_neg ht0], rfl⟩⟩
end Go.Proofs.Ythogidagokdipab
