/-
  What package state's keyOf, numbers, connVal and chanVal answer: keys, and the bytes of numbers.
-/
import Derived.Test.YtclhcjiblfokaaaGreatDoorppStApp
import Derived.Test.YtclhcjiblfokaaaGreatDoorppStMem
import Derived.Deep.RegionHeld3
import Derived.Deep.RegionWith
namespace Go.Proofs.YtclhcjiblfokaaaGreatDoor
open Go.RowKit

theorem keyL_flat (l : List Nat) : ∀ (k : List (BitVec 8)), keyL k l = k ++ l.flatMap (fun n => 47 :: digN n) := by
  induction l with
  | nil => intro k; simp [keyL]
  | cons n l ih => intro k; rw [keyL, ih, List.flatMap_cons]; simp
/-- a conversion's row is the call's own -/
theorem text_own (w : World) (s : ByteArray) (hs : s.size ≤ 1000) : OwnM (Lib.bytesWorld w 5 s) w.heap.size (.slice (some ⟨w.heap.size, 0, none⟩) s.size (grownCap w s.size 0 5)) (lets s) := by
  have hge := grownCap_ge w s.size 0 5
  have hcs : (Lib.bytesCells w 5 s).size = grownCap w s.size 0 5 := by
    have : s.data.size = s.size := rfl
    simp [Lib.bytesCells]; omega
  refine ⟨w.heap.size, _, _, _, by rw [lets_length], Nat.le_refl _, Lib.bytesWorld_at_new w 5 s, .inr (Nat.le_refl _), by rw [lets_length]; exact hge, grownCap_le_maxLen w s.size 0 5 (by simp only [maxLen]; omega), hcs, ?_⟩
  rw [lets_length]
  unfold Lib.bytesCells lets
  have e : s.size = (s.data.map fun b => Value.int .u8 (b.toNat : Int)).toList.length := by simp
  rw [Array.toList_append, e, List.take_left]
  simp [V, b8]
theorem one_new (w : World) (b : BitVec 8) : Bytes (w.alloc (.cells #[.int .u8 (b8 b)] 5)) (w.heap.size + 1) (.slice (some ⟨w.heap.size, 0, none⟩) 1 1) [b] := by
  refine .inr (.inr ⟨w.heap.size, 0, 1, rfl, by simp, fun i hi => ⟨by omega, ?_⟩⟩)
  obtain rfl : i = 0 := by simpa using hi
  rw [Row.cell (Row.new w 5 [.int .u8 (b8 b)])]
  rfl
def keyP (k : List (BitVec 8)) (ns : List Int) (j : Nat) : List (BitVec 8) := k ++ (ns.take j).flatMap (fun n => 47 :: digN n.toNat)
theorem keyP_next (k : List (BitVec 8)) (ns : List Int) (j : Nat) (n : Int) (h : ns[j]? = some n) : keyP k ns (j + 1) = keyP k ns j ++ [47] ++ digN n.toNat := by
  unfold keyP
  rw [List.take_add_one, h]
  simp
theorem keyP_all (k : List (BitVec 8)) (ns : List Int) (j : Nat) (h : ns.length ≤ j) : keyP k ns j = keyL k (ns.map (·.toNat)) := by
  unfold keyP
  rw [keyL_flat, List.take_of_length_le h, List.flatMap_map]
theorem keyP_len (k : List (BitVec 8)) (ns : List Int) (hp : ∀ n ∈ ns, 0 ≤ n ∧ n ≤ 1000000000000) : ∀ j, j ≤ ns.length → (keyP k ns j).length ≤ k.length + 14 * j := by
  intro j
  induction j with
  | zero => intro _; simp [keyP]
  | succ j ih =>
    intro hj
    obtain ⟨n, hn⟩ : ∃ n, ns[j]? = some n := ⟨_, List.getElem?_eq_getElem (by omega)⟩
    have := ih (by omega)
    have h2 := hp n (List.mem_of_getElem? hn)
    have h3 := digN_len 12 n.toNat (by omega)
    rw [keyP_next k ns j n hn]
    simp only [List.length_append, List.length_singleton]
    omega
set_option maxRecDepth 100000 in
set_option maxHeartbeats 4000000 in
theorem keyOf_any (kind : ByteArray) (ns : List Int) (g n : Nat) (w : World) (hk : kind.size ≤ 100) (hr : Row w g 3 (ns.map (Value.int .i64))) (hn : n = ns.length) (hl : n ≤ 10) (hp : ∀ n ∈ ns, 0 ≤ n ∧ n ≤ 1000000000000) (htab : powAt w) :
    Calls Tryz.prog 99 #[.string kind, .slice (some ⟨g, 0, none⟩) n n] w fun e w' => ∃ v, e = .returned v ∧ OwnM w' w.heap.size v (keyL (lets kind) (ns.map (·.toNat))) ∧ Below w.heap.size w w' := by
  have hgl := hr.lt
  have hcv := conv_text w kind
  obtain ⟨wb, hwb⟩ : ∃ wb, Lib.bytesWorld w 5 kind = wb := ⟨_, rfl⟩
  have hown0 := text_own w kind (by omega)
  have hb0 := text_below w kind
  rw [hwb] at hcv hown0 hb0
  have HB0 := hid hb0
  have HO0 := hid hown0
  have HR := hid hr
  have HT := hid htab
  have HP := hid hp
  have HN := hid hn
  have hlk : (lets kind).length ≤ 100 := by rw [lets_length]; exact hk
  have HLN := hid (keyP_len (lets kind) ns hp)
  clear hr htab hown0 hb0 hwb hp hn
  go_enter Tryz.func99, Tryz.ntmps99
  go_wp2_with fail
  go_loopw [5, 7, 12] (fun o _ i wr => ∃ k : Nat, k ≤ n ∧ i = .int .i64 (k : Int) ∧ Hid (OwnM wr w.heap.size o (keyP (lets kind) ns k) ∧ Below w.heap.size w wr)) (fun _ _ i _ => n - (intOf i).toNat)
  case atStart => exact ⟨0, by omega, rfl, hid ⟨by have := HO0.out; simpa [keyP] using this, HB0.out⟩⟩
  case round =>
    obtain ⟨k, hk', rfl, HI⟩ := hrel
    have HBW := hid HI.out.2
    have HOW := hid HI.out.1
    have hszw := HBW.out.size
    clear HI
    by_cases hlt : k < n
    · obtain ⟨x, hx⟩ : ∃ x, ns[k]? = some x := ⟨ns[k]'(by rw [← HN.out]; exact hlt), List.getElem?_eq_getElem _⟩
      have hlt' : (k : Int) < (n : Int) := by omega
      have c0 : wr.cell? ⟨g, k, none⟩ = some (.int .i64 x) := by rw [(HR.out.below HBW.out hgl).cell, List.getElem?_map, hx]; rfl
      have hx0 := HP.out x (List.mem_of_getElem? hx)
      obtain ⟨u, rfl⟩ : ∃ u : Nat, x = (u : Int) := ⟨x.toNat, by omega⟩
      have HX := hid hx
      have HNX := hid (keyP_next (lets kind) ns k _ hx)
      have hln := HLN.out k (by rw [← HN.out]; omega)
      clear hx
      go_wp2_with (at_builtin; refine Hid.out ?_)
      refine hid ?_
      refine wpList_appendM rfl (.tmp 16) (.tmp 17) rfl w.heap.size _ _ (keyP (lets kind) ns k) [47] rfl (HOW.out.below ((Below.refl _ _).alloc (Nat.le_refl _) _)) (wr.heap.size + 1) rfl (one_new wr 47) (by simp; omega) (by simp; omega) ?_
      intro v1 w1 ho1 hb1 _
      have HB1 := hid (HBW.out.trans (((Below.refl _ _).alloc hszw _).trans hb1))
      have HAP := hid (appendInt_any u (by omega) _ v1 w.heap.size w1 HB1.out.size ho1 (by simp; omega) (HT.out.below HB1.out))
      clear ho1 hb1
      go_wp2_with (go_at_call 142; refine (HAP.out).mono ?_; rintro e w2 ⟨v2, rfl, ho2, hb2, -⟩)
      go_roundw
      case rel => exact ⟨k + 1, by omega, by go_num, hid ⟨by rw [HNX.out]; exact ho2, HB1.out.trans hb2⟩⟩
      case measure => simp [intOf]; omega
    · have hge : decide ((k : Int) < (n : Int)) = false := by simp; omega
      have HE := hid (keyP_all (lets kind) ns k (by rw [← HN.out]; omega))
      obtain ⟨ov, hov⟩ : ∃ ov, u5 = ov := ⟨_, rfl⟩
      go_wp2
      go_ret
      exact ⟨_, rfl, by rw [← HE.out]; exact HOW.out, HBW.out⟩
theorem numB_ne (n : Nat) : numB n ≠ [] := by
  by_cases h : n < 128
  · rw [numB_small h]; simp
  · rw [numB_big (by omega)]; simp
theorem numsB_ne (l : List Int) : numsB l ≠ [] := by
  unfold numsB
  intro h
  exact numB_ne _ (List.append_eq_nil_iff.1 h).1
theorem OwnM.of_own {w : World} {base : Nat} {v : Value} {l : List (BitVec 8)} (h : OwnB w base v l) (hl : l ≠ []) : OwnM w base v l := by
  refine OwnM.of_new h fun e => ?_
  obtain ⟨h1, ⟨_, h0⟩ | ⟨g, cap, cur, hv, _⟩⟩ := h
  · exact hl (List.length_eq_zero_iff.1 h0)
  · rw [e] at hv; simp at hv
theorem OwnM.mono {w : World} {base base' : Nat} {v : Value} {l : List (BitVec 8)} (h : OwnM w base v l) (hb : base' ≤ base) : OwnM w base' v l := by
  obtain ⟨g, cap, cur, fz, h1, h2, h3⟩ := h
  exact ⟨g, cap, cur, fz, h1, Nat.le_trans hb h2, h3⟩
/-- the first k numbers stand in a row of pieces -/
def Laid (cs : List Value) (ns : List Int) (n k : Nat) : Prop := cs.length = n * 3 ∧ ∀ (i : Nat) x, i < k → ns[i]? = some x → cs[i * 3]? = some (.int .i64 1) ∧ cs[i * 3 + 1]? = some (.int .u64 x) ∧ cs[i * 3 + 2]? = some (.slice none 0 0)
theorem Laid.next {cs : List Value} {ns : List Int} {n k : Nat} {x : Int} (h : Laid cs ns n k) (hx : ns[k]? = some x) (hk : k < n) : Laid (((cs.set (k * 3) (.int .i64 1)).set (k * 3 + 1) (.int .u64 x)).set (k * 3 + 2) (.slice none 0 0)) ns n (k + 1) := by
  refine ⟨by simp [h.1], fun i y hi hy => ?_⟩
  have hl := h.1
  by_cases e : i = k
  · subst e
    obtain rfl : x = y := by rw [hx] at hy; simpa using hy
    refine ⟨?_, ?_, ?_⟩
    · rw [List.getElem?_set_ne (by omega), List.getElem?_set_ne (by omega), List.getElem?_set_self (by omega)]
    · rw [List.getElem?_set_ne (by omega), List.getElem?_set_self (by simp; omega)]
    · rw [List.getElem?_set_self (by simp; omega)]
  · obtain ⟨h1, h2, h3⟩ := h.2 i y (by omega) hy
    refine ⟨?_, ?_, ?_⟩
    · rw [List.getElem?_set_ne (by omega), List.getElem?_set_ne (by omega), List.getElem?_set_ne (by omega)]; exact h1
    · rw [List.getElem?_set_ne (by omega), List.getElem?_set_ne (by omega), List.getElem?_set_ne (by omega)]; exact h2
    · rw [List.getElem?_set_ne (by omega), List.getElem?_set_ne (by omega), List.getElem?_set_ne (by omega)]; exact h3
theorem laid_pieces {w : World} {g n : Nat} {cs : List Value} {ns : List Int} (hr : Row w g 71 cs) (h : Laid cs ns n n) (hn : n = ns.length) (hp : ∀ x ∈ ns, 0 ≤ x) : Pieces w w.heap.size (.slice (some ⟨g, 0, none⟩) n n) (ns.map numPc) := by
  refine .inr (.inr ⟨g, 0, n, by rw [List.length_map, hn], by rw [List.length_map, hn]; exact Nat.le_refl _, fun i p hi => ⟨hr.lt, .slice none 0 0, ?_⟩⟩)
  obtain ⟨x, hx, rfl⟩ : ∃ x, ns[i]? = some x ∧ numPc x = p := by simpa [List.getElem?_map] using hi
  have hil : i < ns.length := (List.getElem?_eq_some_iff.1 hx).1
  obtain ⟨h1, h2, h3⟩ := h.2 i x (by omega) hx
  have hx0 := hp x (List.mem_of_getElem? hx)
  rw [Nat.zero_add, hr.cell, hr.cell, hr.cell]
  refine ⟨h1, ?_, h3, .inl ⟨rfl, rfl⟩⟩
  rw [h2]
  congr 2
  show x = ((x.toNat : Nat) : Int)
  omega
set_option maxRecDepth 100000 in
set_option maxHeartbeats 4000000 in
theorem numbers_any (ns : List Int) (g n : Nat) (w : World) (hr : Row w g 3 (ns.map (Value.int .i64))) (hn : n = ns.length) (hl : n ≤ 4) (hp : ∀ x ∈ ns, 0 ≤ x ∧ x ≤ 9223372036854775807) :
    Calls Tryz.prog 149 #[.slice (some ⟨g, 0, none⟩) n n] w fun e w' => ∃ v, e = .returned v ∧ OwnM w' w.heap.size v (numsB ns) ∧ Below w.heap.size w w' := by
  have hgl := hr.lt
  obtain ⟨i0, hi0, hz0, hz1, hz2⟩ := info_parts info_piece
  obtain ⟨w1, hrun, hown1, hgr1⟩ := run_make_full (P := Tryz.prog) w w.heap.size 73 71 i0 _ 3 Tryz.underlying73 hi0 hz0 hz1 .i64 .i64 n (by rw [hz2]; omega) (by unfold maxLen; omega) (Nat.le_refl _)
  have HB1 := hid (show Below w.heap.size w w1 from ⟨hgr1.os, hgr1.tape, hgr1.output, hgr1.size, fun k hk => hgr1.block k hk (by simp)⟩)
  obtain ⟨cs, HROW, HLEN⟩ : ∃ cs : List Value, Hid (Row w1 w.heap.size 71 cs) ∧ Hid (cs.length = n * 3) := by
    obtain ⟨h1, ⟨h2, _⟩ | ⟨g', cap, cur, h2, _, hg, _, _, hcs, _⟩⟩ := hown1
    · simp at h2
    · simp at h2
      obtain ⟨rfl, rfl⟩ := h2
      exact ⟨cur.toList, hid (by unfold Row; simpa using hg), hid (by simpa using hcs)⟩
  have HR := hid hr
  have HP := hid hp
  have HN := hid hn
  have HWR := hid (nums_wr ns (by omega) (fun x hx => by have := hp x hx; omega)).1
  have HFIT := hid (show ∀ p ∈ ns.map numPc, p.fits from fun p hpm => by
    obtain ⟨x, hx, rfl⟩ := List.mem_map.1 hpm
    have := hp x hx
    refine ⟨?_, ?_⟩
    · show x.toNat < _; omega
    · simp [numPc])
  clear hr hown1 hgr1 hp hn
  go_enter Tryz.func149, Tryz.ntmps149
  go_wp2_with fail
  go_loopw [4, 5, 13] (fun _ _ i wr => ∃ k : Nat, k ≤ n ∧ i = .int .i64 (k : Int) ∧ Hid (Below w.heap.size w wr ∧ ∃ cs, Row wr w.heap.size 71 cs ∧ Laid cs ns n k)) (fun _ _ i _ => n - (intOf i).toNat)
  case atStart => exact ⟨0, by omega, rfl, hid ⟨HB1.out, cs, HROW.out, HLEN.out, fun i x hi => absurd hi (by omega)⟩⟩
  case round =>
    obtain ⟨k, hk', rfl, HI⟩ := hrel
    obtain ⟨hbw, cs', hrow, hlaid⟩ := HI.out
    have HBW := hid hbw
    have HRW := hid hrow
    have HLD := hid hlaid
    have hszw := HBW.out.size
    have hlt0 := hrow.lt
    clear HI hbw hrow hlaid
    by_cases hlt : k < n
    · obtain ⟨x, hx⟩ : ∃ x, ns[k]? = some x := ⟨ns[k]'(by rw [← HN.out]; exact hlt), List.getElem?_eq_getElem _⟩
      have hlt' : (k : Int) < (n : Int) := by omega
      have c0 : wr.cell? ⟨g, k, none⟩ = some (.int .i64 x) := by rw [(HR.out.below HBW.out hgl).cell, List.getElem?_map, hx]; rfl
      have hx0 := HP.out x (List.mem_of_getElem? hx)
      have hwx : IntKind.u64.wrap x = x := by rw [IntKind.wrap_u64]; omega
      have hl3 := HLD.out.1
      obtain ⟨q0, e0⟩ : ∃ q, cs'[k * 3]? = some q := ⟨_, List.getElem?_eq_getElem (by omega)⟩
      obtain ⟨q1, e1⟩ : ∃ q, cs'[k * 3 + 1]? = some q := ⟨_, List.getElem?_eq_getElem (by omega)⟩
      obtain ⟨q2, e2⟩ : ∃ q, cs'[k * 3 + 2]? = some q := ⟨_, List.getElem?_eq_getElem (by omega)⟩
      have y0 : wr.cell? ⟨w.heap.size, k * 3, none⟩ = some q0 := by rw [HRW.out.cell]; exact e0
      have y1 : wr.cell? ⟨w.heap.size, k * 3 + 1, none⟩ = some q1 := by rw [HRW.out.cell]; exact e1
      have y2 : wr.cell? ⟨w.heap.size, k * 3 + 2, none⟩ = some q2 := by rw [HRW.out.cell]; exact e2
      have f0 := HRW.out.frozen (k * 3)
      have f1 := HRW.out.frozen (k * 3 + 1)
      have f2 := HRW.out.frozen (k * 3 + 2)
      have HX := hid hx
      obtain ⟨wn, hwn⟩ : ∃ wn, ((wr.setCell ⟨w.heap.size, k * 3, none⟩ (.int .i64 1)).setCell ⟨w.heap.size, k * 3 + 1, none⟩ (.int .u64 x)).setCell ⟨w.heap.size, k * 3 + 2, none⟩ (.slice none 0 0) = wn := ⟨_, rfl⟩
      have HBN := hid (show Below w.heap.size w wn by rw [← hwn]; exact ((HBW.out.setCell (Nat.le_refl _) _).setCell (Nat.le_refl _) _).setCell (Nat.le_refl _) _)
      have HRN := hid (show Row wn w.heap.size 71 _ by rw [← hwn]; exact ((HRW.out.set (k * 3) _).set (k * 3 + 1) _).set (k * 3 + 2) _)
      have HLN := hid (HLD.out.next hx hlt)
      have HWN := hid hwn
      clear hx e0 e1 e2 hl3 hwn
      go_wp2
      first | rw [HWN.out] | skip
      go_roundw
      case rel => exact ⟨k + 1, by omega, by go_num, hid ⟨by first | exact HBN.out | (rw [HWN.out]; exact HBN.out), _, by first | exact HRN.out | (rw [HWN.out]; exact HRN.out), HLN.out⟩⟩
      case measure => simp [intOf]; omega
    · have hge : decide ((k : Int) < (n : Int)) = false := by simp; omega
      obtain rfl : k = n := by omega
      have HPC := hid (laid_pieces HRW.out HLD.out HN.out (fun x hx => (HP.out x hx).1))
      have HCL := hid (write_any (ns.map numPc) _ wr.heap.size wr HPC.out (Nat.le_refl _) (by rw [List.length_map, ← HN.out]; omega) HFIT.out)
      go_wp2_with fail
      refine HCL.out.mono ?_
      rintro e w2 ⟨hb2, ⟨x, v, hx, rfl, hown⟩ | ⟨c, i, hx, _⟩⟩
      · obtain rfl : numsB ns = x := by rw [HWR.out] at hx; simpa using hx
        have HB2 := hid (HBW.out.trans (hb2.mono hszw))
        have HO2 := hid (OwnM.mono (OwnM.of_own hown (numsB_ne ns)) hszw)
        clear hb2 hx hown
        unfold okV
        go_wp2
        go_ret
        exact ⟨_, rfl, HO2.out.below ((Below.refl _ _).alloc (Nat.le_refl _) _), HB2.out.alloc HB2.out.size _⟩
      · rw [HWR.out] at hx; cases hx
end Go.Proofs.YtclhcjiblfokaaaGreatDoor
